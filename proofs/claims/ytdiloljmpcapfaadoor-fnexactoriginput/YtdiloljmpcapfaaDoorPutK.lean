/- spec.HostPut: a host, written. -/
import Derived.Test.YtdiloljmpcapfaaDoorPutS
import Derived.Test.YtdiloljmpcapfaaDoorPutJ
set_option linter.unusedVariables false
namespace Go.Proofs.YtdiloljmpcapfaaDoor
open Go.RowKit Go.Shelf

theorem ok_not {k : Int} {s : ByteArray} {a : Int} (h : okH k s a = false) : named k s a = false ∧ numbered k s a = false := by
  unfold okH at h
  rw [Bool.or_eq_false_iff, Bool.or_eq_false_iff] at h
  exact h.2
set_option maxHeartbeats 2000000 in
set_option maxRecDepth 100000 in
theorem specPut (k : Int) (s : ByteArray) (a : Int) (w : World) (hs : s.size ≤ 1048576) :
    Calls Tryd.prog 12 #[.agg #[.int .i64 k, .string s, .int .i64 a]] w fun e w' => e = .returned (.string (mk (putT k s a))) ∧ Below w.heap.size w w' := by
  cases h1 : named k s a with
  | true =>
    obtain ⟨rfl, rfl, h60⟩ := named_facts h1
    have CO : Hid (∀ W, Calls Tryd.prog 10 #[.agg #[.int .i64 1, .string s, .int .i64 0]] W fun e w' => e = .returned (.bool true) ∧ Below W.heap.size W w') := fun W => by
      have : okH 1 s 0 = true := by unfold okH; rw [h1]; simp
      rw [← this]; exact specOk 1 s 0 W hs
    rw [put_named h1, mk_list]
    clear h1
    go_enter Tryd.func12, Tryd.ntmps12
    go_wp2_with fail
    refine (CO.out _).mono ?_
    rintro e W1 ⟨rfl, b1⟩
    have B1 : Below w.heap.size w W1 := box_below b1
    have c0 : W1.cell? ⟨w.heap.size, 0, none⟩ = some (.int .i64 1) := box_cell b1 0
    have c1 : W1.cell? ⟨w.heap.size, 1, none⟩ = some (.string s) := box_cell b1 1
    clear b1
    go_wp2
    go_ret
    exact ⟨rfl, B1⟩
  | false =>
    cases h2 : numbered k s a with
    | true =>
      obtain ⟨rfl, h0, h9, _⟩ := numbered_facts h2
      rw [put_numbered h1 h2]
      exact specPutFour s a w (by unfold okH; rw [h2]; simp) h0 h9 hs
    | false =>
      rw [put_none h1 h2]
      cases hok : okH k s a with
      | true =>
        have hn : noneH k s a = true := by unfold okH at hok; rw [h1, h2] at hok; simpa using hok
        unfold noneH at hn
        simp only [Bool.and_eq_true, decide_eq_true_eq, List.isEmpty_iff] at hn
        obtain ⟨⟨rfl, rfl⟩, he⟩ := hn
        have hs0 : s = ⟨#[]⟩ := zero_text s (by have : s.data.toList.length = s.size := by simp
                                                rw [he] at this; simpa using this.symm)
        subst hs0
        exact specPutNone w
      | false =>
        have CO : Hid (∀ W, Calls Tryd.prog 10 #[.agg #[.int .i64 k, .string s, .int .i64 a]] W fun e w' => e = .returned (.bool false) ∧ Below W.heap.size W w') := fun W => by
          rw [← hok]; exact specOk k s a W hs
        clear h1 h2 hok
        go_enter Tryd.func12, Tryd.ntmps12
        go_wp2_with fail
        refine (CO.out _).mono ?_
        rintro e W1 ⟨rfl, b1⟩
        have B1 : Below w.heap.size w W1 := box_below b1
        clear b1
        go_wp2
        go_ret
        exact ⟨rfl, B1⟩
end Go.Proofs.YtdiloljmpcapfaaDoor

/- impl.HostPut: a host, written. -/
import Derived.Test.YtdiloljmpcapfaaDoorPutI
import Derived.Test.YtdiloljmpcapfaaDoorNamF
import Derived.Handy
set_option linter.unusedVariables false
namespace Go.Proofs.YtdiloljmpcapfaaDoor
open Go.RowKit Go.Shelf

/-- A host, written; nothing of one that is not ok. -/
def putT (k : Int) (s : ByteArray) (a : Int) : List UInt8 := if named k s a = true then s.data.toList else if numbered k s a = true then fourT a else []
theorem put_named {k : Int} {s : ByteArray} {a : Int} (h : named k s a = true) : putT k s a = s.data.toList := by unfold putT; rw [if_pos h]
theorem put_numbered {k : Int} {s : ByteArray} {a : Int} (h1 : named k s a = false) (h : numbered k s a = true) : putT k s a = fourT a := by unfold putT; rw [if_neg (by rw [h1]; simp), if_pos h]
theorem put_none {k : Int} {s : ByteArray} {a : Int} (h1 : named k s a = false) (h : numbered k s a = false) : putT k s a = [] := by unfold putT; rw [if_neg (by rw [h1]; simp), if_neg (by rw [h]; simp)]
theorem fourT_len (a : Int) : (fourT a).length ≤ 15 := preT_len a 4
theorem putT_len (k : Int) (s : ByteArray) (a : Int) : (putT k s a).length ≤ 60 := by
  unfold putT
  split
  · rename_i h
    have := (named_facts h).2.2
    have hl : s.data.toList.length = s.size := by simp
    omega
  · split
    · have := fourT_len a; omega
    · simp

theorem cloneTo (s : ByteArray) (w : World) (hs : s.size ≤ 60) : Calls Tryd.prog 87 #[.string s] w fun e w' => e = .returned (.string s) ∧ Below w.heap.size w w' := by
  have CC : Hid (∀ W, Calls Tryd.prog 88 #[.string s] W fun e w' => e = .returned (.string s) ∧ Below W.heap.size W w') := fun W => Tryd.stringslite_Clone s W (by omega)
  go_enter Tryd.func87, Tryd.ntmps87
  go_wp2_with fail
  refine (CC.out _).mono ?_
  rintro e W1 ⟨rfl, b1⟩
  go_wp2
  go_ret
  exact ⟨rfl, b1⟩
set_option maxHeartbeats 1000000 in
set_option maxRecDepth 100000 in
theorem putNamed (s : ByteArray) (w : World) (hs : s.size ≤ 60) : Calls Tryd.prog 86 #[.string s] w fun e w' => e = .returned (.string s) ∧ Below w.heap.size w w' := by
  go_enter Tryd.func86, Tryd.ntmps86
  go_wp2_with fail
  refine (cloneTo s _ hs).mono ?_
  rintro e W1 ⟨rfl, b1⟩
  go_wp2
  go_ret
  exact ⟨rfl, b1⟩

set_option maxHeartbeats 2000000 in
set_option maxRecDepth 100000 in
theorem implPut (k : Int) (s : ByteArray) (a : Int) (w : World) (hm : ∃ m, w.cell? ⟨1, 0, none⟩ = some (.int .i64 m)) (hB : 0 < w.heap.size) (ht : Lib.TabIs Tryd.prog w "internal/strconv.uint64pow10" .u64 Lib.pow10Tab) (hs : s.size ≤ 1048576) :
    Calls Tryd.prog 21 #[.agg #[.int .i64 k, .string s, .int .i64 a]] w fun e w' => e = .returned (.string (mk (putT k s a))) ∧ Below w.heap.size w w' := by
  have hlt : 1 < w.heap.size := by
    obtain ⟨m, hm⟩ := hm
    exact cell_lt hm
  have HM : Hid (∀ W, Below w.heap.size w W → ∃ m, W.cell? ⟨1, 0, none⟩ = some (.int .i64 m)) := by
    obtain ⟨m, hm⟩ := hm
    intro W b
    exact ⟨m, (b.cell (p := ⟨1, 0, none⟩) hlt).trans hm⟩
  have HF : Hid (∀ W, Below w.heap.size w W → Calls Tryd.prog 26 #[.agg #[.int .i64 k, .string s, .int .i64 a]] W fun e w' => e = .returned (formV k s a) ∧ Below W.heap.size W w') := fun W b => hostFormOf k s a W (HM.out W b) hs
  have HT : Hid (∀ W, Below w.heap.size w W → Lib.TabIs Tryd.prog W "internal/strconv.uint64pow10" .u64 Lib.pow10Tab) := fun W b => tab_below ht b hB
  clear hm ht HM hlt
  cases h1 : named k s a with
  | true =>
    rw [form_named h1] at HF
    rw [put_named h1, mk_list]
    have h60 := (named_facts h1).2.2
    clear h1
    go_enter Tryd.func21, Tryd.ntmps21
    go_wp2_with fail
    refine (HF.out _ ((Below.refl _ w).alloc (Nat.le_refl _) _)).mono ?_
    rintro e W1 ⟨rfl, b1⟩
    have B1 : Below w.heap.size w W1 := box_below b1
    clear b1
    go_wp2_with fail
    refine (putNamed s _ h60).mono ?_
    rintro e W2 ⟨rfl, b2⟩
    have B2 : Below w.heap.size w W2 := B1.trans (b2.mono B1.size)
    go_wp2
    go_ret
    exact ⟨rfl, B2⟩
  | false =>
    cases h2 : numbered k s a with
    | true =>
      rw [form_numbered h1 h2] at HF
      rw [put_numbered h1 h2]
      obtain ⟨h0, h9⟩ := (numbered_facts h2).2.imp id (fun h => h.1)
      clear h1 h2
      have CP : Hid (∀ W, Below w.heap.size w W → Calls Tryd.prog 89 #[.int .i64 a] W fun e w' => e = .returned (.string (mk (fourT a))) ∧ Below W.heap.size W w') := fun W b => put a W h0 h9 (Nat.lt_of_lt_of_le hB b.size) (HT.out W b)
      generalize mk (fourT a) = r at *
      go_enter Tryd.func21, Tryd.ntmps21
      go_wp2_with fail
      refine (HF.out _ ((Below.refl _ w).alloc (Nat.le_refl _) _)).mono ?_
      rintro e W1 ⟨rfl, b1⟩
      have B1 : Below w.heap.size w W1 := box_below b1
      clear b1
      go_wp2_with fail
      refine (CP.out _ B1).mono ?_
      rintro e W2 ⟨rfl, b2⟩
      have B2 : Below w.heap.size w W2 := B1.trans (b2.mono B1.size)
      go_wp2
      go_ret
      exact ⟨rfl, B2⟩
    | false =>
      rw [form_none h1 h2] at HF
      rw [put_none h1 h2]
      clear h1 h2
      go_enter Tryd.func21, Tryd.ntmps21
      go_wp2_with fail
      refine (HF.out _ ((Below.refl _ w).alloc (Nat.le_refl _) _)).mono ?_
      rintro e W1 ⟨rfl, b1⟩
      have B1 : Below w.heap.size w W1 := box_below b1
      clear b1
      go_wp2
      go_ret
      exact ⟨rfl, B1⟩
end Go.Proofs.YtdiloljmpcapfaaDoor

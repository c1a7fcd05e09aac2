/- spec.OriginPut: an origin, written. -/
import Derived.Test.YtdiloljmpcapfaaDoorOrgI
import Derived.Test.YtdiloljmpcapfaaDoorPutK
set_option linter.unusedVariables false
namespace Go.Proofs.YtdiloljmpcapfaaDoor
open Go.RowKit Go.Shelf

set_option maxHeartbeats 4000000 in
set_option maxRecDepth 100000 in
theorem specOrigin (c : ByteArray) (k : Int) (s : ByteArray) (a p : Int) (w : World) (hs : s.size ≤ 1048576) :
    Calls Tryd.prog 5 #[.agg #[.string c, .int .i64 k, .string s, .int .i64 a, .int .i64 p]] w fun e w' => e = .returned (.string (orgT c k s a p)) ∧ Below w.heap.size w w' := by
  have CO : Hid (∀ W, Calls Tryd.prog 10 #[.agg #[.int .i64 k, .string s, .int .i64 a]] W fun e w' => e = .returned (.bool (okH k s a)) ∧ Below W.heap.size W w') := fun W => specOk k s a W hs
  have CP : Hid (∀ W, Calls Tryd.prog 12 #[.agg #[.int .i64 k, .string s, .int .i64 a]] W fun e w' => e = .returned (.string (mk (putT k s a))) ∧ Below W.heap.size W w') := fun W => specPut k s a W hs
  have hpl : (mk (putT k s a)).size ≤ 60 := by rw [mk_size]; exact putT_len k s a
  have CW : Hid (∀ W, Calls Tryd.prog 9 #[.string c] W fun e w' => e = .returned (.int .i64 (ownZ c)) ∧ w' = W) := fun W => l3Own c W
  have hB0 : Below w.heap.size w (w.alloc (Obj.cells #[.string c, .int .i64 k, .string s, .int .i64 a, .int .i64 p] 30)) := (Below.refl _ w).alloc (Nat.le_refl _) _
  rcases own_cases c with ho | ho
  · have HR : Hid (orgT c k s a p = ⟨#[110, 117, 108, 108]⟩) := by show _ = _; unfold orgT orgOk; rw [ho]; rfl
    have ho' : ownZ c < 0 := by omega
    clear ho
    go_enter Tryd.func5, Tryd.ntmps5
    go_wp2_with fail
    refine (CW.out _).mono ?_
    rintro e W1 ⟨rfl, rfl⟩
    go_wp2
    go_ret
    exact ⟨by rw [HR.out]; rfl, hB0⟩
  obtain ⟨hc5, ho2⟩ := own_small ho
  cases hok : okH k s a with
  | false =>
    have HR : Hid (orgT c k s a p = ⟨#[110, 117, 108, 108]⟩) := by show _ = _; unfold orgT orgOk; rw [hok]; simp
    rw [hok] at CO
    clear hok
    go_enter Tryd.func5, Tryd.ntmps5
    go_wp2_with fail
    refine (CW.out _).mono ?_
    rintro e W1 ⟨rfl, rfl⟩
    go_wp2_with fail
    refine (CO.out _).mono ?_
    rintro e W2 ⟨rfl, d2⟩
    have b2 := hB0.trans (d2.mono hB0.size)
    go_wp2
    go_ret
    exact ⟨by rw [HR.out]; rfl, b2⟩
  | true =>
    rw [hok] at CO
    by_cases hp : 0 ≤ p ∧ p ≤ 65535
    · have CN : Hid (∀ W, Calls Tryd.prog 11 #[.int .i64 p, .int .i64 0, .int .i64 65535] W fun e w' => e = .returned (.bool true) ∧ w' = W) := fun W => l1In_yes _ _ _ W hp
      obtain ⟨hp0, hp1⟩ := hp
      have CI : Hid (∀ W, Calls Tryd.prog 13 #[.int .i64 p] W fun e w' => e = .returned (.string (mk (dg p))) ∧ Below W.heap.size W w') := fun W => l1DecM p W hp0 (by omega)
      have hdl : (mk (dg p)).size ≤ 5 := by rw [mk_size]; exact dg_len5 p (by omega)
      have hyes : orgOk c k s a p = true := by unfold orgOk; rw [hok, decide_eq_true ho, decide_eq_true ⟨hp0, hp1⟩]; rfl
      have HR1 : Hid (p = ownZ c → orgT c k s a p = c ++ ⟨#[58, 47, 47]⟩ ++ mk (putT k s a)) := by intro h; unfold orgT; rw [if_pos hyes, if_pos h]
      have HR2 : Hid (¬ p = ownZ c → orgT c k s a p = c ++ ⟨#[58, 47, 47]⟩ ++ mk (putT k s a) ++ ⟨#[58]⟩ ++ mk (dg p)) := by intro h; unfold orgT; rw [if_pos hyes, if_neg h, ByteArray.append_assoc (c := mk (dg p))]
      clear hyes hok
      generalize mk (putT k s a) = P at *
      generalize mk (dg p) = D at *
      generalize orgT c k s a p = R at *
      generalize ownZ c = o at *
      have z1 : c.size + 3 ≤ 8 := by omega
      go_enter Tryd.func5, Tryd.ntmps5
      go_wp2_with fail
      refine (CW.out _).mono ?_
      rintro e W1 ⟨rfl, rfl⟩
      go_wp2_with fail
      refine (CO.out _).mono ?_
      rintro e W2 ⟨rfl, d2⟩
      have b2 := hB0.trans (d2.mono hB0.size)
      have q0 : W2.cell? ⟨w.heap.size, 0, none⟩ = some (.string c) := box_cell d2 0
      have q1 : W2.cell? ⟨w.heap.size, 1, none⟩ = some (.int .i64 k) := box_cell d2 1
      have q2 : W2.cell? ⟨w.heap.size, 2, none⟩ = some (.string s) := box_cell d2 2
      have q3 : W2.cell? ⟨w.heap.size, 3, none⟩ = some (.int .i64 a) := box_cell d2 3
      have q4 : W2.cell? ⟨w.heap.size, 4, none⟩ = some (.int .i64 p) := box_cell d2 4
      have hlt2 : w.heap.size < W2.heap.size := cell_lt q0
      clear d2
      go_wp2_with (first | (go_at_call 11; refine (CN.out _).mono ?_; rintro e W9 ⟨rfl, hW⟩; have hW2 := hW.symm; subst hW2) | fail)
      refine (fun (key : Hid ?restT) => ?restB) ?restP
      case restB =>
        go_region_with (first
          | (go_at_call 12; refine (CP.out _).mono ?_; rintro e W3 ⟨rfl, d3⟩; have p4 : W3.cell? ⟨w.heap.size, 4, none⟩ = some (.int .i64 p) := (d3.cell (p := ⟨w.heap.size, 4, none⟩) hlt2).trans q4; have p0 : W3.cell? ⟨w.heap.size, 0, none⟩ = some (.string c) := (d3.cell (p := ⟨w.heap.size, 0, none⟩) hlt2).trans q0)
          | fail)
        all_goals
          have b3 : Below w.heap.size w W3 := b2.drew.trans (d3.mono b2.size)
          clear d3
          revert p0 p4 b3
          revert W3
          exact key.out
      case restP =>
        intro W3 p0 p4 b3
        clear q0 q1 q2 q3 q4
        by_cases hpo : p = o
        · have HR : Hid (R = c ++ ⟨#[58, 47, 47]⟩ ++ P) := HR1.out hpo
          subst hpo
          clear HR1 HR2
          go_wp2
          go_region_with (first
            | (go_at_call 9; refine (CW.out _).mono ?_; rintro e W9 ⟨rfl, hW⟩; have hW2 := hW.symm; subst hW2)
            | fail)
          all_goals
            go_wp2
            go_ret
            exact ⟨by rw [HR.out]; rfl, b3.drew⟩
        · have HR : Hid (R = c ++ ⟨#[58, 47, 47]⟩ ++ P ++ ⟨#[58]⟩ ++ D) := HR2.out hpo
          have hpo' : (p == o) = false := beq_eq_false_iff_ne.2 hpo
          clear HR1 HR2
          go_wp2
          go_region_with (first
            | (go_at_call 9; refine (CW.out _).mono ?_; rintro e W9 ⟨rfl, hW⟩; have hW2 := hW.symm; subst hW2)
            | fail)
          all_goals
            go_wp2_with fail
            refine (CI.out _).mono ?_
            rintro e W4 ⟨rfl, d4⟩
            have b4 : Below w.heap.size w W4 := b3.drew.trans (d4.mono b3.size)
            clear d4
            go_wp2
            go_ret
            exact ⟨by rw [HR.out]; rfl, b4⟩
    · have HR : Hid (orgT c k s a p = ⟨#[110, 117, 108, 108]⟩) := by show _ = _; unfold orgT orgOk; rw [decide_eq_false hp]; simp
      have CN : Hid (∀ W, Calls Tryd.prog 11 #[.int .i64 p, .int .i64 0, .int .i64 65535] W fun e w' => e = .returned (.bool false) ∧ w' = W) := fun W => l1In_no _ _ _ W hp
      clear hok hp
      go_enter Tryd.func5, Tryd.ntmps5
      go_wp2_with fail
      refine (CW.out _).mono ?_
      rintro e W1 ⟨rfl, rfl⟩
      go_wp2_with fail
      refine (CO.out _).mono ?_
      rintro e W2 ⟨rfl, d2⟩
      have b2 := hB0.trans (d2.mono hB0.size)
      have q4 : W2.cell? ⟨w.heap.size, 4, none⟩ = some (.int .i64 p) := box_cell d2 4
      go_wp2_with (first | (go_at_call 11; refine (CN.out _).mono ?_; rintro e W9 ⟨rfl, hW⟩; have hW2 := hW.symm; subst hW2) | fail)
      go_ret
      exact ⟨by rw [HR.out]; rfl, b2⟩
end Go.Proofs.YtdiloljmpcapfaaDoor

/- spec.HostOk: whether a host is ok. -/
import Derived.Test.YtbogjajfbchdjaaDoorFormI
import Derived.Test.YtbogjajfbchdjaaDoorEndS
set_option linter.unusedVariables false
namespace Go.Proofs.YtbogjajfbchdjaaDoor
open Go.RowKit Go.Shelf

def noneH (k : Int) (s : ByteArray) (a : Int) : Bool := decide (k = 0 ∧ a = 0) && s.data.toList.isEmpty
def okH (k : Int) (s : ByteArray) (a : Int) : Bool := noneH k s a || (named k s a || numbered k s a)
theorem none_no {k : Int} {s : ByteArray} {a : Int} (h : ¬ (k = 0 ∧ a = 0)) : noneH k s a = false := by unfold noneH; rw [decide_eq_false h]; rfl
theorem ok_zero {s : ByteArray} {a : Int} : okH 0 s a = (decide (a = 0) && s.data.toList.isEmpty) := by
  unfold okH; rw [named_no (by omega), numbered_no (by omega)]; unfold noneH; simp
theorem ok_one {s : ByteArray} {a : Int} : okH 1 s a = (nameL s.data.toList && !endsL s.data.toList && decide (a = 0)) := by
  unfold okH; rw [none_no (by omega), numbered_no (by omega)]; unfold named
  by_cases ha : a = 0
  · subst ha; simp
  · simp [ha]
theorem ok_two {s : ByteArray} {a : Int} : okH 2 s a = (decide (0 ≤ a ∧ a ≤ 4294967295) && s.data.toList.isEmpty) := by
  unfold okH; rw [none_no (by omega), named_no (by omega)]; unfold numbered; simp
theorem ok_else {k : Int} {s : ByteArray} {a : Int} (h0 : k ≠ 0) (h1 : k ≠ 1) (h2 : k ≠ 2) : okH k s a = false := by
  unfold okH; rw [none_no (by omega), named_no (by omega), numbered_no (by omega)]; rfl
theorem zero_text (s : ByteArray) (h : s.size = 0) : s = ⟨#[]⟩ := by
  have := mk_list s
  have hl : s.data.toList.length = s.size := by simp
  rw [List.length_eq_zero_iff.1 (show s.data.toList.length = 0 by omega)] at this
  exact this.symm
theorem full_text (s : ByteArray) (h : s.size ≠ 0) : (s.toList == []) = false ∧ s.toList.isEmpty = false ∧ s.data.toList.isEmpty = false := by
  have hzn : s.toList ≠ [] := by rw [ByteArray.toList_eq]; exact list_ne s h
  exact ⟨beq_eq_false_iff_ne.2 hzn, List.isEmpty_eq_false_iff.2 hzn, List.isEmpty_eq_false_iff.2 (list_ne s h)⟩

set_option maxHeartbeats 4000000 in
set_option maxRecDepth 100000 in
theorem specOk (k : Int) (s : ByteArray) (a : Int) (w : World) (hs : s.size ≤ 1048576) :
    Calls Tryd.prog 25 #[.agg #[.int .i64 k, .string s, .int .i64 a]] w fun e w' => e = .returned (.bool (okH k s a)) ∧ Below w.heap.size w w' := by
  by_cases hk0 : k = 0
  · subst hk0
    have HO : Hid (okH 0 s a = (decide (a = 0) && s.data.toList.isEmpty)) := ok_zero
    by_cases hz : s.size = 0
    · have he := zero_text s hz
      subst he
      by_cases ha : a = 0
      · subst ha
        go_enter Tryd.func25, Tryd.ntmps25
        go_wp2
        go_ret
        exact ⟨by rw [HO.out]; rfl, (Below.refl _ w).alloc (Nat.le_refl _) _⟩
      · have e0 : (a == 0) = false := beq_eq_false_iff_ne.2 ha
        go_enter Tryd.func25, Tryd.ntmps25
        go_wp2
        go_ret
        exact ⟨by rw [HO.out, decide_eq_false ha]; rfl, (Below.refl _ w).alloc (Nat.le_refl _) _⟩
    · obtain ⟨f1, f2, f3⟩ := full_text s hz
      have HF : Hid (okH 0 s a = false) := by show _ = _; rw [HO.out, f3]; simp
      clear f3
      go_enter Tryd.func25, Tryd.ntmps25
      go_wp2
      go_ret
      exact ⟨by rw [HF.out]; rfl, (Below.refl _ w).alloc (Nat.le_refl _) _⟩
  · have e0 : (k == 0) = false := beq_eq_false_iff_ne.2 hk0
    by_cases hk1 : k = 1
    · subst hk1
      have HO : Hid (okH 1 s a = (nameL s.data.toList && !endsL s.data.toList && decide (a = 0))) := ok_one
      go_enter Tryd.func25, Tryd.ntmps25
      go_wp2_with fail
      refine (l2Name s _ hs).mono ?_
      rintro e W1 ⟨rfl, b1⟩
      have B1 : Hid (Below w.heap.size w W1) := box_below b1
      have hc1 : W1.cell? ⟨w.heap.size, 1, none⟩ = some (.string s) := box_cell b1 1
      have hc2 : W1.cell? ⟨w.heap.size, 2, none⟩ = some (.int .i64 a) := box_cell b1 2
      have hsz1 : W1.heap.size ≥ w.heap.size := B1.out.size
      clear b1
      cases hn : nameL s.data.toList with
      | false =>
        have HF : Hid (okH 1 s a = false) := by show _ = _; rw [HO.out, hn]; rfl
        go_wp2
        go_ret
        exact ⟨by rw [HF.out]; rfl, B1.out⟩
      | true =>
        have hl : s.data.toList.length = s.size := by simp
        have h60 := nameL_le _ hn
        have h60' : s.size ≤ 60 := by omega
        have h60i : (s.size : Int) ≤ 60 := by omega
        clear h60 hl
        go_wp2_with fail
        refine (l2Ends s _ (by omega)).mono ?_
        rintro e W2 ⟨rfl, b2⟩
        have hd2 : W2.cell? ⟨w.heap.size, 2, none⟩ = some (.int .i64 a) := (b2.cell (p := ⟨w.heap.size, 2, none⟩) (cell_lt hc2)).trans hc2
        have B2 : Hid (Below w.heap.size w W2) := B1.out.trans (b2.mono hsz1)
        clear b2 hc1 hc2
        cases he : endsL s.data.toList with
        | true =>
          have HF : Hid (okH 1 s a = false) := by show _ = _; rw [HO.out, hn, he]; rfl
          go_wp2
          go_ret
          exact ⟨by rw [HF.out]; rfl, B2.out⟩
        | false =>
          by_cases ha : a = 0
          · subst ha
            have HF : Hid (okH 1 s 0 = true) := by show _ = _; rw [HO.out, hn, he]; rfl
            go_wp2
            go_ret
            exact ⟨by rw [HF.out]; rfl, B2.out⟩
          · have e3 : (a == 0) = false := beq_eq_false_iff_ne.2 ha
            have HF : Hid (okH 1 s a = false) := by show _ = _; rw [HO.out, hn, he, decide_eq_false ha]; rfl
            go_wp2
            go_ret
            exact ⟨by rw [HF.out]; rfl, B2.out⟩
    · have e1 : (k == 1) = false := beq_eq_false_iff_ne.2 hk1
      by_cases hk2 : k = 2
      · subst hk2
        have HO : Hid (okH 2 s a = (decide (0 ≤ a ∧ a ≤ 4294967295) && s.data.toList.isEmpty)) := ok_two
        by_cases hz : s.size = 0
        · have he := zero_text s hz
          subst he
          by_cases ha : 0 ≤ a ∧ a ≤ 4294967295
          · have HF : Hid (okH 2 ⟨#[]⟩ a = true) := by show _ = _; rw [HO.out, decide_eq_true ha]; rfl
            have HA : Hid (0 ≤ a ∧ a ≤ 4294967295) := ha
            clear ha
            go_enter Tryd.func25, Tryd.ntmps25
            go_wp2_with (go_at_call 35; refine (l1In_yes _ _ _ _ HA.out).mono ?_; rintro e W1 ⟨rfl, hW⟩; have hW2 := hW.symm; subst hW2)
            go_ret
            exact ⟨by rw [HF.out]; rfl, (Below.refl _ w).alloc (Nat.le_refl _) _⟩
          · have HF : Hid (okH 2 ⟨#[]⟩ a = false) := by show _ = _; rw [HO.out, decide_eq_false ha]; rfl
            have HA : Hid (¬ (0 ≤ a ∧ a ≤ 4294967295)) := ha
            clear ha
            go_enter Tryd.func25, Tryd.ntmps25
            go_wp2_with (go_at_call 35; refine (l1In_no _ _ _ _ HA.out).mono ?_; rintro e W1 ⟨rfl, hW⟩; have hW2 := hW.symm; subst hW2)
            go_ret
            exact ⟨by rw [HF.out]; rfl, (Below.refl _ w).alloc (Nat.le_refl _) _⟩
        · obtain ⟨f1, f2, f3⟩ := full_text s hz
          have HF : Hid (okH 2 s a = false) := by show _ = _; rw [HO.out, f3]; simp
          clear f3
          go_enter Tryd.func25, Tryd.ntmps25
          go_wp2
          go_ret
          exact ⟨by rw [HF.out]; rfl, (Below.refl _ w).alloc (Nat.le_refl _) _⟩
      · have e2 : (k == 2) = false := beq_eq_false_iff_ne.2 hk2
        have HF : Hid (okH k s a = false) := ok_else hk0 hk1 hk2
        go_enter Tryd.func25, Tryd.ntmps25
        go_wp2
        go_ret
        exact ⟨by rw [HF.out]; rfl, (Below.refl _ w).alloc (Nat.le_refl _) _⟩
end Go.Proofs.YtbogjajfbchdjaaDoor

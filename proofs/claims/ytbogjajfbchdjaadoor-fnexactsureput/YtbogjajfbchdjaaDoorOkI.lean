/- impl.HostOk. -/
import Derived.Test.YtbogjajfbchdjaaDoorOkS
set_option linter.unusedVariables false
namespace Go.Proofs.YtbogjajfbchdjaaDoor
open Go.RowKit Go.Shelf

theorem below3 (w : World) (a b c : Obj) : Below w.heap.size w (((w.alloc a).alloc b).alloc c) :=
  have h1 := (Below.refl w.heap.size w).alloc (Nat.le_refl _) a
  have h2 := h1.alloc h1.size b
  h2.alloc h2.size c

theorem form_nil (k : Int) (s : ByteArray) (a : Int) : (formV k s a = .nilIface ∧ (named k s a || numbered k s a) = false) ∨ ((∃ t v, formV k s a = .iface t v) ∧ (named k s a || numbered k s a) = true) := by
  cases h1 : named k s a with
  | true => right; exact ⟨⟨_, _, form_named h1⟩, rfl⟩
  | false =>
    cases h2 : numbered k s a with
    | true => right; exact ⟨⟨_, _, form_numbered h1 h2⟩, rfl⟩
    | false => left; exact ⟨form_none h1 h2, rfl⟩

set_option maxHeartbeats 4000000 in
set_option maxRecDepth 100000 in
theorem implOk (k : Int) (s : ByteArray) (a : Int) (w : World) (hm : ∃ m, w.cell? ⟨0, 0, none⟩ = some (.int .i64 m)) (hs : s.size ≤ 1048576) :
    Calls Tryd.prog 26 #[.agg #[.int .i64 k, .string s, .int .i64 a]] w fun e w' => e = .returned (.bool (okH k s a)) ∧ Below w.heap.size w w' := by
  have hlt : 0 < w.heap.size := by
    obtain ⟨m, hm⟩ := hm
    exact cell_lt hm
  have HM : Hid (∀ W, Below w.heap.size w W → ∃ m, W.cell? ⟨0, 0, none⟩ = some (.int .i64 m)) := by
    obtain ⟨m, hm⟩ := hm
    intro W b
    exact ⟨m, (b.cell (p := ⟨0, 0, none⟩) hlt).trans hm⟩
  clear hm
  cases hz : noneH k s a with
  | true =>
    have HO : Hid (okH k s a = true) := by show _ = _; unfold okH; rw [hz]; rfl
    have h1 : (k = 0 ∧ a = 0) ∧ s.size = 0 := by
      unfold noneH at hz
      rw [Bool.and_eq_true, decide_eq_true_eq, List.isEmpty_iff] at hz
      refine ⟨hz.1, ?_⟩
      have hl : s.data.toList.length = s.size := by simp
      rw [hz.2] at hl; simpa using hl.symm
    obtain ⟨⟨rfl, rfl⟩, h3⟩ := h1
    have he := zero_text s h3
    subst he
    clear hz h3
    go_enter Tryd.func26, Tryd.ntmps26
    go_wp2
    go_ret
    exact ⟨by rw [HO.out]; rfl, (Below.refl _ w).alloc (Nat.le_refl _) _⟩
  | false =>
    have HO : Hid (okH k s a = (named k s a || numbered k s a)) := by show _ = _; unfold okH; rw [hz]; rfl
    have HC : Hid (∀ W, Below w.heap.size w W → Calls Tryd.prog 36 #[.agg #[.int .i64 k, .string s, .int .i64 a]] W fun e w' => e = .returned (formV k s a) ∧ Below W.heap.size W w') := fun W b => hostFormOf k s a W (HM.out W b) hs
    have HFV := form_nil k s a
    have h1 : k ≠ 0 ∨ a ≠ 0 ∨ s.size ≠ 0 := by
      rcases Classical.em (k ≠ 0 ∨ a ≠ 0 ∨ s.size ≠ 0) with h | h
      · exact h
      · exfalso
        have hk : k = 0 ∧ a = 0 := by omega
        have he := zero_text s (by omega)
        unfold noneH at hz
        rw [decide_eq_true hk, he] at hz
        cases hz
    clear hz HM
    obtain ⟨f, hf⟩ : ∃ f, f = formV k s a := ⟨_, rfl⟩
    rw [← hf] at HC HFV
    clear hf
    obtain ⟨b, hb⟩ : ∃ b, b = (named k s a || numbered k s a) := ⟨_, rfl⟩
    rw [← hb] at HO HFV
    clear hb
    have HEQ : (k == 0) = false ∨ ((k == 0) = true ∧ (s.toList == []) = false) ∨ ((k == 0) = true ∧ (s.toList == []) = true ∧ (a == 0) = false) := by
      by_cases e1 : k = 0
      · by_cases e2 : s.size = 0
        · right; right
          rw [zero_text s e2]
          exact ⟨by simp [e1], by rw [ByteArray.toList_eq]; rfl, by simp; omega⟩
        · right; left; exact ⟨by simp [e1], (full_text s e2).1⟩
      · left; simp [e1]
    clear h1
    rcases HFV with ⟨rfl, rfl⟩ | ⟨⟨t, v, rfl⟩, rfl⟩
    all_goals
      go_enter Tryd.func26, Tryd.ntmps26
      rcases HEQ with g1 | ⟨g1, g2⟩ | ⟨g1, g2, g3⟩
      all_goals
        go_wp2_with (go_at_call 36; refine (HC.out _ ((Below.refl _ w).alloc (Nat.le_refl _) _)).mono ?_; rintro e W1 ⟨rfl, b1⟩)
        go_ret
        exact ⟨by rw [HO.out]; rfl, box_below b1⟩
end Go.Proofs.YtbogjajfbchdjaaDoor

/- The law FnDomainIn answers true, whatever the code. -/
import Derived.Test.YteapapcedkpkmaaDoorDomI
import Derived.Test.YteapapcedkpkmaaDoorDomS
import Derived.Test.YteapapcedkpkmaaDoorDrDom
set_option linter.unusedVariables false
set_option linter.unusedSimpArgs false
namespace Go.Proofs.YteapapcedkpkmaaDoor
open Go.RowKit Go.Shelf

set_option maxHeartbeats 2000000 in
set_option maxRecDepth 100000 in
theorem guEnds (s p : ByteArray) (w : World) (hs : s.size ≤ 1048577) (hp : p.size ≤ 1048577) :
    Calls Tryd.prog 8 #[.string s, .string p] w fun e w' => e = .returned (.bool (Lib.hasSuffix s.data.toList p.data.toList)) ∧ w' = w := by
  rw [← Lib.hasSuffix_raw]
  have hlo : p.size ≤ s.size → ((s.size : Int) - (p.size : Int) + 9223372036854775808) % 18446744073709551616 - 9223372036854775808 = ((s.size - p.size : Nat) : Int) := fun _ => by omega
  by_cases h : p.size ≤ s.size
  · have hi : (p.size : Int) ≤ (s.size : Int) := by omega
    have e := hlo h
    go_enter Tryd.func8, Tryd.ntmps8
    go_wp2
    go_ret
    refine ⟨?_, rfl⟩
    show Ending.returned (Value.bool ((s.extract (s.size - p.size) s.size).toList == p.toList)) = _
    simp [h]
  · have hi : ¬ ((p.size : Int) ≤ (s.size : Int)) := by omega
    go_enter Tryd.func8, Tryd.ntmps8
    go_wp2
    go_ret
    refine ⟨?_, rfl⟩
    simp [h]

theorem domB_ne {h d : ByteArray} (e : domB h d = true) : h.size ≠ 0 ∧ d.size ≠ 0 ∧ (h ≠ d → Lib.hasSuffix h.data.toList (46 :: d.data.toList) = true) := by
  have h0 : h.size ≠ 0 := by
    intro x
    rw [zero_text h x, domB_h] at e
    cases e
  have d0 : d.size ≠ 0 := by
    intro x
    rw [zero_text d x, domB_d] at e
    cases e
  refine ⟨h0, d0, fun hd => ?_⟩
  rw [domB_else h d h0 d0 hd, Bool.and_eq_true] at e
  exact e.1
theorem domB_back {h d : ByteArray} (e : domB h d = true) (hd : h ≠ d) : domB d h = false := by
  obtain ⟨h0, d0, hs⟩ := domB_ne e
  rw [domB_else d h d0 h0 (fun x => hd x.symm)]
  have h1 := hs hd
  have hz : Lib.hasSuffix d.data.toList (46 :: h.data.toList) = false := by
    cases x : Lib.hasSuffix d.data.toList (46 :: h.data.toList) with
    | false => rfl
    | true =>
      unfold Lib.hasSuffix at h1 x
      have a1 := (List.isSuffixOf_iff_suffix.1 h1).length_le
      have a2 := (List.isSuffixOf_iff_suffix.1 x).length_le
      simp at a1 a2
      omega
  rw [hz]; rfl

set_option maxHeartbeats 4000000 in
set_option maxRecDepth 100000 in
theorem fnDomainIn_walk (w : World) (hM : ∃ m, w.cell? ⟨0, 0, none⟩ = some (.int .i64 m)) (a : Option Addr) (len cap : Nat) (zs : List Int) (h : IsRow .u8 w a len cap zs) :
    Calls Tryd.prog 3 #[.slice a len cap] w fun e w' => e = .returned (.bool true) ∧ Below w.heap.size w w' := by
  have hlt : 0 < w.heap.size := by
    obtain ⟨m, hm⟩ := hM
    exact cell_lt hm
  have HM : Hid (∀ W, Below w.heap.size w W → ∃ m, W.cell? ⟨0, 0, none⟩ = some (.int .i64 m)) := by
    obtain ⟨m, hm⟩ := hM
    intro W b
    exact ⟨m, (b.cell (p := ⟨0, 0, none⟩) hlt).trans hm⟩
  clear hM hlt
  have hC := code_of_row h
  by_cases h1 : (1048576 : Int) < (len : Int)
  · go_enter Tryd.func3, Tryd.ntmps3
    go_wp2
    go_ret
    exact ⟨rfl, Below.refl _ _⟩
  · have h1' : (len : Int) ≤ 1048576 := by omega
    clear h1 h
    go_enter Tryd.func3, Tryd.ntmps3
    go_wp2_with fail
    refine (drawDomainIn w.heap.size a len cap _ (Nat.le_refl _) hC).mono ?_
    rintro e w1 ⟨p, b, rfl, hp, hb, b1⟩
    clear hC
    have IA : Hid (∀ W, Below w.heap.size w W → Calls Tryd.prog 6 #[.string p, .string b] W fun e w' => e = .returned (.bool (domB p b)) ∧ Below W.heap.size W w') := fun W B => implDomainIn p b W (HM.out W B) (by omega) (by omega)
    have SA : Hid (∀ W, Calls Tryd.prog 7 #[.string p, .string b] W fun e w' => e = .returned (.bool (domB p b)) ∧ Below W.heap.size W w') := fun W => specDomainIn p b W (by omega) (by omega)
    have IB : Hid (∀ W, Below w.heap.size w W → Calls Tryd.prog 6 #[.string b, .string b] W fun e w' => e = .returned (.bool (domB b b)) ∧ Below W.heap.size W w') := fun W B => implDomainIn b b W (HM.out W B) (by omega) (by omega)
    have IC : Hid (∀ W, Below w.heap.size w W → Calls Tryd.prog 6 #[.string b, .string p] W fun e w' => e = .returned (.bool (domB b p)) ∧ Below W.heap.size W w') := fun W B => implDomainIn b p W (HM.out W B) (by omega) (by omega)
    have hz := dot_size b
    have GE : Hid (∀ W, Calls Tryd.prog 8 #[.string p, .string ((⟨#[46]⟩ : ByteArray) ++ b)] W fun e w' => e = .returned (.bool (Lib.hasSuffix p.data.toList (46 :: b.data.toList))) ∧ w' = W) := by
      intro W
      have := guEnds p ((⟨#[46]⟩ : ByteArray) ++ b) W (by omega) (by omega)
      rw [dot_list] at this
      exact this
    clear HM
    cases hin : domB p b with
    | false =>
      rw [hin] at IA SA
      clear hin IB IC GE
      go_wp2_with fail
      refine (IA.out _ b1).mono ?_
      rintro e w2 ⟨rfl, b2⟩
      have B2 : Hid (Below w.heap.size w w2) := b1.trans (b2.mono b1.size)
      go_wp2_with fail
      refine (SA.out _).mono ?_
      rintro e w3 ⟨rfl, b3⟩
      have B3 : Hid (Below w.heap.size w w3) := B2.out.trans (b3.mono B2.out.size)
      go_wp2_with fail
      refine (SA.out _).mono ?_
      rintro e w4 ⟨rfl, b4⟩
      have B4 : Hid (Below w.heap.size w w4) := B3.out.trans (b4.mono B3.out.size)
      go_wp2
      go_ret
      exact ⟨rfl, B4.out⟩
    | true =>
      obtain ⟨p0, d0, hsuf⟩ := domB_ne hin
      rw [domB_same b d0] at IB
      by_cases hd : p = b
      · subst hd
        rw [hin] at IA SA
        clear hin IC GE hsuf hz
        go_wp2_with fail
        refine (IA.out _ b1).mono ?_
        rintro e w2 ⟨rfl, b2⟩
        have B2 : Hid (Below w.heap.size w w2) := b1.trans (b2.mono b1.size)
        go_wp2_with fail
        refine (SA.out _).mono ?_
        rintro e w3 ⟨rfl, b3⟩
        have B3 : Hid (Below w.heap.size w w3) := B2.out.trans (b3.mono B2.out.size)
        go_wp2_with fail
        refine (IB.out _ B3.out).mono ?_
        rintro e w4 ⟨rfl, b4⟩
        have B4 : Hid (Below w.heap.size w w4) := B3.out.trans (b4.mono B3.out.size)
        go_wp2
        go_ret
        exact ⟨rfl, B4.out⟩
      · obtain ⟨n1, n2⟩ := txt_ne p b hd
        rw [hsuf hd] at GE
        rw [domB_back hin hd] at IC
        rw [hin] at IA SA
        clear hin hsuf
        go_wp2_with fail
        refine (IA.out _ b1).mono ?_
        rintro e w2 ⟨rfl, b2⟩
        have B2 : Hid (Below w.heap.size w w2) := b1.trans (b2.mono b1.size)
        go_wp2_with fail
        refine (SA.out _).mono ?_
        rintro e w3 ⟨rfl, b3⟩
        have B3 : Hid (Below w.heap.size w w3) := B2.out.trans (b3.mono B2.out.size)
        go_wp2_with fail
        refine (GE.out _).mono ?_
        rintro e w4 ⟨rfl, hw4⟩
        subst hw4
        go_wp2_with fail
        refine (IB.out _ B3.out).mono ?_
        rintro e w5 ⟨rfl, b5⟩
        have B5 : Hid (Below w.heap.size w w5) := B3.out.trans (b5.mono B3.out.size)
        go_wp2_with fail
        refine (IC.out _ B5.out).mono ?_
        rintro e w6 ⟨rfl, b6⟩
        have B6 : Hid (Below w.heap.size w w6) := B5.out.trans (b6.mono B5.out.size)
        go_wp2
        go_ret
        exact ⟨rfl, B6.out⟩
end Go.Proofs.YteapapcedkpkmaaDoor

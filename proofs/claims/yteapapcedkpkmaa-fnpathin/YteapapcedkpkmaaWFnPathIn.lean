/- The law FnPathIn answers true, whatever the code. -/
import Derived.Test.YteapapcedkpkmaaPinS
import Derived.Test.YteapapcedkpkmaaDrPin
set_option linter.unusedVariables false
namespace Go.Proofs.Yteapapcedkpkmaa
open Go.RowKit Go.Shelf

theorem slash_list : (⟨#[47]⟩ : ByteArray).data.toList = [47] := rfl
theorem more_list (p : ByteArray) : (p ++ (⟨#[47, 120]⟩ : ByteArray)).data.toList = p.data.toList ++ [47, 120] := by
  rw [ByteArray.data_append]; simp
theorem more_size (p : ByteArray) : (p ++ (⟨#[47, 120]⟩ : ByteArray)).size = p.size + 2 := by
  rw [ByteArray.size_append]; rfl

set_option maxHeartbeats 4000000 in
set_option maxRecDepth 100000 in
theorem fnPathIn_walk (w : World) (a : Option Addr) (len cap : Nat) (zs : List Int) (h : IsRow .u8 w a len cap zs) :
    Calls Try.prog 3 #[.slice a len cap] w fun e w' => e = .returned (.bool true) ∧ Below w.heap.size w w' := by
  have hC := code_of_row h
  by_cases h1 : (1048576 : Int) < (len : Int)
  · go_enter Try.func3, Try.ntmps3
    go_wp2
    go_ret
    exact ⟨rfl, Below.refl _ _⟩
  · have h1' : (len : Int) ≤ 1048576 := by omega
    clear h1 h
    go_enter Try.func3, Try.ntmps3
    go_wp2_with fail
    refine (drawPathIn w.heap.size a len cap _ (Nat.le_refl _) hC).mono ?_
    rintro e w1 ⟨p, b, rfl, hp, hb, b1⟩
    clear hC
    have IA : Hid (∀ W, Calls Try.prog 6 #[.string p, .string b] W fun e w' => e = .returned (.bool (pinL p.data.toList b.data.toList)) ∧ w' = W) := fun W => implPathIn p b W (by omega) (by omega)
    have SA : Hid (∀ W, Calls Try.prog 7 #[.string p, .string b] W fun e w' => e = .returned (.bool (pinL p.data.toList b.data.toList)) ∧ w' = W) := fun W => specPathIn p b W (by omega) (by omega)
    have IB : Hid (∀ W, Calls Try.prog 6 #[.string p, .string p] W fun e w' => e = .returned (.bool (!p.data.toList.isEmpty)) ∧ w' = W) := fun W => by
      have := implPathIn p p W (by omega) (by omega)
      rw [pin_self] at this
      exact this
    have RT : Hid (p.data.toList[0]? = some 47 → ∀ W, Calls Try.prog 6 #[.string p, .string ⟨#[47]⟩] W fun e w' => e = .returned (.bool true) ∧ w' = W) := fun h W => by
      have := implPathIn p ⟨#[47]⟩ W (by omega) (by decide)
      rw [slash_list, pin_root _ h] at this
      exact this
    have MO : Hid (pinL p.data.toList b.data.toList = true → ∀ W, Calls Try.prog 6 #[.string (p ++ (⟨#[47, 120]⟩ : ByteArray)), .string b] W fun e w' => e = .returned (.bool true) ∧ w' = W) := fun h W => by
      have := implPathIn (p ++ (⟨#[47, 120]⟩ : ByteArray)) b W (by rw [more_size]; omega) (by omega)
      rw [more_list, pin_more h] at this
      exact this
    have hms := more_size p
    by_cases h0 : p.size = 0
    · have he : p = ⟨#[]⟩ := by
        have := mk_list p
        have hl : p.data.toList.length = p.size := by simp
        rw [List.length_eq_zero_iff.1 (show p.data.toList.length = 0 by omega)] at this
        exact this.symm
      subst he
      have hin : pinL (⟨#[]⟩ : ByteArray).data.toList b.data.toList = false := by
        cases h : pinL (⟨#[]⟩ : ByteArray).data.toList b.data.toList with
        | false => rfl
        | true =>
          obtain ⟨g1, g2⟩ := pin_ne h
          have := pre_len g2
          exact absurd (List.length_eq_zero_iff.1 (Nat.le_zero.1 this)) g1
      rw [hin] at IA SA
      have IB' : Hid (∀ W, Calls Try.prog 6 #[.string ⟨#[]⟩, .string ⟨#[]⟩] W fun e w' => e = .returned (.bool false) ∧ w' = W) := IB.out
      clear IB RT MO hin hms
      go_wp2_with fail
      refine (IA.out _).mono ?_
      rintro e w2 ⟨rfl, rfl⟩
      go_wp2_with fail
      refine (SA.out _).mono ?_
      rintro e w3 ⟨rfl, rfl⟩
      go_wp2_with fail
      refine (IB'.out _).mono ?_
      rintro e w4 ⟨rfl, rfl⟩
      go_wp2_with fail
      refine (SA.out _).mono ?_
      rintro e w5 ⟨rfl, rfl⟩
      go_wp2_with fail
      refine (IB'.out _).mono ?_
      rintro e w6 ⟨rfl, rfl⟩
      go_wp2
      go_ret
      exact ⟨rfl, b1⟩
    obtain ⟨f1, f2⟩ := ne_full p h0
    have f3 : p.data.toList.isEmpty = false := by rw [← ByteArray.toList_eq]; exact f2
    rw [f3] at IB
    have hp0 : 0 < p.size := by omega
    have hp0i : (0 : Int) < (p.size : Int) := by omega
    by_cases h47 : p[0] = 47
    · have R1 : Hid (∀ W, Calls Try.prog 6 #[.string p, .string ⟨#[47]⟩] W fun e w' => e = .returned (.bool true) ∧ w' = W) := RT.out (by rw [at_get p 0 hp0, h47])
      have e1 : (((p[0]'hp0).toNat : Int) == 47) = true := by rw [h47]; rfl
      clear RT h47
      cases hin : pinL p.data.toList b.data.toList with
      | false =>
        rw [hin] at IA SA
        clear MO hin hms f3
        go_wp2_with fail
        refine (IA.out _).mono ?_
        rintro e w2 ⟨rfl, rfl⟩
        go_wp2_with fail
        refine (SA.out _).mono ?_
        rintro e w3 ⟨rfl, rfl⟩
        go_wp2_with fail
        refine (IB.out _).mono ?_
        rintro e w4 ⟨rfl, rfl⟩
        go_wp2_with fail
        refine (R1.out _).mono ?_
        rintro e w5 ⟨rfl, rfl⟩
        go_wp2_with fail
        refine (SA.out _).mono ?_
        rintro e w6 ⟨rfl, rfl⟩
        go_wp2_with fail
        refine (IB.out _).mono ?_
        rintro e w7 ⟨rfl, rfl⟩
        go_wp2
        go_ret
        exact ⟨rfl, b1⟩
      | true =>
        have M1 := MO.out hin
        have hle : (b.size : Int) ≤ (p.size : Int) := by have := pre_len (pin_ne hin).2; simp at this; omega
        have hE : (p.extract 0 b.size).toList = b.toList := by
          have := pre_raw p b (by omega)
          rw [(pin_ne hin).2] at this
          simpa using this
        have M2 : Hid (∀ W, Calls Try.prog 6 #[.string (p ++ (⟨#[47, 120]⟩ : ByteArray)), .string b] W fun e w' => e = .returned (.bool true) ∧ w' = W) := M1
        rw [hin] at IA SA
        clear MO hin M1 f3
        go_wp2_with fail
        refine (IA.out _).mono ?_
        rintro e w2 ⟨rfl, rfl⟩
        go_wp2_with fail
        refine (SA.out _).mono ?_
        rintro e w3 ⟨rfl, rfl⟩
        go_wp2_with fail
        refine (IB.out _).mono ?_
        rintro e w4 ⟨rfl, rfl⟩
        go_wp2_with fail
        refine (R1.out _).mono ?_
        rintro e w5 ⟨rfl, rfl⟩
        go_wp2_with fail
        refine (M2.out _).mono ?_
        rintro e w6 ⟨rfl, rfl⟩
        go_wp2
        go_ret
        exact ⟨rfl, b1⟩
    · have e1 : (((p[0]'hp0).toNat : Int) == 47) = false := byte47 _ h47
      clear RT h47
      cases hin : pinL p.data.toList b.data.toList with
      | false =>
        rw [hin] at IA SA
        clear MO hin hms f3
        go_wp2_with fail
        refine (IA.out _).mono ?_
        rintro e w2 ⟨rfl, rfl⟩
        go_wp2_with fail
        refine (SA.out _).mono ?_
        rintro e w3 ⟨rfl, rfl⟩
        go_wp2_with fail
        refine (IB.out _).mono ?_
        rintro e w4 ⟨rfl, rfl⟩
        go_wp2_with fail
        refine (SA.out _).mono ?_
        rintro e w6 ⟨rfl, rfl⟩
        go_wp2_with fail
        refine (IB.out _).mono ?_
        rintro e w7 ⟨rfl, rfl⟩
        go_wp2
        go_ret
        exact ⟨rfl, b1⟩
      | true =>
        have M1 := MO.out hin
        have hle : (b.size : Int) ≤ (p.size : Int) := by have := pre_len (pin_ne hin).2; simp at this; omega
        have hE : (p.extract 0 b.size).toList = b.toList := by
          have := pre_raw p b (by omega)
          rw [(pin_ne hin).2] at this
          simpa using this
        have M2 : Hid (∀ W, Calls Try.prog 6 #[.string (p ++ (⟨#[47, 120]⟩ : ByteArray)), .string b] W fun e w' => e = .returned (.bool true) ∧ w' = W) := M1
        rw [hin] at IA SA
        clear MO hin M1 f3
        go_wp2_with fail
        refine (IA.out _).mono ?_
        rintro e w2 ⟨rfl, rfl⟩
        go_wp2_with fail
        refine (SA.out _).mono ?_
        rintro e w3 ⟨rfl, rfl⟩
        go_wp2_with fail
        refine (IB.out _).mono ?_
        rintro e w4 ⟨rfl, rfl⟩
        go_wp2_with fail
        refine (M2.out _).mono ?_
        rintro e w6 ⟨rfl, rfl⟩
        go_wp2
        go_ret
        exact ⟨rfl, b1⟩
end Go.Proofs.Yteapapcedkpkmaa

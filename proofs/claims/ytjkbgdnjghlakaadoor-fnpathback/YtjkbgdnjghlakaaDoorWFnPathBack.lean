/- The law FnPathBack answers true, whatever the code. -/
import Derived.Test.YtjkbgdnjghlakaaDoorPathW
set_option linter.unusedVariables false
namespace Go.Proofs.YtjkbgdnjghlakaaDoor
open Go.RowKit Go.Shelf

set_option maxHeartbeats 4000000 in
set_option maxRecDepth 100000 in
theorem fnPathBack_walk (w : World) (hM : ∃ m, w.cell? ⟨0, 0, none⟩ = some (.int .i64 m)) (a : Option Addr) (len cap : Nat) (zs : List Int) (h : IsRow .u8 w a len cap zs) :
    Calls Tryd.prog 4 #[.slice a len cap] w fun e w' => e = .returned (.bool true) ∧ Below w.heap.size w w' := by
  obtain ⟨m, hm⟩ := hM
  have hC := code_of_row h
  by_cases h1 : (1048576 : Int) < (len : Int)
  · go_enter Tryd.func4, Tryd.ntmps4
    go_wp2
    go_ret
    exact ⟨rfl, Below.refl _ _⟩
  · have h1' : (len : Int) ≤ 1048576 := by omega
    have on0 : On m w w := ⟨Below.refl _ _, hm⟩
    clear h1 h hm
    go_enter Tryd.func4, Tryd.ntmps4
    go_wp2_with fail
    refine (drawPathGet w.heap.size a len cap _ rfl hC).mono ?_
    rintro e w1 ⟨s, rfl, hs, b1⟩
    have on1 := on0.step b1
    clear hC b1 on0
    have hl : s.data.toList.length = s.size := by simp
    have hsz5 : ∀ A : Array UInt8, A.size ≤ 10 → (s ++ ⟨A⟩).size ≤ 1000 := by intro A hA; rw [ByteArray.size_append]; show s.size + A.size ≤ 1000; omega
    have C0 := getI s _ rfl (by omega) m
    have S0 := getS s _ rfl (by omega)
    have n0 := pathL_len s.data.toList
    generalize pathL s.data.toList = p0 at C0 S0 n0
    obtain ⟨P, hP⟩ : ∃ P, P = baseP s.data.toList := ⟨_, rfl⟩
    have nn : (P ++ [[]]).length ≤ 1000000000 := by
      have := pathL_len (s.data.toList ++ [47]); rw [path_sl _ (by omega), ← hP] at this; omega
    have nn2 : (P ++ [[121]]).length ≤ 1000000000 := by simp at nn ⊢; omega
    have C1 := getI (s ++ ⟨#[47, 120, 47, 46, 46]⟩) (P ++ [[]]) (by rw [app_list, hP]; exact path_xb _ (by omega)) (hsz5 _ (by decide)) m
    have C2 := getI (s ++ ⟨#[47]⟩) (P ++ [[]]) (by rw [app_list, hP]; exact path_sl _ (by omega)) (hsz5 _ (by decide)) m
    have C3 := getI (s ++ ⟨#[47, 46]⟩) (P ++ [[]]) (by rw [app_list, hP]; exact path_pt _ (by omega)) (hsz5 _ (by decide)) m
    have C4 := getI (s ++ ⟨#[47, 120, 47, 46, 46, 47, 121]⟩) (P ++ [[121]]) (by rw [app_list, hP]; exact path_cbd _ 120 121 (by simp) (by simp) (by omega)) (hsz5 _ (by decide)) m
    have C5 := getI (s ++ ⟨#[47, 121]⟩) (P ++ [[121]]) (by rw [app_list, hP]; exact path_c _ 121 (by simp) (by omega)) (hsz5 _ (by decide)) m
    clear hP hl hsz5
    generalize P ++ [[]] = q1 at *
    generalize P ++ [[121]] = q2 at *
    go_wp2_with fail
    refine (C0.out _ _ on1).mono ?_
    rintro e w2 ⟨a2, c2, rfl, _, s2, b2⟩
    have on2 := on1.step b2
    go_wp2_with fail
    refine (S0.out _).mono ?_
    rintro e w3 ⟨a3, c3, rfl, _, s3, b3⟩
    have on3 := on2.step b3
    go_wp2_with fail
    refine (guTexts _ _ _ _ _ _ p0 _ (s2.later b3) s3 (by omega)).mono ?_
    rintro e w4 ⟨rfl, n4, rfl⟩
    have on4 := on3.drawn n4
    clear s2 s3 b2 b3 on1 on2 on3
    generalize w3.drewN n4 = W4 at *
    go_wp2_with fail
    refine (C1.out _ _ on4).mono ?_
    rintro e w5 ⟨a5, c5, rfl, _, s5, b5⟩
    have on5 := on4.step b5
    go_wp2_with fail
    refine (C2.out _ _ on5).mono ?_
    rintro e w6 ⟨a6, c6, rfl, _, s6, b6⟩
    have on6 := on5.step b6
    go_wp2_with fail
    refine (guTexts _ _ _ _ _ _ q1 _ (s5.later b6) s6 (by omega)).mono ?_
    rintro e w7 ⟨rfl, n7, rfl⟩
    have on7 := on6.drawn n7
    clear s5 s6 b5 b6 on4 on5 on6
    generalize w6.drewN n7 = W7 at *
    go_wp2_with fail
    refine (C3.out _ _ on7).mono ?_
    rintro e w8 ⟨a8, c8, rfl, _, s8, b8⟩
    have on8 := on7.step b8
    go_wp2_with fail
    refine (C2.out _ _ on8).mono ?_
    rintro e w9 ⟨a9, c9, rfl, _, s9, b9⟩
    have on9 := on8.step b9
    go_wp2_with fail
    refine (guTexts _ _ _ _ _ _ q1 _ (s8.later b9) s9 (by omega)).mono ?_
    rintro e w10 ⟨rfl, n10, rfl⟩
    have on10 := on9.drawn n10
    clear s8 s9 b8 b9 on7 on8 on9
    generalize w9.drewN n10 = W10 at *
    go_wp2_with fail
    refine (C4.out _ _ on10).mono ?_
    rintro e w11 ⟨a11, c11, rfl, _, s11, b11⟩
    have on11 := on10.step b11
    go_wp2_with fail
    refine (C5.out _ _ on11).mono ?_
    rintro e w12 ⟨a12, c12, rfl, _, s12, b12⟩
    have on12 := on11.step b12
    go_wp2_with fail
    refine (guTexts _ _ _ _ _ _ q2 _ (s11.later b12) s12 (by omega)).mono ?_
    rintro e w13 ⟨rfl, n13, rfl⟩
    have on13 := on12.drawn n13
    go_wp2
    go_ret
    exact ⟨rfl, on13.1⟩
end Go.Proofs.YtjkbgdnjghlakaaDoor

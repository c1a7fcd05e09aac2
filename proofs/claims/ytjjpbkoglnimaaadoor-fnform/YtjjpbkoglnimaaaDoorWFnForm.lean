/- The law FnForm answers true, whatever the codes. -/
import Derived.Test.YtjjpbkoglnimaaaDoorFormQ
import Derived.Test.YtjjpbkoglnimaaaDoorDrFormP
import Derived.Test.YtjjpbkoglnimaaaDoorFormPutI
import Derived.Test.YtjjpbkoglnimaaaDoorFormPutS
set_option linter.unusedVariables false
namespace Go.Proofs.YtjjpbkoglnimaaaDoor
open Go.RowKit Go.Shelf

set_option maxHeartbeats 4000000 in
set_option maxRecDepth 100000 in
theorem fnForm_walk (w : World) (hM : ∃ m, w.cell? ⟨0, 0, none⟩ = some (.int .i64 m)) (a : Option Addr) (len cap : Nat) (zs : List Int) (h : IsRow .u8 w a len cap zs) (a' : Option Addr) (len' cap' : Nat) (zs' : List Int) (h' : IsRow .u8 w a' len' cap' zs') :
    Calls Tryd.prog 3 #[.slice a len cap, .slice a' len' cap'] w fun e w' => e = .returned (.bool true) ∧ Below w.heap.size w w' := by
  obtain ⟨m, hm⟩ := hM
  have hC := code_of_row h
  have hC' := code_of_row h'
  by_cases h1 : (1048576 : Int) < (len : Int)
  · go_enter Tryd.func3, Tryd.ntmps3
    go_wp2
    go_ret
    exact ⟨rfl, Below.refl _ _⟩
  have h1' : (len : Int) ≤ 1048576 := by omega
  by_cases h2 : (1048576 : Int) < (len' : Int)
  · go_enter Tryd.func3, Tryd.ntmps3
    go_wp2
    go_ret
    exact ⟨rfl, Below.refl _ _⟩
  have h2' : (len' : Int) ≤ 1048576 := by omega
  have on0 : On m w w := ⟨Below.refl _ _, hm⟩
  clear h1 h2 h h' hm
  go_enter Tryd.func3, Tryd.ntmps3
  go_wp2_with fail
  refine (drawFormPut w.heap.size a len cap _ (Nat.le_refl _) hC).mono ?_
  rintro e w1 ⟨v1, p0, rfl, o1, hpl, hpt, b1⟩
  have on1 := on0.step b1
  obtain ⟨a1, c1, rfl, _, s1⟩ := o1.pairs
  have hfl := formT_len p0
  obtain ⟨u, hu⟩ : ∃ u, u = mk (formT p0) := ⟨_, rfl⟩
  have hus : u.size ≤ 100 := by rw [hu, mk_size]; omega
  have CI : Hid (∀ W, On m w W → PairsOf a1 p0.length p0 W → Calls Tryd.prog 8 #[.slice a1 p0.length c1] W fun e w' => e = .returned (.string u) ∧ Below W.heap.size W w') := by
    intro W hW hs; rw [hu]; exact implFormPut a1 _ c1 p0 m W hs (by omega) (by omega) hW.2
  have CS : Hid (∀ W, PairsOf a1 p0.length p0 W → Calls Tryd.prog 9 #[.slice a1 p0.length c1] W fun e w' => e = .returned (.string u) ∧ Below W.heap.size W w') := by
    intro W hs; rw [hu]; exact specFormPut a1 _ c1 p0 W hs (by omega) (by omega)
  have CG := formI u p0 (by rw [hu, mk_data]; exact form_back p0 (by omega)) (by omega) m
  clear o1 hu hfl hpt
  go_wp2_with fail
  refine (CI.out _ on1 s1).mono ?_
  rintro e w2 ⟨rfl, b2⟩
  have on2 := on1.step b2
  have s2 := s1.later b2
  go_wp2_with fail
  refine (CS.out _ s2).mono ?_
  rintro e w3 ⟨rfl, b3⟩
  have on3 := on2.step b3
  have s3 := s2.later b3
  go_wp2_with fail
  refine (CG.out _ _ on3).mono ?_
  rintro e w4 ⟨a4, c4, rfl, _, s4, b4⟩
  have on4 := on3.step b4
  have s4' := s3.later b4
  go_wp2_with fail
  refine (guPairs _ _ _ _ _ _ p0 _ s4 s4' (by omega)).mono ?_
  rintro e w5 ⟨rfl, n5, rfl⟩
  have on5 := on4.drawn n5
  clear CI CS CG s1 s2 s3 s4 s4' b1 b2 b3 b4 on0 on1 on2 on3 on4
  generalize w4.drewN n5 = W5 at *
  have hC5 := hC'.later on5.1
  have z5 := on5.1.size
  go_wp2_with fail
  refine (drawFormGet w.heap.size a' len' cap' _ z5 hC5).mono ?_
  rintro e w6 ⟨t, rfl, ht, b6⟩
  have on6 := on5.step b6
  have hlt : t.data.toList.length = t.size := by simp
  obtain ⟨ht1, ht2⟩ := form_small t.data.toList (by omega)
  have C0 := formI t _ rfl (by omega) m
  have S0 := formS t _ rfl (by omega)
  generalize formL t.data.toList = p1 at *
  have hfl1 := formT_len p1
  obtain ⟨u1, hu1⟩ : ∃ u1, u1 = mk (formT p1) := ⟨_, rfl⟩
  have hus1 : u1.size ≤ 100 := by rw [hu1, mk_size]; omega
  have CI1 : Hid (∀ W a1 c1, On m w W → PairsOf a1 p1.length p1 W → Calls Tryd.prog 8 #[.slice a1 p1.length c1] W fun e w' => e = .returned (.string u1) ∧ Below W.heap.size W w') := by
    intro W a1 c1 hW hs; rw [hu1]; exact implFormPut a1 _ c1 p1 m W hs (by omega) (by omega) hW.2
  have CG1 := formI u1 p1 (by rw [hu1, mk_data]; exact form_back p1 (by omega)) (by omega) m
  clear hu1 hfl1 ht1 hlt hC5 z5 on5 b6 hC'
  go_wp2_with fail
  refine (C0.out _ _ on6).mono ?_
  rintro e w7 ⟨a7, c7, rfl, _, s7, b7⟩
  have on7 := on6.step b7
  go_wp2_with fail
  refine (S0.out _).mono ?_
  rintro e w8 ⟨a8, c8, rfl, _, s8, b8⟩
  have on8 := on7.step b8
  have s7' := s7.later b8
  go_wp2_with fail
  refine (guPairs _ _ _ _ _ _ p1 _ s7' s8 (by omega)).mono ?_
  rintro e w9 ⟨rfl, n9, rfl⟩
  have on9 := on8.drawn n9
  have s9 : PairsOf a7 p1.length p1 (w8.drewN n9) := s7'
  clear s7 s7' s8 b7 b8 on6 on7 on8
  generalize w8.drewN n9 = W9 at *
  go_wp2_with fail
  refine (CI1.out _ _ _ on9 s9).mono ?_
  rintro e w10 ⟨rfl, b10⟩
  have on10 := on9.step b10
  have s10 := s9.later b10
  go_wp2_with fail
  refine (CG1.out _ _ on10).mono ?_
  rintro e w11 ⟨a11, c11, rfl, _, s11, b11⟩
  have on11 := on10.step b11
  have s11' := s10.later b11
  go_wp2_with fail
  refine (guPairs _ _ _ _ _ _ p1 _ s11 s11' (by omega)).mono ?_
  rintro e w12 ⟨rfl, n12, rfl⟩
  have on12 := on11.drawn n12
  go_wp2
  go_ret
  exact ⟨rfl, on12.1⟩
end Go.Proofs.YtjjpbkoglnimaaaDoor

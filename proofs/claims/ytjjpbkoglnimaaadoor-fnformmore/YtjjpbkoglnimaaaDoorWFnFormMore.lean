/- The law FnFormMore answers true, whatever the codes. -/
import Derived.Test.YtjjpbkoglnimaaaDoorFormW
set_option linter.unusedVariables false
namespace Go.Proofs.YtjjpbkoglnimaaaDoor
open Go.RowKit Go.Shelf

set_option maxHeartbeats 4000000 in
set_option maxRecDepth 100000 in
theorem fnFormMore_walk (w : World) (hM : ∃ m, w.cell? ⟨0, 0, none⟩ = some (.int .i64 m)) (a : Option Addr) (len cap : Nat) (zs : List Int) (h : IsRow .u8 w a len cap zs) (a' : Option Addr) (len' cap' : Nat) (zs' : List Int) (h' : IsRow .u8 w a' len' cap' zs') :
    Calls Tryd.prog 4 #[.slice a len cap, .slice a' len' cap'] w fun e w' => e = .returned (.bool true) ∧ Below w.heap.size w w' := by
  obtain ⟨m, hm⟩ := hM
  have hC := code_of_row h
  have hC' := code_of_row h'
  by_cases h1 : (1048576 : Int) < (len : Int)
  · go_enter Tryd.func4, Tryd.ntmps4
    go_wp2
    go_ret
    exact ⟨rfl, Below.refl _ _⟩
  have h1' : (len : Int) ≤ 1048576 := by omega
  by_cases h2 : (1048576 : Int) < (len' : Int)
  · go_enter Tryd.func4, Tryd.ntmps4
    go_wp2
    go_ret
    exact ⟨rfl, Below.refl _ _⟩
  have h2' : (len' : Int) ≤ 1048576 := by omega
  have on0 : On m w w := ⟨Below.refl _ _, hm⟩
  clear h1 h2 h h' hm
  go_enter Tryd.func4, Tryd.ntmps4
  go_wp2_with fail
  refine (drawFormGet w.heap.size a len cap _ (Nat.le_refl _) hC).mono ?_
  rintro e w1 ⟨s, rfl, hs, b1⟩
  have on1 := on0.step b1
  have hC1 := hC'.later b1
  go_wp2_with fail
  refine (drawFormGet w.heap.size a' len' cap' _ b1.size hC1).mono ?_
  rintro e w2 ⟨t, rfl, ht, b2⟩
  have on2 := on1.step b2
  clear hC hC' hC1 b1 b2 on0 on1
  have hls : s.data.toList.length = s.size := by simp
  have hlt : t.data.toList.length = t.size := by simp
  obtain ⟨u, hu⟩ : ∃ u, u = (s ++ ⟨#[38]⟩) ++ t := ⟨_, rfl⟩
  have hul : u.data.toList = s.data.toList ++ 38 :: t.data.toList := by rw [hu]; simp
  have hus : u.size ≤ 100 := by rw [hu, ByteArray.size_append, ByteArray.size_append]; show s.size + 1 + t.size ≤ 100; omega
  have hf := formL_two s.data.toList t.data.toList (by omega)
  have n0 := formL_len s.data.toList
  have n1 := formL_len t.data.toList
  have C0 := formI s _ rfl (by omega) m
  have S0 := formS s _ rfl (by omega)
  have C1 := formI t _ rfl (by omega) m
  have C2 := formI u (formL s.data.toList ++ formL t.data.toList) (by rw [hul]; exact hf) (by omega) m
  obtain ⟨q, hq⟩ : ∃ q, q = formL s.data.toList ++ formL t.data.toList := ⟨_, rfl⟩
  rw [← hq] at C2
  have nq : q.length ≤ 1202 := by rw [hq, List.length_append]; omega
  generalize formL s.data.toList = p0 at *
  generalize formL t.data.toList = p1 at *
  have HQ : Hid (q = p0 ++ p1) := hq
  have hst : (s.size : Int) + (t.size : Int) ≤ 200 := by omega
  have hsz1 : (⟨#[38]⟩ : ByteArray).size = 1 := rfl
  have HU : Hid (u = (s ++ ⟨#[38]⟩) ++ t) := hu
  rw [hu] at C2
  clear hq hf hul hls hlt hus hu
  go_wp2_with fail
  refine (C0.out _ _ on2).mono ?_
  rintro e w3 ⟨a3, c3, rfl, _, s3, b3⟩
  have on3 := on2.step b3
  go_wp2_with fail
  refine (S0.out _).mono ?_
  rintro e w4 ⟨a4, c4, rfl, _, s4, b4⟩
  have on4 := on3.step b4
  have s3' := s3.later b4
  go_wp2_with fail
  refine (guPairs _ _ _ _ _ _ p0 _ s3' s4 (by omega)).mono ?_
  rintro e w5 ⟨rfl, n5, rfl⟩
  have on5 := on4.drawn n5
  have s5 : PairsOf a3 p0.length p0 (w4.drewN n5) := s3'
  clear s3 s3' s4 b3 b4 on2 on3 on4
  generalize w4.drewN n5 = W5 at *
  go_wp2_with fail
  refine (C2.out _ _ on5).mono ?_
  rintro e w6 ⟨a6, c6, rfl, _, s6, b6⟩
  have on6 := on5.step b6
  have h0 := ownP_new w6 w6.heap.size (Nat.le_refl _)
  have s7 := (s5.later b6).later ((Below.refl _ w6).alloc (Nat.le_refl _) (.cells #[] 41))
  clear s5 b6 on5
  go_wp2_with (at_builtin; refine wpAppendPairs (w6.alloc (.cells #[] 41)) rfl _ _ rfl w6.heap.size _ [] p0 h0 rfl a3 c3 rfl s7 (by simp; omega) (by simp) ?_; intro v8 w8 R8 b8; rw [List.nil_append] at R8)
  have bA : Below w6.heap.size w6 w8 := ((Below.refl _ w6).alloc (Nat.le_refl _) _).trans b8
  have on8 := on6.step bA
  have z8 := bA.size
  clear h0 s7 b8
  refine (C1.out _ _ on8).mono ?_
  rintro e w9 ⟨a9, c9, rfl, _, s9, b9⟩
  have on9 := on8.step b9
  have R9 := R8.later b9
  have bB : Below w6.heap.size w6 w9 := bA.trans (b9.mono z8)
  have z9 := bB.size
  clear R8 on8 b9
  go_wp2_with (at_builtin; refine wpAppendPairs w9 rfl _ _ rfl w6.heap.size _ p0 p1 R9 rfl a9 c9 rfl s9 (by omega) z9 ?_; intro v10 w10 R10 b10; rw [← HQ.out] at R10)
  have bC : Below w6.heap.size w6 w10 := bB.trans b10
  have s10 := s6.later bC
  have on10 := on6.step bC
  obtain ⟨a10, c10, rfl, _, t10⟩ := R10.pairs
  refine (guPairs _ _ _ _ _ _ q _ s10 t10 (by omega)).mono ?_
  rintro e w11 ⟨rfl, n11, rfl⟩
  have on11 := on10.drawn n11
  go_wp2
  go_ret
  exact ⟨rfl, on11.1⟩
end Go.Proofs.YtjjpbkoglnimaaaDoor

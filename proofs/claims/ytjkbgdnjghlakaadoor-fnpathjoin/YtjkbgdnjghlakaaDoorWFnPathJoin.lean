/- The law FnPathJoin answers true, whatever the code. -/
import Derived.Test.YtjkbgdnjghlakaaDoorPathW
import Derived.Test.YtjkbgdnjghlakaaDoorOwnG
set_option linter.unusedVariables false
namespace Go.Proofs.YtjkbgdnjghlakaaDoor
open Go.RowKit Go.Shelf

set_option maxHeartbeats 4000000 in
set_option maxRecDepth 100000 in
theorem fnPathJoin_walk (w : World) (hM : ∃ m, w.cell? ⟨0, 0, none⟩ = some (.int .i64 m)) (a : Option Addr) (len cap : Nat) (zs : List Int) (h : IsRow .u8 w a len cap zs) :
    Calls Tryd.prog 5 #[.slice a len cap] w fun e w' => e = .returned (.bool true) ∧ Below w.heap.size w w' := by
  obtain ⟨m, hm⟩ := hM
  have hC := code_of_row h
  by_cases h1 : (1048576 : Int) < (len : Int)
  · go_enter Tryd.func5, Tryd.ntmps5
    go_wp2
    go_ret
    exact ⟨rfl, Below.refl _ _⟩
  · have h1' : (len : Int) ≤ 1048576 := by omega
    have on0 : On m w w := ⟨Below.refl _ _, hm⟩
    clear h1 h hm
    go_enter Tryd.func5, Tryd.ntmps5
    go_wp2_with fail
    refine (drawPathGet w.heap.size a len cap _ rfl hC).mono ?_
    rintro e w1 ⟨s, rfl, hs, b1⟩
    have on1 := on0.step b1
    clear hC b1 on0
    have hl : s.data.toList.length = s.size := by simp
    have hsz5 : ∀ A : Array UInt8, A.size ≤ 10 → (s ++ ⟨A⟩).size ≤ 1000 := by intro A hA; rw [ByteArray.size_append]; show s.size + A.size ≤ 1000; omega
    have C0 := getI s _ rfl (by omega) m
    have S0 := getS s _ rfl (by omega)
    have n0 := pathL_len s.data.toList
    generalize pathL s.data.toList = p0 at C0 S0 n0
    obtain ⟨P, hP⟩ : ∃ P, P = baseP s.data.toList := ⟨_, rfl⟩
    have eq1 := path_c s.data.toList 122 (by simp) (by omega)
    rw [← hP] at eq1
    have HF : Hid (∀ q ∈ P ++ [[122]], fixP q) := by rw [← eq1]; exact path_fix _
    have hpl := putL_path (s.data.toList ++ [47, 122])
    rw [eq1] at hpl
    have hpt : (putL (P ++ [[122]])).length ≤ 100 := by simp at hpl ⊢; omega
    have hpt2 : (P ++ [[122]]).length + tot (P ++ [[122]]) ≤ 1000000000 := by rw [← putL_len]; omega
    have nP : P.length ≤ 201 := by
      have := pathL_len (s.data.toList ++ [47, 122]); rw [eq1] at this; simp at this; omega
    have C1 := getI (s ++ ⟨#[47, 122]⟩) (P ++ [[122]]) (by rw [app_list]; exact eq1) (hsz5 _ (by decide)) m
    have C2 := getI (s ++ ⟨#[47, 122, 47, 46, 46, 47, 122]⟩) (P ++ [[122]]) (by rw [app_list, hP]; exact path_cbd _ 122 122 (by simp) (by simp) (by omega)) (hsz5 _ (by decide)) m
    obtain ⟨t, ht⟩ : ∃ t, t = mk (putL (P ++ [[122]])) := ⟨_, rfl⟩
    have hts : t.size ≤ 100 := by rw [ht, mk_size]; exact hpt
    have C3 := getI (t ++ ⟨#[47]⟩) (P ++ [[122]] ++ [[]]) (by rw [app_list, ht, mk_data]; exact path_put_slash _ (by simp) HF.out (by omega)) (by rw [ByteArray.size_append]; show t.size + 1 ≤ 1000; omega) m
    have CP : Hid (∀ W a2 c2, StrsOf a2 (P ++ [[122]]).length (P ++ [[122]]) W → Calls Tryd.prog 11 #[.slice a2 (P ++ [[122]]).length c2] W fun e w' => e = .returned (.string t) ∧ Below W.heap.size W w') := by
      intro W a2 c2 hS; rw [ht]; exact implPathPut a2 _ c2 _ W hS hpt2
    have hq : (P ++ [[122]]).length = P.length + 1 := by simp
    have hq2 : (P ++ [[122]])[P.length]'(by omega) = [122] := by simp
    obtain ⟨q, hqq⟩ : ∃ q, q = P ++ [[122]] := ⟨_, rfl⟩
    rw [← hqq] at C1 C2 C3 CP hq
    have HQ2 : Hid (∀ h : P.length < q.length, q[P.length] = [122]) := by subst hqq; intro _; exact hq2
    clear hl hsz5 eq1 HF hpl hpt hpt2 ht hq2 hqq hP
    generalize P.length = n at *
    obtain ⟨q3, hq3⟩ : ∃ q3, q3 = q ++ [[]] := ⟨_, rfl⟩
    rw [← hq3] at C3
    have hq3l : q3.length ≤ 1000 := by rw [hq3]; simp; omega
    have HQ3 : Hid (q3 = q ++ [[]]) := hq3
    clear hq3
    have HQL : Hid (q.length = n + 1) := hq
    have hql : q.length ≤ 1000 := by omega
    clear hq
    go_wp2_with fail
    refine (C0.out _ _ on1).mono ?_
    rintro e w2 ⟨a2, c2, rfl, _, s2, b2⟩
    have on2 := on1.step b2
    go_wp2_with fail
    refine (S0.out _).mono ?_
    rintro e w3 ⟨a3, c3, rfl, _, s3, b3⟩
    have on3 := on2.step b3
    go_wp2_with fail
    refine (guTexts _ _ _ _ _ _ p0 _ (s2.later b3) s3 (by omega)).mono ?_
    rintro e w4 ⟨rfl, n4, rfl⟩
    have on4 := on3.drawn n4
    clear s2 s3 b2 b3 on1 on2 on3
    generalize w3.drewN n4 = W4 at *
    go_wp2_with fail
    refine (C1.out _ _ on4).mono ?_
    rintro e w5 ⟨a5, c5, rfl, hc5, s5, b5⟩
    have on5 := on4.step b5
    go_wp2_with fail
    refine (C2.out _ _ on5).mono ?_
    rintro e w6 ⟨a6, c6, rfl, _, s6, b6⟩
    have on6 := on5.step b6
    have s5' := s5.later b6
    go_wp2_with fail
    refine (guTexts _ _ _ _ _ _ q _ s5' s6 (by omega)).mono ?_
    rintro e w7 ⟨rfl, n7, rfl⟩
    have on7 := on6.drawn n7
    have s7 : StrsOf a5 q.length q (w6.drewN n7) := s5'
    clear s5 s5' s6 b5 b6 on4 on5 on6
    generalize w6.drewN n7 = W7 at *
    obtain ⟨b, off, z, rfl, hz, hzm, hzs⟩ := s7.at n (by have := HQL.out; omega)
    have hz2 : z = ⟨#[122]⟩ := by rw [hzm, HQ2.out (by have := HQL.out; omega)]; rfl
    subst hz2
    clear hzm hzs
    have hq3 : (0 : Int) < (q.length : Int) := by have := HQL.out; omega
    have hq4 : (q.length : Int) - 1 = (n : Int) := by have := HQL.out; omega
    have hq5 : (n : Int) < (q.length : Int) := by have := HQL.out; omega
    go_wp2_with fail
    refine (CP.out _ _ _ s7).mono ?_
    rintro e w8 ⟨rfl, b8⟩
    have on8 := on7.step b8
    have s8 := s7.later b8
    clear hz
    go_wp2_with fail
    refine (C3.out _ _ on8).mono ?_
    rintro e w9 ⟨a9, c9, rfl, _, s9, b9⟩
    have on9 := on8.step b9
    have s9' := s8.later b9
    clear on7 on8 s7 s8 b8 b9
    have h0 := ownS_new w9 w9.heap.size (Nat.le_refl _)
    have hcell : Hid (∀ j (h : j < q.length), (w9.alloc (.cells #[] 9)).cell? ⟨b, off + j, none⟩ = some (.string (mk q[j]))) := by
      intro j hj
      rcases s9'.2 with h | ⟨b', off', ha, hc⟩
      · rw [h] at hj; simp at hj
      · simp only [Option.some.injEq, Addr.mk.injEq, and_true] at ha
        obtain ⟨rfl, rfl⟩ := ha
        exact cell_kept ((Below.refl _ w9).alloc (Nat.le_refl _) _) (hc j hj) (cell_in (hc j hj))
    go_wp2_with (first
      | (at_builtin; refine wpAppendStrG w10 (by simp [Region.wanted, yielded]) _ _ rfl w9.heap.size _ q [] _ rfl R10 rfl rfl (by omega) z10 ?_; intro v11 w11 R11 b11; rw [← HQ3.out] at R11)
      | (at_builtin; refine wpAppendStrsG (w9.alloc (.cells #[] 9)) (by simp [Region.wanted, yielded]) _ _ rfl w9.heap.size _ [] q h0 rfl b off c5 rfl hcell.out (by simp; omega) (by simp) ?_; intro v10 w10 R10 b10; rw [List.nil_append] at R10; have z10 : w9.heap.size ≤ w10.heap.size := by have := b10.size; simp at this; omega))
    have bA : Below w9.heap.size w9 w10 := ((Below.refl _ w9).alloc (Nat.le_refl _) _).trans b10
    have bB := bA.trans b11
    obtain ⟨a11, c11, rfl, _, s11⟩ := R11.strs
    have s9b := s9.later bB
    have on11 := on9.step bB
    clear h0 hcell b10 bA b11 bB R10 R11 on9 s9
    go_wp2_with fail
    refine (guTexts _ _ _ _ _ _ q3 _ s9b s11 (by omega)).mono ?_
    rintro e w12 ⟨rfl, n12, rfl⟩
    have on12 := on11.drawn n12
    go_wp2
    go_ret
    exact ⟨rfl, on12.1⟩
end Go.Proofs.YtjkbgdnjghlakaaDoor

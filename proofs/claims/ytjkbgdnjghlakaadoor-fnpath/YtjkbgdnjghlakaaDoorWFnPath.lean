/- The law FnPath answers true, whatever the code. -/
import Derived.Test.YtjkbgdnjghlakaaDoorPathW
set_option linter.unusedVariables false
namespace Go.Proofs.YtjkbgdnjghlakaaDoor
open Go.RowKit Go.Shelf

theorem fix_no (q : List UInt8) (h : fixP q) : q ≠ [46] ∧ q ≠ [46, 46] := by
  constructor
  · intro e; have := h.1; rw [e] at this; exact absurd this (by decide)
  · intro e; have := h.1; rw [e] at this; exact absurd this (by decide)
theorem mk_neq {l k : List UInt8} (h : l ≠ k) : ((mk l).toList == k) = false := by
  rw [beq_eq_false_iff_ne, ByteArray.toList_eq, mk_data]; exact h

set_option maxHeartbeats 4000000 in
set_option maxRecDepth 100000 in
theorem fnPath_walk (w : World) (hM : ∃ m, w.cell? ⟨0, 0, none⟩ = some (.int .i64 m)) (a : Option Addr) (len cap : Nat) (zs : List Int) (h : IsRow .u8 w a len cap zs) :
    Calls Tryd.prog 3 #[.slice a len cap] w fun e w' => e = .returned (.bool true) ∧ Below w.heap.size w w' := by
  obtain ⟨m, hm⟩ := hM
  have hC := code_of_row h
  by_cases h1 : (1048576 : Int) < (len : Int)
  · go_enter Tryd.func3, Tryd.ntmps3
    go_wp2
    go_ret
    exact ⟨rfl, Below.refl _ _⟩
  · have h1' : (len : Int) ≤ 1048576 := by omega
    have on0 : On m w w := ⟨Below.refl _ _, hm⟩
    clear h1 h hm
    go_enter Tryd.func3, Tryd.ntmps3
    go_wp2_with fail
    refine (drawPathGet w.heap.size a len cap _ rfl hC).mono ?_
    rintro e w1 ⟨s, rfl, hs, b1⟩
    have on1 := on0.step b1
    clear hC b1 on0
    have hl : s.data.toList.length = s.size := by simp
    have C0 := getI s _ rfl (by omega) m
    have S0 := getS s _ rfl (by omega)
    have n0 := pathL_len s.data.toList
    have HF : Hid (∀ q ∈ pathL s.data.toList, fixP q) := path_fix _
    have HNE : Hid (pathL s.data.toList ≠ []) := path_ne _ (by omega)
    have hpl := putL_path s.data.toList
    generalize pathL s.data.toList = p0 at C0 S0 n0 HF HNE hpl
    have hpt : (putL p0).length ≤ 200 := by omega
    have hpt2 : p0.length + tot p0 ≤ 1000000000 := by rw [← putL_len]; omega
    have C1 := getI (mk (putL p0)) p0 (by rw [mk_data]; exact path_put p0 HNE.out HF.out hpt) (by rw [mk_size]; omega) m
    obtain ⟨n, hn⟩ : ∃ n, p0.length = n + 1 := ⟨p0.length - 1, by have := List.length_pos_iff.2 HNE.out; omega⟩
    have hn0 : ((p0.length : Int) == 0) = false := by rw [beq_eq_false_iff_ne]; omega
    have HN : Hid (p0.length = n + 1) := hn
    clear hn hl hpl
    go_wp2_with fail
    refine (C0.out _ _ on1).mono ?_
    rintro e w2 ⟨a2, c2, rfl, _, s2, b2⟩
    have on2 := on1.step b2
    go_wp2_with fail
    refine (S0.out _).mono ?_
    rintro e w3 ⟨a3, c3, rfl, _, s3, b3⟩
    have on3 := on2.step b3
    have s2' := s2.later b3
    go_wp2_with fail
    refine (guTexts _ _ _ _ _ _ p0 _ s2' s3 (by omega)).mono ?_
    rintro e w4 ⟨rfl, n4, rfl⟩
    have on4 := on3.drawn n4
    have s4 : StrsOf a2 p0.length p0 (w3.drewN n4) := s2'
    clear s2 s2' s3 b2 b3 on1 on2 on3
    generalize w3.drewN n4 = W4 at *
    go_wp2_with fail
    go_loop [5] (fun i => ∃ k : Nat, k ≤ p0.length ∧ i = .int .i64 k) (fun i => p0.length - (intOf i).toNat)
    case atStart => exact ⟨0, Nat.zero_le _, rfl⟩
    case round =>
      obtain ⟨k, hk, rfl⟩ := hrel
      by_cases hp : k < p0.length
      · have hki : (k : Int) < (p0.length : Int) := by omega
        obtain ⟨b, off, z, rfl, hz, hzm, hzs⟩ := s4.at k hp
        obtain ⟨f1, f2⟩ := fix_no _ (HF.out _ (List.getElem_mem hp))
        have e1 : (z.toList == [46]) = false := by rw [hzm]; exact mk_neq f1
        have e2 : (z.toList == [46, 46]) = false := by rw [hzm]; exact mk_neq f2
        clear hzm hzs f1 f2
        go_wp2
        go_round
        case rel => exact ⟨k + 1, by omega, by go_num⟩
        case measure => simp [intOf]; omega
      · have hkk : ¬ ((k : Int) < (p0.length : Int)) := by omega
        go_wp2_with fail
        refine (implPathPut _ _ _ p0 _ s4 hpt2).mono ?_
        rintro e w5 ⟨rfl, b5⟩
        have on5 := on4.step b5
        have s5 := s4.later b5
        go_wp2_with fail
        refine (C1.out _ _ on5).mono ?_
        rintro e w6 ⟨a6, c6, rfl, _, s6, b6⟩
        have on6 := on5.step b6
        have s5' := s5.later b6
        go_wp2_with fail
        refine (guTexts _ _ _ _ _ _ p0 _ s6 s5' (by omega)).mono ?_
        rintro e w7 ⟨rfl, n7, rfl⟩
        have on7 := on6.drawn n7
        have s7 : StrsOf a2 p0.length p0 (w6.drewN n7) := s5'
        clear s5 s5' s6 b5 b6 on5 on6
        generalize w6.drewN n7 = W7 at *
        go_wp2_with fail
        refine (implPathPut _ _ _ p0 _ s7 hpt2).mono ?_
        rintro e w8 ⟨rfl, b8⟩
        have on8 := on7.step b8
        have s8 := s7.later b8
        go_wp2_with fail
        refine (specPathPut _ _ _ p0 _ s8 hpt2).mono ?_
        rintro e w9 ⟨rfl, rfl⟩
        go_wp2
        go_ret
        exact ⟨rfl, on8.1⟩
end Go.Proofs.YtjkbgdnjghlakaaDoor

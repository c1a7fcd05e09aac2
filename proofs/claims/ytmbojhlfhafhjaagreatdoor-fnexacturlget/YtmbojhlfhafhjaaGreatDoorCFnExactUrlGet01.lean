/- The law FnExactUrlGet answers true, whatever the text. -/
import Derived.Test.YtmbojhlfhafhjaaGreatDoorB22
section
set_option linter.unusedVariables false
set_option linter.unusedSimpArgs false
namespace Go.Proofs.YtmbojhlfhafhjaaGreatDoor
open Go.RowKit Go.Shelf

set_option maxHeartbeats 4000000 in
set_option maxRecDepth 100000 in
theorem fnExactUrlGet_walk (w : World) (hL : Lean1 w) (s : ByteArray) (hs : s.size ≤ maxLen) :
    Calls Tryz.prog 3 #[.string s] w fun e w' => e = .returned (.bool true) ∧ Below w.heap.size w w' := by
  unfold maxLen at hs
  by_cases h : (1048576 : Int) < (s.size : Int)
  · clear hL
    go_enter Tryz.func3, Tryz.ntmps3
    go_wp2
    go_ret
    exact ⟨rfl, Below.refl _ _⟩
  · have h' : (s.size : Int) ≤ 1048576 := by omega
    clear h
    obtain ⟨q, hq⟩ : ∃ q, q = getP s.data.toList := ⟨_, rfl⟩
    obtain ⟨ok, hok⟩ : ∃ ok, ok = getB s.data.toList := ⟨_, rfl⟩
    have hpl : q.ps.length ≤ 1000 := by
      rw [hq]; unfold getP getO
      split
      · cases schP P.zero (trimL s.data.toList) with
        | none => exact Nat.zero_le _
        | some r =>
          show ((if _ then some r else none : Option P).getD P.zero).ps.length ≤ 1000
          split
          · rename_i h1; show r.ps.length ≤ 1000; omega
          · exact Nat.zero_le _
      · exact Nat.zero_le _
    have CI : Hid (∀ W, Lean1 W → Calls Tryz.prog 10 #[.string s] W fun e w' => ∃ v, e = .returned (.tuple #[.agg (q.cells v), .bool ok]) ∧ OwnS W.heap.size v q.ps w' ∧ Below W.heap.size W w') := fun W hW => by rw [hq, hok]; exact implUrlGet s W hW (by omega)
    have CS : Hid (∀ W, Calls Tryz.prog 9 #[.string s] W fun e w' => ∃ v, e = .returned (.tuple #[.agg (q.cells v), .bool ok]) ∧ OwnS W.heap.size v q.ps w' ∧ Below W.heap.size W w') := fun W => by rw [hq, hok]; exact specUrlGet s W (by omega)
    clear hq hok
    have HL : Hid (Lean1 w) := hL
    clear hL
    go_enter Tryz.func3, Tryz.ntmps3
    go_wp2_with fail
    refine (CS.out _).mono ?_
    rintro e w1 ⟨v1, rfl, o1, b1⟩
    obtain ⟨a1, c1, hv1, hc1, s1⟩ := o1.strs
    obtain ⟨n, hn⟩ : ∃ n, n = q.ps.length := ⟨_, rfl⟩
    have HN : Hid (n = q.ps.length) := hn
    rw [← hn] at hv1 s1
    subst hv1
    have HB1 : Hid (Below w.heap.size w (w1.alloc (.cells #[(.string q.sc), (.string q.us), (.string q.pw), (.int .i64 q.hk), (.string q.hn), (.int .i64 q.ha), (.int .i64 q.po), (.slice a1 n c1), (.string q.op), (.bool q.hq), (.string q.qu), (.bool q.hf), (.string q.fr)] 26))) := b1.alloc (by have := b1.size; omega) _
    have HK1 : Hid (Blk w1.heap.size #[(.string q.sc), (.string q.us), (.string q.pw), (.int .i64 q.hk), (.string q.hn), (.int .i64 q.ha), (.int .i64 q.po), (.slice a1 n c1), (.string q.op), (.bool q.hq), (.string q.qu), (.bool q.hf), (.string q.fr)] 26 (w1.alloc (.cells #[(.string q.sc), (.string q.us), (.string q.pw), (.int .i64 q.hk), (.string q.hn), (.int .i64 q.ha), (.int .i64 q.po), (.slice a1 n c1), (.string q.op), (.bool q.hq), (.string q.qu), (.bool q.hf), (.string q.fr)] 26))) := Blk.new w1 _ _
    have HS1 : Hid (StrsOf a1 n q.ps (w1.alloc (.cells #[(.string q.sc), (.string q.us), (.string q.pw), (.int .i64 q.hk), (.string q.hn), (.int .i64 q.ha), (.int .i64 q.po), (.slice a1 n c1), (.string q.op), (.bool q.hq), (.string q.qu), (.bool q.hf), (.string q.fr)] 26))) := s1.later ((Below.refl _ w1).alloc (Nat.le_refl _) _)
    have HLV : Hid (Lean1 (w1.alloc (.cells #[(.string q.sc), (.string q.us), (.string q.pw), (.int .i64 q.hk), (.string q.hn), (.int .i64 q.ha), (.int .i64 q.po), (.slice a1 n c1), (.string q.op), (.bool q.hq), (.string q.qu), (.bool q.hf), (.string q.fr)] 26))) := HL.out.below HB1.out
    clear o1 b1 s1 hc1 CS HL
    have hnn : n ≤ 1000 := by omega
    clear hn hpl
    unfold P.cells
    go_wp2_with fail
    obtain ⟨V1, hV1⟩ : ∃ V, V = (w1.alloc (.cells #[(.string q.sc), (.string q.us), (.string q.pw), (.int .i64 q.hk), (.string q.hn), (.int .i64 q.ha), (.int .i64 q.po), (.slice a1 n c1), (.string q.op), (.bool q.hq), (.string q.qu), (.bool q.hf), (.string q.fr)] 26)) := ⟨_, rfl⟩
    rw [← hV1] at HB1 HK1 HS1 HLV ⊢
    have HV1 : Hid (V1.heap.size = w1.heap.size + 1) := by show _ = _; rw [hV1]; simp
    clear hV1
    refine (CI.out _ HLV.out).mono ?_
    rintro e w2 ⟨v2, rfl, o2, b2⟩
    obtain ⟨a2, c2, hv2, hc2, s2⟩ := o2.strs
    rw [← HN.out] at hv2 s2
    subst hv2
    have bv2 : Below V1.heap.size V1 (w2.alloc (.cells #[(.string q.sc), (.string q.us), (.string q.pw), (.int .i64 q.hk), (.string q.hn), (.int .i64 q.ha), (.int .i64 q.po), (.slice a2 n c2), (.string q.op), (.bool q.hq), (.string q.qu), (.bool q.hf), (.string q.fr)] 26)) := b2.alloc b2.size _
    have HBV2 : Hid (Below V1.heap.size V1 (w2.alloc (.cells #[(.string q.sc), (.string q.us), (.string q.pw), (.int .i64 q.hk), (.string q.hn), (.int .i64 q.ha), (.int .i64 q.po), (.slice a2 n c2), (.string q.op), (.bool q.hq), (.string q.qu), (.bool q.hf), (.string q.fr)] 26))) := bv2
    have HG2 : Hid (Blk w2.heap.size #[(.string q.sc), (.string q.us), (.string q.pw), (.int .i64 q.hk), (.string q.hn), (.int .i64 q.ha), (.int .i64 q.po), (.slice a2 n c2), (.string q.op), (.bool q.hq), (.string q.qu), (.bool q.hf), (.string q.fr)] 26 (w2.alloc (.cells #[(.string q.sc), (.string q.us), (.string q.pw), (.int .i64 q.hk), (.string q.hn), (.int .i64 q.ha), (.int .i64 q.po), (.slice a2 n c2), (.string q.op), (.bool q.hq), (.string q.qu), (.bool q.hf), (.string q.fr)] 26))) := Blk.new w2 _ _
    have HS2 : Hid (StrsOf a2 n q.ps (w2.alloc (.cells #[(.string q.sc), (.string q.us), (.string q.pw), (.int .i64 q.hk), (.string q.hn), (.int .i64 q.ha), (.int .i64 q.po), (.slice a2 n c2), (.string q.op), (.bool q.hq), (.string q.qu), (.bool q.hf), (.string q.fr)] 26))) := s2.later ((Below.refl _ w2).alloc (Nat.le_refl _) _)
    have HO2 : Hid (OwnS V1.heap.size (.slice a2 n c2) q.ps (w2.alloc (.cells #[(.string q.sc), (.string q.us), (.string q.pw), (.int .i64 q.hk), (.string q.hn), (.int .i64 q.ha), (.int .i64 q.po), (.slice a2 n c2), (.string q.op), (.bool q.hq), (.string q.qu), (.bool q.hf), (.string q.fr)] 26))) := o2.later ((Below.refl _ w2).alloc (Nat.le_refl _) _)
    have hk1 := Blk.cells13 (q := q) (HK1.out.below bv2 HK1.out.lt)
    obtain ⟨k0, k1, k2, k3, k4, k5, k6, k7, k8, k9, k10, k11, k12⟩ := hk1
    clear o2 b2 s2 hc2 bv2
    unfold P.cells
    have CE : Hid (Calls Tryz.prog 11 #[.agg #[(.string q.sc), (.string q.us), (.string q.pw), (.int .i64 q.hk), (.string q.hn), (.int .i64 q.ha), (.int .i64 q.po), (.slice a2 n c2), (.string q.op), (.bool q.hq), (.string q.qu), (.bool q.hf), (.string q.fr)], .agg #[(.string q.sc), (.string q.us), (.string q.pw), (.int .i64 q.hk), (.string q.hn), (.int .i64 q.ha), (.int .i64 q.po), (.slice a1 n c1), (.string q.op), (.bool q.hq), (.string q.qu), (.bool q.hf), (.string q.fr)]] (w2.alloc (.cells #[(.string q.sc), (.string q.us), (.string q.pw), (.int .i64 q.hk), (.string q.hn), (.int .i64 q.ha), (.int .i64 q.po), (.slice a2 n c2), (.string q.op), (.bool q.hq), (.string q.qu), (.bool q.hf), (.string q.fr)] 26)) fun e w' => e = .returned (.bool true) ∧ Below ((w2.alloc (.cells #[(.string q.sc), (.string q.us), (.string q.pw), (.int .i64 q.hk), (.string q.hn), (.int .i64 q.ha), (.int .i64 q.po), (.slice a2 n c2), (.string q.op), (.bool q.hq), (.string q.qu), (.bool q.hf), (.string q.fr)] 26))).heap.size (w2.alloc (.cells #[(.string q.sc), (.string q.us), (.string q.pw), (.int .i64 q.hk), (.string q.hn), (.int .i64 q.ha), (.int .i64 q.po), (.slice a2 n c2), (.string q.op), (.bool q.hq), (.string q.qu), (.bool q.hf), (.string q.fr)] 26)) w') := by
      have := eqUrl q a2 a1 c2 c1 (w2.alloc (.cells #[(.string q.sc), (.string q.us), (.string q.pw), (.int .i64 q.hk), (.string q.hn), (.int .i64 q.ha), (.int .i64 q.po), (.slice a2 n c2), (.string q.op), (.bool q.hq), (.string q.qu), (.bool q.hf), (.string q.fr)] 26)) (by rw [← HN.out]; exact HS2.out) (by rw [← HN.out]; exact HS1.out.later HBV2.out) (by rw [← HN.out]; omega)
      rw [← HN.out] at this
      exact this
    go_wp2_with fail
    refine CE.out.mono ?_
    rintro e w3 ⟨rfl, b3⟩
    have HBV3 : Hid (Below V1.heap.size V1 w3) := HBV2.out.trans (b3.mono HBV2.out.size)
    have HG3 : Hid (Blk w2.heap.size #[(.string q.sc), (.string q.us), (.string q.pw), (.int .i64 q.hk), (.string q.hn), (.int .i64 q.ha), (.int .i64 q.po), (.slice a2 n c2), (.string q.op), (.bool q.hq), (.string q.qu), (.bool q.hf), (.string q.fr)] 26 w3) := HG2.out.below b3 HG2.out.lt
    have HO3 : Hid (OwnS V1.heap.size (.slice a2 n c2) q.ps w3) := HO2.out.later b3
    clear b3 CE HBV2 HG2 HS2 HO2 k0 k1 k2 k3 k4 k5 k6 k7 k8 k9 k10 k11 k12
    obtain ⟨j0, j1, j2, j3, j4, j5, j6, j7, j8, j9, j10, j11, j12⟩ := Blk.cells13 (q := q) HG3.out
    have CM : Hid (Calls Tryz.prog 12 #[.agg #[(.string q.sc), (.string q.us), (.string q.pw), (.int .i64 q.hk), (.string q.hn), (.int .i64 q.ha), (.int .i64 q.po), (.slice a2 n c2), (.string q.op), (.bool q.hq), (.string q.qu), (.bool q.hf), (.string q.fr)], .int .i64 1] w3 fun e w' => e = .returned (.int .i64 ((1 + n : Nat) : Int)) ∧ OwnS V1.heap.size (.slice a2 n c2) (markTs 1 n) w' ∧ Below V1.heap.size w3 w' ∧ Blk w2.heap.size #[(.string q.sc), (.string q.us), (.string q.pw), (.int .i64 q.hk), (.string q.hn), (.int .i64 q.ha), (.int .i64 q.po), (.slice a2 n c2), (.string q.op), (.bool q.hq), (.string q.qu), (.bool q.hf), (.string q.fr)] 26 w') := markUrl w2.heap.size #[(.string q.sc), (.string q.us), (.string q.pw), (.int .i64 q.hk), (.string q.hn), (.int .i64 q.ha), (.int .i64 q.po), (.slice a2 n c2), (.string q.op), (.bool q.hq), (.string q.qu), (.bool q.hf), (.string q.fr)] V1.heap.size q a2 n c2 1 w3 HN.out HO3.out HG3.out HBV3.out.size (by decide) (by decide) (by omega)
    obtain ⟨M, hM⟩ : ∃ M : Int, M = ((1 + n : Nat) : Int) := ⟨_, rfl⟩
    rw [← hM] at CM
    have hM0 : 0 ≤ M := by omega
    go_wp2_with fail
    refine CM.out.mono ?_
    rintro e w4 ⟨rfl, o4, b4, g4⟩
    have HBV4 : Hid (Below V1.heap.size V1 w4) := HBV3.out.trans b4
    have HG4 : Hid (Blk w2.heap.size #[(.string q.sc), (.string q.us), (.string q.pw), (.int .i64 q.hk), (.string q.hn), (.int .i64 q.ha), (.int .i64 q.po), (.slice a2 n c2), (.string q.op), (.bool q.hq), (.string q.qu), (.bool q.hf), (.string q.fr)] 26 w4) := g4
    have HT4 : Hid (StrsOf a2 n (markTs 1 n) w4) := by
      obtain ⟨a4, c4, hv4, _, t4⟩ := o4.strs
      rw [markTs_len] at hv4 t4
      simp only [Value.slice.injEq, true_and] at hv4
      rw [hv4.1]
      exact t4
    clear o4 b4 g4 HBV3 HG3 HO3 CM j0 j1 j2 j3 j4 j5 j6 j7 j8 j9 j10 j11 j12
    obtain ⟨j0, j1, j2, j3, j4, j5, j6, j7, j8, j9, j10, j11, j12⟩ := Blk.cells13 (q := q) HG4.out
    have CH : Hid (∀ W, StrsOf a2 n (markTs 1 n) W → Calls Tryz.prog 13 #[.agg #[(.string q.sc), (.string q.us), (.string q.pw), (.int .i64 q.hk), (.string q.hn), (.int .i64 q.ha), (.int .i64 q.po), (.slice a2 n c2), (.string q.op), (.bool q.hq), (.string q.qu), (.bool q.hf), (.string q.fr)], .int .i64 1] W fun e w' => e = .returned (.int .i64 M) ∧ Below W.heap.size W w') := fun W h => by rw [hM]; exact heldUrl q a2 n c2 1 W h (by decide) (by decide) (by omega)
    clear hM
    go_wp2_with fail
    refine (CH.out _ HT4.out).mono ?_
    rintro e w5 ⟨rfl, b5⟩
    have HBV5 : Hid (Below V1.heap.size V1 w5) := HBV4.out.trans (b5.mono HBV4.out.size)
    have HG5 : Hid (Blk w2.heap.size #[(.string q.sc), (.string q.us), (.string q.pw), (.int .i64 q.hk), (.string q.hn), (.int .i64 q.ha), (.int .i64 q.po), (.slice a2 n c2), (.string q.op), (.bool q.hq), (.string q.qu), (.bool q.hf), (.string q.fr)] 26 w5) := HG4.out.below b5 HG4.out.lt
    have HT5 : Hid (StrsOf a2 n (markTs 1 n) w5) := HT4.out.later b5
    have HL5 : Hid (Lean1 w5) := HLV.out.below HBV5.out
    clear b5 HBV4 HG4 HT4 j0 j1 j2 j3 j4 j5 j6 j7 j8 j9 j10 j11 j12
    go_wp2_with fail
    refine (CI.out _ HL5.out).mono ?_
    rintro e w6 ⟨v6, rfl, o6, b6⟩
    obtain ⟨a6, c6, hv6, hc6, s6⟩ := o6.strs
    rw [← HN.out] at hv6 s6
    subst hv6
    have bv6 : Below V1.heap.size V1 (w6.alloc (.cells #[(.string q.sc), (.string q.us), (.string q.pw), (.int .i64 q.hk), (.string q.hn), (.int .i64 q.ha), (.int .i64 q.po), (.slice a6 n c6), (.string q.op), (.bool q.hq), (.string q.qu), (.bool q.hf), (.string q.fr)] 26)) := (HBV5.out.trans (b6.mono HBV5.out.size)).alloc (by have h1 := HBV5.out.size; have h2 := b6.size; omega) _
    have HBV6 : Hid (Below V1.heap.size V1 (w6.alloc (.cells #[(.string q.sc), (.string q.us), (.string q.pw), (.int .i64 q.hk), (.string q.hn), (.int .i64 q.ha), (.int .i64 q.po), (.slice a6 n c6), (.string q.op), (.bool q.hq), (.string q.qu), (.bool q.hf), (.string q.fr)] 26))) := bv6
    have b56 : Below w5.heap.size w5 (w6.alloc (.cells #[(.string q.sc), (.string q.us), (.string q.pw), (.int .i64 q.hk), (.string q.hn), (.int .i64 q.ha), (.int .i64 q.po), (.slice a6 n c6), (.string q.op), (.bool q.hq), (.string q.qu), (.bool q.hf), (.string q.fr)] 26)) := b6.alloc b6.size _
    have HG6 : Hid (Blk w2.heap.size #[(.string q.sc), (.string q.us), (.string q.pw), (.int .i64 q.hk), (.string q.hn), (.int .i64 q.ha), (.int .i64 q.po), (.slice a2 n c2), (.string q.op), (.bool q.hq), (.string q.qu), (.bool q.hf), (.string q.fr)] 26 (w6.alloc (.cells #[(.string q.sc), (.string q.us), (.string q.pw), (.int .i64 q.hk), (.string q.hn), (.int .i64 q.ha), (.int .i64 q.po), (.slice a6 n c6), (.string q.op), (.bool q.hq), (.string q.qu), (.bool q.hf), (.string q.fr)] 26))) := HG5.out.below b56 HG5.out.lt
    have HT6 : Hid (StrsOf a2 n (markTs 1 n) (w6.alloc (.cells #[(.string q.sc), (.string q.us), (.string q.pw), (.int .i64 q.hk), (.string q.hn), (.int .i64 q.ha), (.int .i64 q.po), (.slice a6 n c6), (.string q.op), (.bool q.hq), (.string q.qu), (.bool q.hf), (.string q.fr)] 26))) := HT5.out.later b56
    have HS6 : Hid (StrsOf a6 n q.ps (w6.alloc (.cells #[(.string q.sc), (.string q.us), (.string q.pw), (.int .i64 q.hk), (.string q.hn), (.int .i64 q.ha), (.int .i64 q.po), (.slice a6 n c6), (.string q.op), (.bool q.hq), (.string q.qu), (.bool q.hf), (.string q.fr)] 26))) := s6.later ((Below.refl _ w6).alloc (Nat.le_refl _) _)
    obtain ⟨k0, k1, k2, k3, k4, k5, k6, k7, k8, k9, k10, k11, k12⟩ := Blk.cells13 (q := q) (HK1.out.below bv6 HK1.out.lt)
    clear o6 b6 s6 hc6 bv6 b56 HG5 HT5 HBV5 HL5 CI
    unfold P.cells
    have CE : Hid (Calls Tryz.prog 11 #[.agg #[(.string q.sc), (.string q.us), (.string q.pw), (.int .i64 q.hk), (.string q.hn), (.int .i64 q.ha), (.int .i64 q.po), (.slice a6 n c6), (.string q.op), (.bool q.hq), (.string q.qu), (.bool q.hf), (.string q.fr)], .agg #[(.string q.sc), (.string q.us), (.string q.pw), (.int .i64 q.hk), (.string q.hn), (.int .i64 q.ha), (.int .i64 q.po), (.slice a1 n c1), (.string q.op), (.bool q.hq), (.string q.qu), (.bool q.hf), (.string q.fr)]] (w6.alloc (.cells #[(.string q.sc), (.string q.us), (.string q.pw), (.int .i64 q.hk), (.string q.hn), (.int .i64 q.ha), (.int .i64 q.po), (.slice a6 n c6), (.string q.op), (.bool q.hq), (.string q.qu), (.bool q.hf), (.string q.fr)] 26)) fun e w' => e = .returned (.bool true) ∧ Below ((w6.alloc (.cells #[(.string q.sc), (.string q.us), (.string q.pw), (.int .i64 q.hk), (.string q.hn), (.int .i64 q.ha), (.int .i64 q.po), (.slice a6 n c6), (.string q.op), (.bool q.hq), (.string q.qu), (.bool q.hf), (.string q.fr)] 26))).heap.size (w6.alloc (.cells #[(.string q.sc), (.string q.us), (.string q.pw), (.int .i64 q.hk), (.string q.hn), (.int .i64 q.ha), (.int .i64 q.po), (.slice a6 n c6), (.string q.op), (.bool q.hq), (.string q.qu), (.bool q.hf), (.string q.fr)] 26)) w') := by
      have := eqUrl q a6 a1 c6 c1 (w6.alloc (.cells #[(.string q.sc), (.string q.us), (.string q.pw), (.int .i64 q.hk), (.string q.hn), (.int .i64 q.ha), (.int .i64 q.po), (.slice a6 n c6), (.string q.op), (.bool q.hq), (.string q.qu), (.bool q.hf), (.string q.fr)] 26)) (by rw [← HN.out]; exact HS6.out) (by rw [← HN.out]; exact HS1.out.later HBV6.out) (by rw [← HN.out]; omega)
      rw [← HN.out] at this
      exact this
    go_wp2_with fail
    refine CE.out.mono ?_
    rintro e w7 ⟨rfl, b7⟩
    have HBV7 : Hid (Below V1.heap.size V1 w7) := HBV6.out.trans (b7.mono HBV6.out.size)
    have HG7 : Hid (Blk w2.heap.size #[(.string q.sc), (.string q.us), (.string q.pw), (.int .i64 q.hk), (.string q.hn), (.int .i64 q.ha), (.int .i64 q.po), (.slice a2 n c2), (.string q.op), (.bool q.hq), (.string q.qu), (.bool q.hf), (.string q.fr)] 26 w7) := HG6.out.below b7 HG6.out.lt
    have HT7 : Hid (StrsOf a2 n (markTs 1 n) w7) := HT6.out.later b7
    clear b7 CE HBV6 HG6 HT6 HS6 k0 k1 k2 k3 k4 k5 k6 k7 k8 k9 k10 k11 k12
    obtain ⟨j0, j1, j2, j3, j4, j5, j6, j7, j8, j9, j10, j11, j12⟩ := Blk.cells13 (q := q) HG7.out
    go_wp2_with fail
    refine (CH.out _ HT7.out).mono ?_
    rintro e w8 ⟨rfl, b8⟩
    have HB8 : Hid (Below w.heap.size w w8) := HB1.out.trans ((HBV7.out.trans (b8.mono HBV7.out.size)).mono HB1.out.size)
    clear b8 HBV7 HG7 HT7 CH j0 j1 j2 j3 j4 j5 j6 j7 j8 j9 j10 j11 j12 HK1 HS1 HLV HB1
    go_wp2
    go_ret
    exact ⟨rfl, HB8.out⟩
end Go.Proofs.YtmbojhlfhafhjaaGreatDoor
end

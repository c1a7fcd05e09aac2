/- spec.DrawPortOf draws an address. The law FnPortOf answers true, whatever the code. -/
import Derived.Test.YthjccpboecfdhaaGreatDoorCFnPortOf07
import Derived.Test.YthjccpboecfdhaaGreatDoorCFnPortOf01
import Derived.Deep.Cut
import Derived.Test.YthjccpboecfdhaaGreatDoorCFnPortOf02
import Derived.Test.YthjccpboecfdhaaGreatDoorCFnPortOf03
section
set_option linter.unusedVariables false
set_option linter.unusedSimpArgs false
namespace Go.Proofs.YthjccpboecfdhaaGreatDoor
open Go.RowKit Go.Shelf

set_option maxHeartbeats 4000000 in
set_option maxRecDepth 100000 in
theorem drawPortOf (B : Nat) (a0 : Option Addr) (len cap : Nat) (w : World) (hB : B ≤ w.heap.size) (h : Code B w a0 len cap) :
    Calls Tryz.prog 24 #[.slice a0 len cap] w fun e w' => ∃ (q : P) (a : Option Addr) (n c : Nat), e = .returned (.agg #[(.string q.sc), (.string q.us), (.string q.pw), (.int .i64 q.hk), (.string q.hn), (.int .i64 q.ha), (.int .i64 q.po), (.slice a n c), (.string q.op), (.bool q.hq), (.string q.qu), (.bool q.hf), (.string q.fr)]) ∧ StrsOf a n q.ps w' ∧ Hid (Fit2 q ∧ n = q.ps.length) ∧ Below w.heap.size w w' := by
  obtain ⟨V0, hV0⟩ : ∃ V, V = w.alloc (.cells #[(.string ⟨#[]⟩), (.string ⟨#[]⟩), (.string ⟨#[]⟩), (.int .i64 0), (.string ⟨#[]⟩), (.int .i64 0), (.int .i64 0), (.slice none 0 0), (.string ⟨#[]⟩), (.bool false), (.string ⟨#[]⟩), (.bool false), (.string ⟨#[]⟩)] 27) := ⟨_, rfl⟩
  have HK0 : Hid (Blk w.heap.size #[(.string ⟨#[]⟩), (.string ⟨#[]⟩), (.string ⟨#[]⟩), (.int .i64 0), (.string ⟨#[]⟩), (.int .i64 0), (.int .i64 0), (.slice none 0 0), (.string ⟨#[]⟩), (.bool false), (.string ⟨#[]⟩), (.bool false), (.string ⟨#[]⟩)] 27 V0) := by show Blk _ _ _ _; rw [hV0]; exact Blk.new w _ _
  have HC0 : Hid (Code B V0 a0 len cap) := by rw [hV0]; exact code_alloc h hB _
  have HB0 : Hid (Below w.heap.size w V0) := by show Below _ _ _; rw [hV0]; exact (Below.refl _ w).alloc (Nat.le_refl _) _
  have HZ0 : Hid (V0.heap.size = w.heap.size + 1) := by show _ = _; rw [hV0]; simp
  clear h
  go_enter Tryz.func24, Tryz.ntmps24
  go_upto_region 1 with fail
  rw [← hV0]
  clear hV0
  go_wp2_with fail
  refine (l1Open B a0 len cap _ (by have := HZ0.out; omega) HC0.out).mono ?_
  rintro e w1 ⟨rfl, hr, b1⟩
  have HR1 : Hid (Rd B V0.heap.size 0 w1) := hr
  have HK1 : Hid (Blk w.heap.size #[(.string ⟨#[]⟩), (.string ⟨#[]⟩), (.string ⟨#[]⟩), (.int .i64 0), (.string ⟨#[]⟩), (.int .i64 0), (.int .i64 0), (.slice none 0 0), (.string ⟨#[]⟩), (.bool false), (.string ⟨#[]⟩), (.bool false), (.string ⟨#[]⟩)] 27 w1) := HK0.out.below b1 HK0.out.lt
  have HB1 : Hid (Below w.heap.size w w1) := HB0.out.trans (b1.mono HB0.out.size)
  clear hr b1 HC0 HK0 HB0
  go_wp2_with fail
  refine (l11AnyUrl B V0.heap.size 0 _ (by decide) HR1.out).mono ?_
  rintro e w2 ⟨q, a, n, c, p', rfl, o2, hF, hp, r2, g2⟩
  have HK2 : Hid (Blk w.heap.size #[(.string ⟨#[]⟩), (.string ⟨#[]⟩), (.string ⟨#[]⟩), (.int .i64 0), (.string ⟨#[]⟩), (.int .i64 0), (.int .i64 0), (.slice none 0 0), (.string ⟨#[]⟩), (.bool false), (.string ⟨#[]⟩), (.bool false), (.string ⟨#[]⟩)] 27 w2) := (g2.block _ HK1.out.lt (by have := HZ0.out; simp; omega)).trans HK1.out
  have HB2 : Hid (Below w.heap.size w w2) := HB1.out.trans (below_grown g2 (by have := HZ0.out; omega) HB1.out.size)
  have HO2 : Hid (OwnS w1.heap.size (.slice a n c) q.ps w2) := o2
  have HLT : Hid (w.heap.size < w1.heap.size) := HK1.out.lt
  clear o2 r2 g2 HK1 HB1 HR1
  have HFIN : Hid (StrsOf a n q.ps (((((((((((((w2.setCell ⟨w.heap.size, 0, none⟩ (.string q.sc)).setCell ⟨w.heap.size, 1, none⟩ (.string q.us)).setCell ⟨w.heap.size, 2, none⟩ (.string q.pw)).setCell ⟨w.heap.size, 3, none⟩ (.int .i64 q.hk)).setCell ⟨w.heap.size, 4, none⟩ (.string q.hn)).setCell ⟨w.heap.size, 5, none⟩ (.int .i64 q.ha)).setCell ⟨w.heap.size, 6, none⟩ (.int .i64 q.po)).setCell ⟨w.heap.size, 7, none⟩ (.slice a n c)).setCell ⟨w.heap.size, 8, none⟩ (.string q.op)).setCell ⟨w.heap.size, 9, none⟩ (.bool q.hq)).setCell ⟨w.heap.size, 10, none⟩ (.string q.qu)).setCell ⟨w.heap.size, 11, none⟩ (.bool q.hf)).setCell ⟨w.heap.size, 12, none⟩ (.string q.fr)) ∧ Below w.heap.size w (((((((((((((w2.setCell ⟨w.heap.size, 0, none⟩ (.string q.sc)).setCell ⟨w.heap.size, 1, none⟩ (.string q.us)).setCell ⟨w.heap.size, 2, none⟩ (.string q.pw)).setCell ⟨w.heap.size, 3, none⟩ (.int .i64 q.hk)).setCell ⟨w.heap.size, 4, none⟩ (.string q.hn)).setCell ⟨w.heap.size, 5, none⟩ (.int .i64 q.ha)).setCell ⟨w.heap.size, 6, none⟩ (.int .i64 q.po)).setCell ⟨w.heap.size, 7, none⟩ (.slice a n c)).setCell ⟨w.heap.size, 8, none⟩ (.string q.op)).setCell ⟨w.heap.size, 9, none⟩ (.bool q.hq)).setCell ⟨w.heap.size, 10, none⟩ (.string q.qu)).setCell ⟨w.heap.size, 11, none⟩ (.bool q.hf)).setCell ⟨w.heap.size, 12, none⟩ (.string q.fr))) := by
    refine ⟨?_, below_put13 HB2.out (Nat.le_refl _) _ _ _ _ _ _ _ _ _ _ _ _ _⟩
    obtain ⟨a1, c1, h1, h2, s1⟩ := (OwnS.put13 HO2.out HLT.out).strs
    rw [← hF.out.2] at h1 s1
    injection h1 with e1 e2 e3
    rw [← e1] at s1
    exact s1
  obtain ⟨e0, e1, e2, e3, e4, e5, e6, e7, e8, e9, e10, e11, e12⟩ := Blk.cells13a HK2.out
  have fr := HK2.out.free
  clear HO2 HLT HB2
  go_wp2
  refine bodyPost_ret (v := .agg #[(.string q.sc), (.string q.us), (.string q.pw), (.int .i64 q.hk), (.string q.hn), (.int .i64 q.ha), (.int .i64 q.po), (.slice a n c), (.string q.op), (.bool q.hq), (.string q.qu), (.bool q.hf), (.string q.fr)]) (by simp [results, Tryz.results24, go_sem, e0, e1, e2, e3, e4, e5, e6, e7, e8, e9, e10, e11, e12]) rfl ⟨q, a, n, c, rfl, HFIN.out.1, hF, HFIN.out.2⟩
end Go.Proofs.YthjccpboecfdhaaGreatDoor
end

section
set_option linter.unusedVariables false
set_option linter.unusedSimpArgs false
namespace Go.Proofs.YthjccpboecfdhaaGreatDoor
open Go.RowKit Go.Shelf

set_option maxHeartbeats 8000000 in
set_option maxRecDepth 100000 in
theorem fnPortOf_walk (w : World) (hL : Lean1 w) (a0 : Option Addr) (len0 cap0 : Nat) (z0 : List Int) (h0 : IsRow .u8 w a0 len0 cap0 z0) :
    Calls Tryz.prog 7 #[.slice a0 len0 cap0] w fun e w' => e = .returned (.bool true) ∧ Below w.heap.size w w' := by
  have hC := code_of_row h0
  by_cases hbig : (1048576 : Int) < (len0 : Int)
  · go_enter Tryz.func7, Tryz.ntmps7
    go_wp2
    go_ret
    exact ⟨rfl, Below.refl _ _⟩
  have hbig2 : (len0 : Int) ≤ 1048576 := by omega
  have A0 : Hid (Wat w w) := Wat.start hL
  clear hbig hL h0
  go_enter Tryz.func7, Tryz.ntmps7
  go_wp2_with fail
  refine (drawPortOf w.heap.size a0 len0 cap0 _ (Nat.le_refl _) hC).mono ?_
  rintro e w1 ⟨q, a, n, c, rfl, s1, hF, b1⟩
  obtain ⟨V1, hV1⟩ : ∃ V, V = w1.alloc (.cells #[(.string q.sc), (.string q.us), (.string q.pw), (.int .i64 q.hk), (.string q.hn), (.int .i64 q.ha), (.int .i64 q.po), (.slice a n c), (.string q.op), (.bool q.hq), (.string q.qu), (.bool q.hf), (.string q.fr)] 27) := ⟨_, rfl⟩
  have U1 : Hid (Va w1.heap.size q a n c V1) := by show Va _ _ _ _ _ _; rw [hV1]; exact Va.new _ s1
  have A1 : Hid (Wat w V1) := A0.out.step (by rw [hV1]; exact b1.trans ((below_new _ _).mono b1.size))
  clear s1 b1 A0 hC
  obtain ⟨b, hb⟩ : ∃ b : Bool, b = true ↔ okP q := by
    by_cases h : okP q
    · exact ⟨true, by simp [h]⟩
    · exact ⟨false, by simp [h]⟩
  obtain ⟨N, hN⟩ : ∃ N : Int, N = (if b = true then (if q.po < 0 then ownZ q.sc else q.po) else -1) := ⟨_, rfl⟩
  have hto : q.tot ≤ 1048576 := by have := hF.out.1.tot; omega
  have hpo : q.po ≤ 9223372036854775807 := by have := hF.out.1.po; omega
  have CI : Hid (∀ W, Lean1 W → StrsOf a n q.ps W → Calls Tryz.prog 25 #[.agg #[(.string q.sc), (.string q.us), (.string q.pw), (.int .i64 q.hk), (.string q.hn), (.int .i64 q.ha), (.int .i64 q.po), (.slice a n c), (.string q.op), (.bool q.hq), (.string q.qu), (.bool q.hf), (.string q.fr)]] W fun e w' => e = .returned (.int .i64 N) ∧ Below W.heap.size W w') := fun W hW s => by rw [hN]; exact implPortOf q a n c W hW s hto hpo b hb
  have CS : Hid (∀ W, StrsOf a n q.ps W → Calls Tryz.prog 26 #[.agg #[(.string q.sc), (.string q.us), (.string q.pw), (.int .i64 q.hk), (.string q.hn), (.int .i64 q.ha), (.int .i64 q.po), (.slice a n c), (.string q.op), (.bool q.hq), (.string q.qu), (.bool q.hf), (.string q.fr)]] W fun e w' => e = .returned (.int .i64 N) ∧ Below W.heap.size W w') := fun W s => by rw [hN]; exact specPortOf q a n c W s hto hpo b hb
  have CO : Hid (∀ W, StrsOf a n q.ps W → Calls Tryz.prog 14 #[.agg #[(.string q.sc), (.string q.us), (.string q.pw), (.int .i64 q.hk), (.string q.hn), (.int .i64 q.ha), (.int .i64 q.po), (.slice a n c), (.string q.op), (.bool q.hq), (.string q.qu), (.bool q.hf), (.string q.fr)]] W fun e w' => e = .returned (.bool b) ∧ Below W.heap.size W w') := fun W s => specUrlOk q a n c W s hto hpo b hb
  have CX : Hid (∀ r : Bool, (r = true ↔ okP ({ q with po := N } : P)) → N ≤ 65535 → ∀ W, Lean1 W → StrsOf a n q.ps W → Calls Tryz.prog 13 #[.agg #[(.string q.sc), (.string q.us), (.string q.pw), (.int .i64 q.hk), (.string q.hn), (.int .i64 q.ha), (.int .i64 N), (.slice a n c), (.string q.op), (.bool q.hq), (.string q.qu), (.bool q.hf), (.string q.fr)]] W fun e w' => e = .returned (.bool r) ∧ Below W.heap.size W w') := fun r hr hN' W hW s => implUrlOk ({ q with po := N } : P) a n c W hW s hto (by show N ≤ _; omega) r hr
  have KA : Hid (b = false → N = -1) := fun h => by rw [hN, h]; rfl
  have KB : Hid (b = true → N < 0 ∨ (0 ≤ N ∧ N ≤ 65535 ∧ ((N = 80 ∧ q.sc.toList = [104, 116, 116, 112] ∧ q.po = -1 ∧ ¬ okP ({ q with po := N } : P)) ∨ (N = 443 ∧ q.sc.toList = [104, 116, 116, 112, 115] ∧ q.po = -1 ∧ ¬ okP ({ q with po := N } : P)) ∨ (N ≠ 80 ∧ q.sc.toList = [104, 116, 116, 112] ∧ q.po = N ∧ okP ({ q with po := N } : P)) ∨ (N ≠ 443 ∧ q.sc.toList = [104, 116, 116, 112, 115] ∧ q.po = N ∧ okP ({ q with po := N } : P))))) := fun h => by
    have ho := hb.1 h
    rw [h, if_pos rfl] at hN
    have hown := own_cases q.sc
    have hle := own_le q.sc
    have htl : ∀ l : List UInt8, q.sc = ⟨l.toArray⟩ → q.sc.toList = l := fun l e => by rw [e, ByteArray.toList_eq]
    rcases ok_port q ho with hp | ⟨p0, p1, p2, p3⟩
    · rw [if_pos (by omega)] at hN
      have hno : 0 ≤ ownZ q.sc → ¬ okP ({ q with po := N } : P) := fun h0 => own_port ({ q with po := N } : P) h0 hN
      rcases hown with ⟨e, o⟩ | ⟨e, o⟩ | ⟨_, _, o⟩
      · exact .inr ⟨by omega, by omega, .inl ⟨by omega, htl [104, 116, 116, 112] e, hp, hno (by omega)⟩⟩
      · exact .inr ⟨by omega, by omega, .inr (.inl ⟨by omega, htl [104, 116, 116, 112, 115] e, hp, hno (by omega)⟩)⟩
      · exact .inl (by omega)
    · rw [if_neg (by omega)] at hN
      have hq : ({ q with po := N } : P) = q := by rw [hN]
      rcases hown with ⟨e, o⟩ | ⟨e, o⟩ | ⟨_, _, o⟩
      · exact .inr ⟨by omega, by omega, .inr (.inr (.inl ⟨by omega, htl [104, 116, 116, 112] e, hN.symm, by rw [hq]; exact ho⟩))⟩
      · exact .inr ⟨by omega, by omega, .inr (.inr (.inr ⟨by omega, htl [104, 116, 116, 112, 115] e, hN.symm, by rw [hq]; exact ho⟩))⟩
      · omega
  clear hN hb hto hpo
  go_upto_region 4 with fail
  rw [← hV1]
  clear hV1
  generalize w1.heap.size = g1 at *
  obtain ⟨k0, k1, k2, k3, k4, k5, k6, k7, k8, k9, k10, k11, k12⟩ := Blk.cells13a U1.out.bk
  go_wp2_with fail
  refine (CI.out _ A1.out.le U1.out.st).mono ?_
  rintro e w2 ⟨rfl, d2⟩
  have A2 : Hid (Wat w w2) := A1.out.step d2
  have U2 : Hid (Va g1 q a n c w2) := U1.out.later d2
  clear d2 A1 U1 k0 k1 k2 k3 k4 k5 k6 k7 k8 k9 k10 k11 k12
  obtain ⟨k0, k1, k2, k3, k4, k5, k6, k7, k8, k9, k10, k11, k12⟩ := Blk.cells13a U2.out.bk
  go_wp2_with fail
  refine (CS.out _ U2.out.st).mono ?_
  rintro e w3 ⟨rfl, d3⟩
  have A3 : Hid (Wat w w3) := A2.out.step d3
  have U3 : Hid (Va g1 q a n c w3) := U2.out.later d3
  clear d3 A2 U2 k0 k1 k2 k3 k4 k5 k6 k7 k8 k9 k10 k11 k12
  obtain ⟨k0, k1, k2, k3, k4, k5, k6, k7, k8, k9, k10, k11, k12⟩ := Blk.cells13a U3.out.bk
  clear CI
  go_wp2_with fail
  refine (CO.out _ U3.out.st).mono ?_
  rintro e w4 ⟨rfl, d4⟩
  have A4 : Hid (Wat w w4) := A3.out.step d4
  have U4 : Hid (Va g1 q a n c w4) := U3.out.later d4
  clear d4 A3 U3 k0 k1 k2 k3 k4 k5 k6 k7 k8 k9 k10 k11 k12
  obtain ⟨k0, k1, k2, k3, k4, k5, k6, k7, k8, k9, k10, k11, k12⟩ := Blk.cells13a U4.out.bk
  clear CO
  cases b with
  | false =>
    have hN1 := KA.out rfl
    subst hN1
    clear KA KB CX
    go_wp2_with fail
    refine (CS.out _ U4.out.st).mono ?_
    rintro e w5 ⟨rfl, d5⟩
    have A5 : Hid (Wat w w5) := A4.out.step d5
    have U5 : Hid (Va g1 q a n c w5) := U4.out.later d5
    clear d5 A4 U4 k0 k1 k2 k3 k4 k5 k6 k7 k8 k9 k10 k11 k12
    obtain ⟨k0, k1, k2, k3, k4, k5, k6, k7, k8, k9, k10, k11, k12⟩ := Blk.cells13a U5.out.bk
    go_wp2
    go_ret
    exact ⟨rfl, A5.out.bw⟩
  | true =>
    rcases KB.out rfl with hneg | ⟨h0, h1, hcs⟩
    · clear KA KB CX
      go_wp2_with fail
      refine (CS.out _ U4.out.st).mono ?_
      rintro e w5 ⟨rfl, d5⟩
      have A5 : Hid (Wat w w5) := A4.out.step d5
      have U5 : Hid (Va g1 q a n c w5) := U4.out.later d5
      clear d5 A4 U4 k0 k1 k2 k3 k4 k5 k6 k7 k8 k9 k10 k11 k12
      obtain ⟨k0, k1, k2, k3, k4, k5, k6, k7, k8, k9, k10, k11, k12⟩ := Blk.cells13a U5.out.bk
      go_wp2
      go_ret
      exact ⟨rfl, A5.out.bw⟩
    clear KA KB CS
    have hnn : ¬ (N < 0) := by omega
    obtain ⟨V5, hV5⟩ : ∃ V, V = w4.alloc (.cells #[(.string q.sc), (.string q.us), (.string q.pw), (.int .i64 q.hk), (.string q.hn), (.int .i64 q.ha), (.int .i64 q.po), (.slice a n c), (.string q.op), (.bool q.hq), (.string q.qu), (.bool q.hf), (.string q.fr)] 27) := ⟨_, rfl⟩
    have D5 : Hid (Below w4.heap.size w4 V5) := by show Below _ _ _; rw [hV5]; exact below_new _ _
    have X5 : Hid (Blk w4.heap.size #[(.string q.sc), (.string q.us), (.string q.pw), (.int .i64 q.hk), (.string q.hn), (.int .i64 q.ha), (.int .i64 q.po), (.slice a n c), (.string q.op), (.bool q.hq), (.string q.qu), (.bool q.hf), (.string q.fr)] 27 V5) := by show Blk _ _ _ _; rw [hV5]; exact Blk.new w4 _ _
    go_upto_region 8 with fail
    rw [← hV5]
    clear hV5 k0 k1 k2 k3 k4 k5 k6 k7 k8 k9 k10 k11 k12
    obtain ⟨x0, x1, x2, x3, x4, x5, x6, x7, x8, x9, x10, x11, x12⟩ := Blk.cells13a X5.out
    have fx := X5.out.free
    obtain ⟨V6, hV6⟩ : ∃ V, V = V5.setCell ⟨w4.heap.size, 6, none⟩ (.int .i64 N) := ⟨_, rfl⟩
    have D6 : Hid (Below w4.heap.size w4 V6) := by show Below _ _ _; rw [hV6]; exact D5.out.setCell (p := ⟨w4.heap.size, 6, none⟩) (Nat.le_refl _) _
    have X6 : Hid (Blk w4.heap.size #[(.string q.sc), (.string q.us), (.string q.pw), (.int .i64 q.hk), (.string q.hn), (.int .i64 q.ha), (.int .i64 N), (.slice a n c), (.string q.op), (.bool q.hq), (.string q.qu), (.bool q.hf), (.string q.fr)] 27 V6) := by show Blk _ _ _ _; rw [hV6]; exact X5.out.set 6 (.int .i64 N)
    have A6 : Hid (Wat w V6) := A4.out.step D6.out
    have U6 : Hid (Va g1 q a n c V6) := U4.out.later D6.out
    go_upto_region 9 with fail
    rw [← hV6]
    clear hV6 A4 U4 D5 D6 X5 fx x0 x1 x2 x3 x4 x5 x6 x7 x8 x9 x10 x11 x12
    generalize w4.heap.size = g5 at *
    obtain ⟨k0, k1, k2, k3, k4, k5, k6, k7, k8, k9, k10, k11, k12⟩ := Blk.cells13a U6.out.bk
    obtain ⟨x0, x1, x2, x3, x4, x5, x6, x7, x8, x9, x10, x11, x12⟩ := Blk.cells13a X6.out
    rcases hcs with ⟨hn, hsc, hp, hok⟩ | ⟨hn, hsc, hp, hok⟩ | ⟨hn, hsc, hp, hok⟩ | ⟨hn, hsc, hp, hok⟩
    · subst hn
      have CY : Hid (∀ W, Lean1 W → StrsOf a n q.ps W → Calls Tryz.prog 13 #[.agg #[(.string q.sc), (.string q.us), (.string q.pw), (.int .i64 q.hk), (.string q.hn), (.int .i64 q.ha), (.int .i64 80), (.slice a n c), (.string q.op), (.bool q.hq), (.string q.qu), (.bool q.hf), (.string q.fr)]] W fun e w' => e = .returned (.bool false) ∧ Below W.heap.size W w') := CX.out false (by simp [hok]) h1
      clear CX hok
      have e1 : (q.po == -1) = true := by rw [hp]; rfl
      clear hp
      go_wp2_with fail
      refine (CY.out _ A6.out.le U6.out.st).mono ?_
      rintro e w7 ⟨rfl, d7⟩
      have A7 : Hid (Wat w w7) := A6.out.step d7
      clear d7 A6 U6 X6 k0 k1 k2 k3 k4 k5 k6 k7 k8 k9 k10 k11 k12 x0 x1 x2 x3 x4 x5 x6 x7 x8 x9 x10 x11 x12
      go_wp2
      go_ret
      exact ⟨rfl, A7.out.bw⟩
    · subst hn
      have CY : Hid (∀ W, Lean1 W → StrsOf a n q.ps W → Calls Tryz.prog 13 #[.agg #[(.string q.sc), (.string q.us), (.string q.pw), (.int .i64 q.hk), (.string q.hn), (.int .i64 q.ha), (.int .i64 443), (.slice a n c), (.string q.op), (.bool q.hq), (.string q.qu), (.bool q.hf), (.string q.fr)]] W fun e w' => e = .returned (.bool false) ∧ Below W.heap.size W w') := CX.out false (by simp [hok]) h1
      clear CX hok
      have e1 : (q.po == -1) = true := by rw [hp]; rfl
      clear hp
      go_wp2_with fail
      refine (CY.out _ A6.out.le U6.out.st).mono ?_
      rintro e w7 ⟨rfl, d7⟩
      have A7 : Hid (Wat w w7) := A6.out.step d7
      clear d7 A6 U6 X6 k0 k1 k2 k3 k4 k5 k6 k7 k8 k9 k10 k11 k12 x0 x1 x2 x3 x4 x5 x6 x7 x8 x9 x10 x11 x12
      go_wp2
      go_ret
      exact ⟨rfl, A7.out.bw⟩
    · have e1 : (q.po == -1) = false := by rw [beq_eq_false_iff_ne]; omega
      have e2 : (N == 80) = false := by rw [beq_eq_false_iff_ne]; exact hn
      clear hp hn
      by_cases h443 : N = 443
      · have e3 : (N == 443) = true := by rw [h443]; rfl
        clear h443
        have CY : Hid (∀ W, Lean1 W → StrsOf a n q.ps W → Calls Tryz.prog 13 #[.agg #[(.string q.sc), (.string q.us), (.string q.pw), (.int .i64 q.hk), (.string q.hn), (.int .i64 q.ha), (.int .i64 N), (.slice a n c), (.string q.op), (.bool q.hq), (.string q.qu), (.bool q.hf), (.string q.fr)]] W fun e w' => e = .returned (.bool true) ∧ Below W.heap.size W w') := CX.out true (by simp [hok]) h1
        clear CX hok
        go_wp2_with fail
        refine (CY.out _ A6.out.le U6.out.st).mono ?_
        rintro e w7 ⟨rfl, d7⟩
        have A7 : Hid (Wat w w7) := A6.out.step d7
        clear d7 A6 U6 X6 k0 k1 k2 k3 k4 k5 k6 k7 k8 k9 k10 k11 k12 x0 x1 x2 x3 x4 x5 x6 x7 x8 x9 x10 x11 x12
        go_wp2
        go_ret
        exact ⟨rfl, A7.out.bw⟩
      · have e3 : (N == 443) = false := by rw [beq_eq_false_iff_ne]; exact h443
        clear h443
        have CY : Hid (∀ W, Lean1 W → StrsOf a n q.ps W → Calls Tryz.prog 13 #[.agg #[(.string q.sc), (.string q.us), (.string q.pw), (.int .i64 q.hk), (.string q.hn), (.int .i64 q.ha), (.int .i64 N), (.slice a n c), (.string q.op), (.bool q.hq), (.string q.qu), (.bool q.hf), (.string q.fr)]] W fun e w' => e = .returned (.bool true) ∧ Below W.heap.size W w') := CX.out true (by simp [hok]) h1
        clear CX hok
        go_wp2_with fail
        refine (CY.out _ A6.out.le U6.out.st).mono ?_
        rintro e w7 ⟨rfl, d7⟩
        have A7 : Hid (Wat w w7) := A6.out.step d7
        clear d7 A6 U6 X6 k0 k1 k2 k3 k4 k5 k6 k7 k8 k9 k10 k11 k12 x0 x1 x2 x3 x4 x5 x6 x7 x8 x9 x10 x11 x12
        go_wp2
        go_ret
        exact ⟨rfl, A7.out.bw⟩
    · have e1 : (q.po == -1) = false := by rw [beq_eq_false_iff_ne]; omega
      have e2 : (N == 443) = false := by rw [beq_eq_false_iff_ne]; exact hn
      clear hp hn
      by_cases h80 : N = 80
      · have e3 : (N == 80) = true := by rw [h80]; rfl
        clear h80
        have CY : Hid (∀ W, Lean1 W → StrsOf a n q.ps W → Calls Tryz.prog 13 #[.agg #[(.string q.sc), (.string q.us), (.string q.pw), (.int .i64 q.hk), (.string q.hn), (.int .i64 q.ha), (.int .i64 N), (.slice a n c), (.string q.op), (.bool q.hq), (.string q.qu), (.bool q.hf), (.string q.fr)]] W fun e w' => e = .returned (.bool true) ∧ Below W.heap.size W w') := CX.out true (by simp [hok]) h1
        clear CX hok
        go_wp2_with fail
        refine (CY.out _ A6.out.le U6.out.st).mono ?_
        rintro e w7 ⟨rfl, d7⟩
        have A7 : Hid (Wat w w7) := A6.out.step d7
        clear d7 A6 U6 X6 k0 k1 k2 k3 k4 k5 k6 k7 k8 k9 k10 k11 k12 x0 x1 x2 x3 x4 x5 x6 x7 x8 x9 x10 x11 x12
        go_wp2
        go_ret
        exact ⟨rfl, A7.out.bw⟩
      · have e3 : (N == 80) = false := by rw [beq_eq_false_iff_ne]; exact h80
        clear h80
        have CY : Hid (∀ W, Lean1 W → StrsOf a n q.ps W → Calls Tryz.prog 13 #[.agg #[(.string q.sc), (.string q.us), (.string q.pw), (.int .i64 q.hk), (.string q.hn), (.int .i64 q.ha), (.int .i64 N), (.slice a n c), (.string q.op), (.bool q.hq), (.string q.qu), (.bool q.hf), (.string q.fr)]] W fun e w' => e = .returned (.bool true) ∧ Below W.heap.size W w') := CX.out true (by simp [hok]) h1
        clear CX hok
        go_wp2_with fail
        refine (CY.out _ A6.out.le U6.out.st).mono ?_
        rintro e w7 ⟨rfl, d7⟩
        have A7 : Hid (Wat w w7) := A6.out.step d7
        clear d7 A6 U6 X6 k0 k1 k2 k3 k4 k5 k6 k7 k8 k9 k10 k11 k12 x0 x1 x2 x3 x4 x5 x6 x7 x8 x9 x10 x11 x12
        go_wp2
        go_ret
        exact ⟨rfl, A7.out.bw⟩
end Go.Proofs.YthjccpboecfdhaaGreatDoor
end

/- The law FnExactPortOf answers true, whatever the address. -/
import Derived.Test.YtmbojhlfhafhjaaGreatDoorB23
import Derived.Test.YtmbojhlfhafhjaaGreatDoorB24
import Derived.Test.YtmbojhlfhafhjaaGreatDoorB34
import Derived.Test.YtmbojhlfhafhjaaGreatDoorB22
section
set_option linter.unusedVariables false
set_option linter.unusedSimpArgs false
namespace Go.Proofs.YtmbojhlfhafhjaaGreatDoor
open Go.RowKit Go.Shelf

set_option maxHeartbeats 8000000 in
set_option maxRecDepth 100000 in
theorem fnExactPortOf_walk (w : World) (hL : Lean1 w) (q : P) (a : Option Addr) (n c : Nat) (hS : StrsOf a n q.ps w) (hz : Sz q) (hpo : q.po ≤ 9223372036854775807) :
    Calls Tryz.prog 8 #[.agg (q.cells (.slice a n c))] w fun e w' => e = .returned (.bool true) ∧ Below w.heap.size w w' := by
  have hn : n = q.ps.length := hS.1
  obtain ⟨b, hb⟩ : ∃ b : Bool, b = true ↔ okP q := by
    by_cases h : okP q
    · exact ⟨true, by simp [h]⟩
    · exact ⟨false, by simp [h]⟩
  obtain ⟨t, ht0⟩ : ∃ t : Int, t = if b = true then (if q.po < 0 then ownZ q.sc else q.po) else -1 := ⟨_, rfl⟩
  have H0 : Hid (La w q (.slice a n c) (w.alloc (.cells (q.cells (.slice a n c)) 34))) := La.start w q _
  have CS : Hid (∀ W, Below w.heap.size w W → Calls Tryz.prog 14 #[.agg #[(.string q.sc), (.string q.us), (.string q.pw), (.int .i64 q.hk), (.string q.hn), (.int .i64 q.ha), (.int .i64 q.po), (.slice a n c), (.string q.op), (.bool q.hq), (.string q.qu), (.bool q.hf), (.string q.fr)], .int .i64 1048576] W fun e w' => ∃ r : Int, e = .returned (.int .i64 r) ∧ Below W.heap.size W w' ∧ Hid (0 ≤ r → q.tot ≤ 1048576)) := fun W d => by
    refine (szUrl q a n c 1048576 W (hS.later d) hz (by decide) (by decide)).mono ?_
    rintro e w' ⟨r, rfl, d2, h1, h2⟩
    exact ⟨r, rfl, d2, fun h => by have := h2 h; omega⟩
  have HTN : Hid (q.ps.length ≤ q.tot) := by show _ ≤ _; unfold P.tot; omega
  have CT : Hid (∀ W, q.tot ≤ 1048576 → Below w.heap.size w W → Calls Tryz.prog 16 #[.agg #[(.string q.sc), (.string q.us), (.string q.pw), (.int .i64 q.hk), (.string q.hn), (.int .i64 q.ha), (.int .i64 q.po), (.slice a n c), (.string q.op), (.bool q.hq), (.string q.qu), (.bool q.hf), (.string q.fr)]] W fun e w' => ∃ g, e = .returned (.agg #[(.string q.sc), (.string q.us), (.string q.pw), (.int .i64 q.hk), (.string q.hn), (.int .i64 q.ha), (.int .i64 q.po), (.slice (some ⟨g, 0, none⟩) n n), (.string q.op), (.bool q.hq), (.string q.qu), (.bool q.hf), (.string q.fr)]) ∧ StrsOf (some ⟨g, 0, none⟩) n q.ps w' ∧ Below W.heap.size W w') := fun W ht d => by
    refine (toUrl q a n c W (hS.later d) (by have := HTN.out; omega)).mono ?_
    rintro e w' ⟨g, rfl, o, d2⟩
    obtain ⟨a1, c1, h1, h2, s1⟩ := o.strs
    rw [← hn] at h1 s1
    injection h1 with e1 e2 e3
    rw [← e1] at s1
    exact ⟨g, rfl, s1, d2⟩
  have CO : Hid (∀ g W, q.tot ≤ 1048576 → StrsOf (some ⟨g, 0, none⟩) n q.ps W → Calls Tryz.prog 24 #[.agg #[(.string q.sc), (.string q.us), (.string q.pw), (.int .i64 q.hk), (.string q.hn), (.int .i64 q.ha), (.int .i64 q.po), (.slice (some ⟨g, 0, none⟩) n n), (.string q.op), (.bool q.hq), (.string q.qu), (.bool q.hf), (.string q.fr)]] W fun e w' => e = .returned (.int .i64 t) ∧ Below W.heap.size W w') := fun g W ht s => by rw [ht0]; exact specPortOf q _ n _ W s ht hpo b hb
  have CI : Hid (∀ g W, q.tot ≤ 1048576 → Below w.heap.size w W → StrsOf (some ⟨g, 0, none⟩) n q.ps W → Calls Tryz.prog 25 #[.agg #[(.string q.sc), (.string q.us), (.string q.pw), (.int .i64 q.hk), (.string q.hn), (.int .i64 q.ha), (.int .i64 q.po), (.slice (some ⟨g, 0, none⟩) n n), (.string q.op), (.bool q.hq), (.string q.qu), (.bool q.hf), (.string q.fr)]] W fun e w' => e = .returned (.int .i64 t) ∧ Below W.heap.size W w') := fun g W ht d s => by rw [ht0]; exact implPortOf q _ n _ W (hL.below d) s ht hpo b hb
  have CE : Hid (∀ g g' W, q.tot ≤ 1048576 → StrsOf (some ⟨g, 0, none⟩) n q.ps W → StrsOf (some ⟨g', 0, none⟩) n q.ps W → Calls Tryz.prog 11 #[.agg #[(.string q.sc), (.string q.us), (.string q.pw), (.int .i64 q.hk), (.string q.hn), (.int .i64 q.ha), (.int .i64 q.po), (.slice (some ⟨g, 0, none⟩) n n), (.string q.op), (.bool q.hq), (.string q.qu), (.bool q.hf), (.string q.fr)], .agg #[(.string q.sc), (.string q.us), (.string q.pw), (.int .i64 q.hk), (.string q.hn), (.int .i64 q.ha), (.int .i64 q.po), (.slice (some ⟨g', 0, none⟩) n n), (.string q.op), (.bool q.hq), (.string q.qu), (.bool q.hf), (.string q.fr)]] W fun e w' => e = .returned (.bool true) ∧ Below W.heap.size W w') := fun g g' W ht s s' => by
    subst hn
    exact eqUrl q _ _ _ _ W s s' (by have := HTN.out; omega)
  clear hS hz hL hpo HTN hn hb ht0
  unfold P.cells at H0 ⊢
  go_enter Tryz.func8, Tryz.ntmps8
  go_wp2_with fail
  refine (CS.out _ H0.out.bw).mono ?_
  rintro e W1 ⟨r, rfl, d1, ht⟩
  have HL1 : Hid (La w q (.slice a n c) W1) := H0.out.later d1
  clear d1 H0 CS
  by_cases hr : r < 0
  · clear ht CT CO CI CE
    go_wp2
    go_ret
    exact ⟨rfl, HL1.out.bw⟩
  have HT : Hid (q.tot ≤ 1048576) := ht.out (by omega)
  clear ht
  obtain ⟨k0, k1, k2, k3, k4, k5, k6, k7, k8, k9, k10, k11, k12⟩ := HL1.out.cells
  go_wp2_with fail
  refine (CT.out _ HT.out HL1.out.bw).mono ?_
  rintro e W2 ⟨g2, rfl, s2, d2⟩
  have HL2 : Hid (La w q (.slice a n c) W2) := HL1.out.later d2
  clear d2 HL1 k0 k1 k2 k3 k4 k5 k6 k7 k8 k9 k10 k11 k12 hr
  go_wp2_with fail
  refine (CO.out g2 _ HT.out s2).mono ?_
  rintro e W3 ⟨rfl, d3⟩
  have HL3 : Hid (La w q (.slice a n c) W3) := HL2.out.later d3
  clear d3 HL2 s2 CO
  obtain ⟨k0, k1, k2, k3, k4, k5, k6, k7, k8, k9, k10, k11, k12⟩ := HL3.out.cells
  go_wp2_with fail
  refine (CT.out _ HT.out HL3.out.bw).mono ?_
  rintro e W4 ⟨g4, rfl, s4, d4⟩
  have HL4 : Hid (La w q (.slice a n c) W4) := HL3.out.later d4
  clear d4 HL3 k0 k1 k2 k3 k4 k5 k6 k7 k8 k9 k10 k11 k12
  obtain ⟨V, hV⟩ : ∃ V, V = W4.alloc (.cells #[(.string q.sc), (.string q.us), (.string q.pw), (.int .i64 q.hk), (.string q.hn), (.int .i64 q.ha), (.int .i64 q.po), (.slice (some ⟨g4, 0, none⟩) n n), (.string q.op), (.bool q.hq), (.string q.qu), (.bool q.hf), (.string q.fr)] 26) := ⟨_, rfl⟩
  have HBV : Hid (Below W4.heap.size W4 V) := by show Below _ _ _; rw [hV]; exact (Below.refl _ _).alloc (Nat.le_refl _) _
  have HLV : Hid (La w q (.slice a n c) V) := HL4.out.later HBV.out
  have HSV : Hid (StrsOf (some ⟨g4, 0, none⟩) n q.ps V) := s4.later HBV.out
  have HXV : Hid (Blk W4.heap.size #[(.string q.sc), (.string q.us), (.string q.pw), (.int .i64 q.hk), (.string q.hn), (.int .i64 q.ha), (.int .i64 q.po), (.slice (some ⟨g4, 0, none⟩) n n), (.string q.op), (.bool q.hq), (.string q.qu), (.bool q.hf), (.string q.fr)] 26 V) := by show Blk _ _ _ _; rw [hV]; exact Blk.new W4 _ _
  clear s4 HL4 HBV
  go_wp2_with fail
  rw [← hV]
  clear hV
  refine (CI.out g4 _ HT.out HLV.out.bw HSV.out).mono ?_
  rintro e W5 ⟨rfl, d5⟩
  have HL5 : Hid (La w q (.slice a n c) W5) := HLV.out.later d5
  have HS5 : Hid (StrsOf (some ⟨g4, 0, none⟩) n q.ps W5) := HSV.out.later d5
  have HX5 : Hid (Blk W4.heap.size #[(.string q.sc), (.string q.us), (.string q.pw), (.int .i64 q.hk), (.string q.hn), (.int .i64 q.ha), (.int .i64 q.po), (.slice (some ⟨g4, 0, none⟩) n n), (.string q.op), (.bool q.hq), (.string q.qu), (.bool q.hf), (.string q.fr)] 26 W5) := HXV.out.below d5 HXV.out.lt
  clear d5 HLV HSV HXV CI
  have CT5 : Hid (∀ W, Below W5.heap.size W5 W → Calls Tryz.prog 16 #[.agg #[(.string q.sc), (.string q.us), (.string q.pw), (.int .i64 q.hk), (.string q.hn), (.int .i64 q.ha), (.int .i64 q.po), (.slice a n c), (.string q.op), (.bool q.hq), (.string q.qu), (.bool q.hf), (.string q.fr)]] W fun e w' => ∃ g, e = .returned (.agg #[(.string q.sc), (.string q.us), (.string q.pw), (.int .i64 q.hk), (.string q.hn), (.int .i64 q.ha), (.int .i64 q.po), (.slice (some ⟨g, 0, none⟩) n n), (.string q.op), (.bool q.hq), (.string q.qu), (.bool q.hf), (.string q.fr)]) ∧ StrsOf (some ⟨g, 0, none⟩) n q.ps w' ∧ Below W.heap.size W w') := fun W d => CT.out W HT.out (HL5.out.later d).bw
  have CE5 : Hid (∀ g W, Below W5.heap.size W5 W → StrsOf (some ⟨g, 0, none⟩) n q.ps W → Calls Tryz.prog 11 #[.agg #[(.string q.sc), (.string q.us), (.string q.pw), (.int .i64 q.hk), (.string q.hn), (.int .i64 q.ha), (.int .i64 q.po), (.slice (some ⟨g4, 0, none⟩) n n), (.string q.op), (.bool q.hq), (.string q.qu), (.bool q.hf), (.string q.fr)], .agg #[(.string q.sc), (.string q.us), (.string q.pw), (.int .i64 q.hk), (.string q.hn), (.int .i64 q.ha), (.int .i64 q.po), (.slice (some ⟨g, 0, none⟩) n n), (.string q.op), (.bool q.hq), (.string q.qu), (.bool q.hf), (.string q.fr)]] W fun e w' => e = .returned (.bool true) ∧ Below W.heap.size W w') := fun g W d s => CE.out g4 g W HT.out (HS5.out.later d) s
  have HXW : Hid (∀ W, Below W5.heap.size W5 W → Blk W4.heap.size #[(.string q.sc), (.string q.us), (.string q.pw), (.int .i64 q.hk), (.string q.hn), (.int .i64 q.ha), (.int .i64 q.po), (.slice (some ⟨g4, 0, none⟩) n n), (.string q.op), (.bool q.hq), (.string q.qu), (.bool q.hf), (.string q.fr)] 26 W) := fun W d => HX5.out.below d HX5.out.lt
  obtain ⟨k0, k1, k2, k3, k4, k5, k6, k7, k8, k9, k10, k11, k12⟩ := HL5.out.cells
  obtain ⟨x0, x1, x2, x3, x4, x5, x6, x7, x8, x9, x10, x11, x12⟩ := Blk.cells13a HX5.out
  have HB5 : Hid (Below w.heap.size w W5) := HL5.out.bw
  clear CT CE HT HL5 HS5 HX5
  go_wp2
  go_region_with (first
    | (go_at_call 16; refine (CT5.out _ ?hd).mono ?_; (case hd => first | exact Below.refl _ _ | exact (Below.refl _ _).drew); rintro e W6 ⟨g6, rfl, s6, d6⟩; have HD6 : Hid (Below W5.heap.size W5 W6) := (by first | exact d6 | exact ((Below.refl _ W5).drew).trans d6); have HS6 : Hid (StrsOf (some ⟨g6, 0, none⟩) n q.ps W6) := s6; clear d6 s6 k0 k1 k2 k3 k4 k5 k6 k7 k8 k9 k10 k11 k12 x0 x1 x2 x3 x4 x5 x6 x7 x8 x9 x10 x11 x12; obtain ⟨x0, x1, x2, x3, x4, x5, x6, x7, x8, x9, x10, x11, x12⟩ := Blk.cells13a (HXW.out W6 HD6.out))
    | (go_at_call 11; refine (CE5.out g6 _ HD6.out HS6.out).mono ?_; rintro e W7 ⟨rfl, d7⟩)
    | fail)
  all_goals
    have HFIN : Hid (Below w.heap.size w W7) := HB5.out.trans ((HD6.out.trans (d7.mono HD6.out.size)).mono HB5.out.size)
    clear d7 x0 x1 x2 x3 x4 x5 x6 x7 x8 x9 x10 x11 x12
    go_wp2
    go_ret
    exact ⟨rfl, HFIN.out⟩
end Go.Proofs.YtmbojhlfhafhjaaGreatDoor
end

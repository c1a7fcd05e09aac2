/- impl.UrlBase: an address that is ok, without its end. spec.l3Copy: an address with a path of its own. spec.l3Base, spec.UrlBase: an address that is ok, without its end. -/
import Derived.Test.YtnfhajhdpdidlaaGreatDoorCFnExactUrlLess03
set_option linter.unusedVariables false
set_option linter.unusedSimpArgs false
set_option maxHeartbeats 8000000
set_option maxRecDepth 100000
section
namespace Go.Proofs.YtnfhajhdpdidlaaGreatDoor
open Go.RowKit Go.Shelf
theorem OwnS.off {B k : Nat} {v : Value} {ps : List (List UInt8)} {A : Array Value} {t : TypeId} {w : World} (h : OwnS B v ps w) (hK : Blk k A t w) (ht : t ≠ 9) (j : Nat) (x : Value) : OwnS B v ps (w.setCell ⟨k, j, none⟩ x) := by
 have h0 := h
 refine ⟨h.1, ?_⟩
 rcases h.2 with h1 | ⟨g, cap, cur, hv, hb, hg, rest⟩
 ·exact .inl h1
 ·refine .inr ⟨g, cap, cur, hv, hb, ?_, rest⟩
  have hne : k ≠ g := by rw [hv] at h0; exact h0.ne hK ht
  rw [← hg]
  simp [World.setCell, Array.getElem?_modify]
  intro e
  exact absurd e hne
theorem implUrlBaseYes (q : P) (a : Option Addr) (n c : Nat) (w : World) (hL : Lean1 w) (hS : StrsOf a n q.ps w) (hs : q.tot ≤ 1048576) (hpo : q.po ≤ 9223372036854775807) (hok : okP q) :
  Calls Tryz.prog 99 #[.agg (q.cells (.slice a n c))] w fun e w' => ∃ a2 c2, e = .returned (.agg ((bsP q).cells (.slice a2 n c2))) ∧ OwnS w.heap.size (.slice a2 n c2) q.ps w' ∧ Below w.heap.size w w' := by
 have hn : n = q.ps.length := hS.1
 have CA : Hid (∀ W, Below w.heap.size w W → Calls Tryz.prog 81 #[.agg #[(.string q.sc), (.string q.us), (.string q.pw), (.int .i64 q.hk), (.string q.hn), (.int .i64 q.ha), (.int .i64 q.po), (.slice a n c), (.string q.op), (.bool q.hq), (.string q.qu), (.bool q.hf), (.string q.fr)]] W fun e w' => ∃ a2 c2, e = .returned (.tuple #[.agg #[(.string q.sc), (.string q.us), (.string q.pw), (.int .i64 q.hk), (.string q.hn), (.int .i64 q.ha), (.int .i64 q.po), (.slice a2 n c2), (.string q.op), (.bool q.hq), (.string q.qu), (.bool q.hf), (.string q.fr)], .bool true]) ∧ OwnS W.heap.size (.slice a2 n c2) q.ps w' ∧ Below W.heap.size W w') := fun W d => by
  refine (urlAgain q a n c W (hL.below d) (hS.later d) hs hpo true (by simp [hok])).mono ?_
  rintro e w' ⟨v, rfl, o, d2⟩
  rw [hok.2] at o ⊢
  obtain ⟨a2, c2, hv, hc, s2⟩ := o.strs
  rw [← hn] at hv
  subst hv
  exact ⟨a2, c2, rfl, o, d2⟩
 have H0 : Hid (Tw w #[(.string q.sc), (.string q.us), (.string q.pw), (.int .i64 q.hk), (.string q.hn), (.int .i64 q.ha), (.int .i64 q.po), (.slice a n c), (.string q.op), (.bool q.hq), (.string q.qu), (.bool q.hf), (.string q.fr)] #[(.string ⟨#[]⟩), (.string ⟨#[]⟩), (.string ⟨#[]⟩), (.int .i64 0), (.string ⟨#[]⟩), (.int .i64 0), (.int .i64 0), (.slice none 0 0), (.string ⟨#[]⟩), (.bool false), (.string ⟨#[]⟩), (.bool false), (.string ⟨#[]⟩)] ((w.alloc (.cells #[(.string q.sc), (.string q.us), (.string q.pw), (.int .i64 q.hk), (.string q.hn), (.int .i64 q.ha), (.int .i64 q.po), (.slice a n c), (.string q.op), (.bool q.hq), (.string q.qu), (.bool q.hf), (.string q.fr)] 31)).alloc (.cells #[(.string ⟨#[]⟩), (.string ⟨#[]⟩), (.string ⟨#[]⟩), (.int .i64 0), (.string ⟨#[]⟩), (.int .i64 0), (.int .i64 0), (.slice none 0 0), (.string ⟨#[]⟩), (.bool false), (.string ⟨#[]⟩), (.bool false), (.string ⟨#[]⟩)] 31))) := Tw.start w _ _
 have HZ0 : Hid (((w.alloc (.cells #[(.string q.sc), (.string q.us), (.string q.pw), (.int .i64 q.hk), (.string q.hn), (.int .i64 q.ha), (.int .i64 q.po), (.slice a n c), (.string q.op), (.bool q.hq), (.string q.qu), (.bool q.hf), (.string q.fr)] 31)).alloc (.cells #[(.string ⟨#[]⟩), (.string ⟨#[]⟩), (.string ⟨#[]⟩), (.int .i64 0), (.string ⟨#[]⟩), (.int .i64 0), (.int .i64 0), (.slice none 0 0), (.string ⟨#[]⟩), (.bool false), (.string ⟨#[]⟩), (.bool false), (.string ⟨#[]⟩)] 31)).heap.size = w.heap.size + 1 + 1) := by show _ = _; simp
 clear hS hs hpo hn hok hL
 unfold P.cells bsP
 go_enter Tryz.func99, Tryz.ntmps99
 go_wp2_with fail
 refine (CA.out _ H0.out.bw).mono ?_
 rintro e W1 ⟨a2, c2, rfl, o1, d1⟩
 have HX1 : Hid (Tw w #[(.string q.sc), (.string q.us), (.string q.pw), (.int .i64 q.hk), (.string q.hn), (.int .i64 q.ha), (.int .i64 q.po), (.slice a n c), (.string q.op), (.bool q.hq), (.string q.qu), (.bool q.hf), (.string q.fr)] #[(.string ⟨#[]⟩), (.string ⟨#[]⟩), (.string ⟨#[]⟩), (.int .i64 0), (.string ⟨#[]⟩), (.int .i64 0), (.int .i64 0), (.slice none 0 0), (.string ⟨#[]⟩), (.bool false), (.string ⟨#[]⟩), (.bool false), (.string ⟨#[]⟩)] W1) := H0.out.later d1
 have HO1 : Hid (OwnS (w.heap.size + 1 + 1) (.slice a2 n c2) q.ps W1) := by show OwnS _ _ _ _; rw [← HZ0.out]; exact o1
 clear d1 H0 CA o1 HZ0
 obtain ⟨V, hV⟩ : ∃ V, V = W1.alloc (.cells #[(.string q.sc), (.string q.us), (.string q.pw), (.int .i64 q.hk), (.string q.hn), (.int .i64 q.ha), (.int .i64 q.po), (.slice a2 n c2), (.string q.op), (.bool q.hq), (.string q.qu), (.bool q.hf), (.string q.fr)] 31) := ⟨_, rfl⟩
 have HBV : Hid (Below W1.heap.size W1 V) := by show Below _ _ _; rw [hV]; exact (Below.refl _ _).alloc (Nat.le_refl _) _
 have HX2 : Hid (Tw w #[(.string q.sc), (.string q.us), (.string q.pw), (.int .i64 q.hk), (.string q.hn), (.int .i64 q.ha), (.int .i64 q.po), (.slice a n c), (.string q.op), (.bool q.hq), (.string q.qu), (.bool q.hf), (.string q.fr)] #[(.string ⟨#[]⟩), (.string ⟨#[]⟩), (.string ⟨#[]⟩), (.int .i64 0), (.string ⟨#[]⟩), (.int .i64 0), (.int .i64 0), (.slice none 0 0), (.string ⟨#[]⟩), (.bool false), (.string ⟨#[]⟩), (.bool false), (.string ⟨#[]⟩)] V) := HX1.out.later HBV.out
 have HO2 : Hid (OwnS (w.heap.size + 1 + 1) (.slice a2 n c2) q.ps V) := HO1.out.later HBV.out
 have HG2 : Hid (Blk W1.heap.size #[(.string q.sc), (.string q.us), (.string q.pw), (.int .i64 q.hk), (.string q.hn), (.int .i64 q.ha), (.int .i64 q.po), (.slice a2 n c2), (.string q.op), (.bool q.hq), (.string q.qu), (.bool q.hf), (.string q.fr)] 31 V) := by show Blk _ _ _ _; rw [hV]; exact Blk.new W1 _ _
 have hgw : w.heap.size + 1 < W1.heap.size := HX1.out.b2.lt
 clear HX1 HO1 HBV
 go_upto_region 4 with fail
 rw [← hV]
 clear hV
 generalize W1.heap.size = g at *
 obtain ⟨k0, k1, k2, k3, k4, k5, k6, k7, k8, k9, k10, k11, k12⟩ := Blk.cells13a HG2.out
 have fk := HG2.out.free
 go_upto_region 5 with fail
 obtain ⟨U2, hU2⟩ : ∃ U, U = (V.setCell ⟨g, 11, none⟩ (.bool false)).setCell ⟨g, 12, none⟩ (.string ⟨#[]⟩) := ⟨_, rfl⟩
 have HX3 : Hid (Blk (w.heap.size + 1) #[(.string ⟨#[]⟩), (.string ⟨#[]⟩), (.string ⟨#[]⟩), (.int .i64 0), (.string ⟨#[]⟩), (.int .i64 0), (.int .i64 0), (.slice none 0 0), (.string ⟨#[]⟩), (.bool false), (.string ⟨#[]⟩), (.bool false), (.string ⟨#[]⟩)] 31 U2 ∧ Below w.heap.size w U2) := by
  rw [hU2]
  exact ⟨(HX2.out.b2.other g 11 _ (by omega)).other g 12 _ (by omega), (HX2.out.bw.setCell (p := ⟨g, 11, none⟩) (by show _ ≤ g; omega) _).setCell (p := ⟨g, 12, none⟩) (by show _ ≤ g; omega) _⟩
 have HG3 : Hid (Blk g #[(.string q.sc), (.string q.us), (.string q.pw), (.int .i64 q.hk), (.string q.hn), (.int .i64 q.ha), (.int .i64 q.po), (.slice a2 n c2), (.string q.op), (.bool q.hq), (.string q.qu), (.bool false), (.string ⟨#[]⟩)] 31 U2) := by rw [hU2]; have := (HG2.out.set 11 (.bool false)).set 12 (.string ⟨#[]⟩); show Blk _ _ _ _; simpa using this
 have HO3 : Hid (OwnS (w.heap.size + 1 + 1) (.slice a2 n c2) q.ps U2) := by rw [hU2]; exact (HO2.out.off HG2.out (by decide) 11 _).off (HG2.out.set 11 (.bool false)) (by decide) 12 _
 rw [← hU2]
 clear hU2 HX2 HO2 HG2 k0 k1 k2 k3 k4 k5 k6 k7 k8 k9 k10 k11 k12 fk
 obtain ⟨k0, k1, k2, k3, k4, k5, k6, k7, k8, k9, k10, k11, k12⟩ := Blk.cells13a HG3.out
 obtain ⟨e0, e1, e2, e3, e4, e5, e6, e7, e8, e9, e10, e11, e12⟩ := Blk.cells13a HX3.out.1
 have fr := HX3.out.1.free
 have HFIN : Hid (OwnS w.heap.size (.slice a2 n c2) q.ps (((((((((((((U2.setCell ⟨w.heap.size + 1, 0, none⟩ (.string q.sc)).setCell ⟨w.heap.size + 1, 1, none⟩ (.string q.us)).setCell ⟨w.heap.size + 1, 2, none⟩ (.string q.pw)).setCell ⟨w.heap.size + 1, 3, none⟩ (.int .i64 q.hk)).setCell ⟨w.heap.size + 1, 4, none⟩ (.string q.hn)).setCell ⟨w.heap.size + 1, 5, none⟩ (.int .i64 q.ha)).setCell ⟨w.heap.size + 1, 6, none⟩ (.int .i64 q.po)).setCell ⟨w.heap.size + 1, 7, none⟩ (.slice a2 n c2)).setCell ⟨w.heap.size + 1, 8, none⟩ (.string q.op)).setCell ⟨w.heap.size + 1, 9, none⟩ (.bool q.hq)).setCell ⟨w.heap.size + 1, 10, none⟩ (.string q.qu)).setCell ⟨w.heap.size + 1, 11, none⟩ (.bool false)).setCell ⟨w.heap.size + 1, 12, none⟩ (.string ⟨#[]⟩)) ∧ Below w.heap.size w (((((((((((((U2.setCell ⟨w.heap.size + 1, 0, none⟩ (.string q.sc)).setCell ⟨w.heap.size + 1, 1, none⟩ (.string q.us)).setCell ⟨w.heap.size + 1, 2, none⟩ (.string q.pw)).setCell ⟨w.heap.size + 1, 3, none⟩ (.int .i64 q.hk)).setCell ⟨w.heap.size + 1, 4, none⟩ (.string q.hn)).setCell ⟨w.heap.size + 1, 5, none⟩ (.int .i64 q.ha)).setCell ⟨w.heap.size + 1, 6, none⟩ (.int .i64 q.po)).setCell ⟨w.heap.size + 1, 7, none⟩ (.slice a2 n c2)).setCell ⟨w.heap.size + 1, 8, none⟩ (.string q.op)).setCell ⟨w.heap.size + 1, 9, none⟩ (.bool q.hq)).setCell ⟨w.heap.size + 1, 10, none⟩ (.string q.qu)).setCell ⟨w.heap.size + 1, 11, none⟩ (.bool false)).setCell ⟨w.heap.size + 1, 12, none⟩ (.string ⟨#[]⟩))) := ⟨(OwnS.put13 HO3.out (by omega)).mono (by omega), below_put13 HX3.out.2 (by omega) _ _ _ _ _ _ _ _ _ _ _ _ _⟩
 clear HX3 HO3 HG3
 go_wp2
 refine bodyPost_ret (v := .agg #[(.string q.sc), (.string q.us), (.string q.pw), (.int .i64 q.hk), (.string q.hn), (.int .i64 q.ha), (.int .i64 q.po), (.slice a2 n c2), (.string q.op), (.bool q.hq), (.string q.qu), (.bool false), (.string ⟨#[]⟩)]) (by simp [results, Tryz.results99, go_sem, e0, e1, e2, e3, e4, e5, e6, e7, e8, e9, e10, e11, e12]) rfl ⟨a2, c2, rfl, HFIN.out⟩
end Go.Proofs.YtnfhajhdpdidlaaGreatDoor
end
section
namespace Go.Proofs.YtnfhajhdpdidlaaGreatDoor
open Go.RowKit Go.Shelf
theorem l3Copy (q : P) (a : Option Addr) (n c : Nat) (w : World) (hS : StrsOf a n q.ps w) (hl : n ≤ 1048576) :
  Calls Tryz.prog 97 #[.agg (q.cells (.slice a n c))] w fun e w' => ∃ a2 c2, e = .returned (.agg (q.cells (.slice a2 n c2))) ∧ OwnS w.heap.size (.slice a2 n c2) q.ps w' ∧ Below w.heap.size w w' := by
 have hn : n = q.ps.length := hS.1
 obtain ⟨V, hV⟩ : ∃ V, V = ((w.alloc (.cells #[(.string q.sc), (.string q.us), (.string q.pw), (.int .i64 q.hk), (.string q.hn), (.int .i64 q.ha), (.int .i64 q.po), (.slice a n c), (.string q.op), (.bool q.hq), (.string q.qu), (.bool q.hf), (.string q.fr)] 31)).alloc (.cells #[(.string ⟨#[]⟩), (.string ⟨#[]⟩), (.string ⟨#[]⟩), (.int .i64 0), (.string ⟨#[]⟩), (.int .i64 0), (.int .i64 0), (.slice none 0 0), (.string ⟨#[]⟩), (.bool false), (.string ⟨#[]⟩), (.bool false), (.string ⟨#[]⟩)] 31)) := ⟨_, rfl⟩
 have HX : Hid (Tw w #[(.string q.sc), (.string q.us), (.string q.pw), (.int .i64 q.hk), (.string q.hn), (.int .i64 q.ha), (.int .i64 q.po), (.slice a n c), (.string q.op), (.bool q.hq), (.string q.qu), (.bool q.hf), (.string q.fr)] #[(.string ⟨#[]⟩), (.string ⟨#[]⟩), (.string ⟨#[]⟩), (.int .i64 0), (.string ⟨#[]⟩), (.int .i64 0), (.int .i64 0), (.slice none 0 0), (.string ⟨#[]⟩), (.bool false), (.string ⟨#[]⟩), (.bool false), (.string ⟨#[]⟩)] V) := by rw [hV]; exact Tw.start w _ _
 have HZ : Hid (V.heap.size = w.heap.size + 1 + 1) := by show _ = _; rw [hV]; simp
 by_cases h0 : n = 0
 ·have HE : Hid (q.ps = []) := List.eq_nil_of_length_eq_zero (by omega)
  subst h0
  clear hS hl hn HZ
  unfold P.cells
  go_enter Tryz.func97, Tryz.ntmps97
  go_upto_region 1 with fail
  rw [← hV]
  clear hV
  obtain ⟨k0, k1, k2, k3, k4, k5, k6, k7, k8, k9, k10, k11, k12⟩ := Blk.cells13a HX.out.b1
  have fk := HX.out.b1.free
  go_upto_region 4 with fail
  obtain ⟨U, hU⟩ : ∃ U, U = V.setCell ⟨w.heap.size, 7, none⟩ (.slice none 0 0) := ⟨_, rfl⟩
  have HY : Hid (Tw w #[(.string q.sc), (.string q.us), (.string q.pw), (.int .i64 q.hk), (.string q.hn), (.int .i64 q.ha), (.int .i64 q.po), (.slice none 0 0), (.string q.op), (.bool q.hq), (.string q.qu), (.bool q.hf), (.string q.fr)] #[(.string ⟨#[]⟩), (.string ⟨#[]⟩), (.string ⟨#[]⟩), (.int .i64 0), (.string ⟨#[]⟩), (.int .i64 0), (.int .i64 0), (.slice none 0 0), (.string ⟨#[]⟩), (.bool false), (.string ⟨#[]⟩), (.bool false), (.string ⟨#[]⟩)] U) := by
   rw [hU]
   refine ⟨?_, HX.out.b2.other _ 7 _ (by omega), HX.out.bw.setCell (p := ⟨w.heap.size, 7, none⟩) (Nat.le_refl _) _⟩
   have := HX.out.b1.set 7 (.slice none 0 0)
   simpa using this
  rw [← hU]
  clear hU HX k0 k1 k2 k3 k4 k5 k6 k7 k8 k9 k10 k11 k12 fk
  obtain ⟨k0, k1, k2, k3, k4, k5, k6, k7, k8, k9, k10, k11, k12⟩ := Blk.cells13a HY.out.b1
  obtain ⟨e0, e1, e2, e3, e4, e5, e6, e7, e8, e9, e10, e11, e12⟩ := Blk.cells13a HY.out.b2
  have fr := HY.out.b2.free
  have HFIN : Hid (Below w.heap.size w (((((((((((((U.setCell ⟨w.heap.size + 1, 0, none⟩ (.string q.sc)).setCell ⟨w.heap.size + 1, 1, none⟩ (.string q.us)).setCell ⟨w.heap.size + 1, 2, none⟩ (.string q.pw)).setCell ⟨w.heap.size + 1, 3, none⟩ (.int .i64 q.hk)).setCell ⟨w.heap.size + 1, 4, none⟩ (.string q.hn)).setCell ⟨w.heap.size + 1, 5, none⟩ (.int .i64 q.ha)).setCell ⟨w.heap.size + 1, 6, none⟩ (.int .i64 q.po)).setCell ⟨w.heap.size + 1, 7, none⟩ (.slice none 0 0)).setCell ⟨w.heap.size + 1, 8, none⟩ (.string q.op)).setCell ⟨w.heap.size + 1, 9, none⟩ (.bool q.hq)).setCell ⟨w.heap.size + 1, 10, none⟩ (.string q.qu)).setCell ⟨w.heap.size + 1, 11, none⟩ (.bool q.hf)).setCell ⟨w.heap.size + 1, 12, none⟩ (.string q.fr))) := below_put13 HY.out.bw (by omega) _ _ _ _ _ _ _ _ _ _ _ _ _
  clear HY
  go_wp2
  refine bodyPost_ret (v := .agg #[(.string q.sc), (.string q.us), (.string q.pw), (.int .i64 q.hk), (.string q.hn), (.int .i64 q.ha), (.int .i64 q.po), (.slice none 0 0), (.string q.op), (.bool q.hq), (.string q.qu), (.bool q.hf), (.string q.fr)]) (by simp [results, Tryz.results97, go_sem, e0, e1, e2, e3, e4, e5, e6, e7, e8, e9, e10, e11, e12]) rfl ⟨none, 0, rfl, ?_, HFIN.out⟩
  rw [HE.out]
  exact ownS_nil _ _
 ·have hne : q.ps ≠ [] := by intro e; rw [e] at hn; exact h0 hn
  have hni : (0 : Int) < (n : Int) := by omega
  obtain ⟨b, off, rfl, hcl⟩ := hS.2.resolve_left hne
  have h0' := ownS_new V (w.heap.size + 1 + 1) (by rw [HZ.out]; exact Nat.le_refl _)
  have HQ : Hid (∀ j (h : j < q.ps.length), (V.alloc (.cells #[] 9)).cell? ⟨b, off + j, none⟩ = some (.string (mk q.ps[j]))) := by
   intro j hj
   have d : Below w.heap.size w (V.alloc (.cells #[] 9)) := HX.out.bw.alloc (by rw [HZ.out]; omega) _
   exact (d.cell (cell_in (hcl j hj))).trans (hcl j hj)
  have HBA : Hid (Below (w.heap.size + 1 + 1) V (V.alloc (.cells #[] 9))) := (Below.refl _ _).alloc (by rw [HZ.out]; exact Nat.le_refl _) _
  have HSZ : Hid (w.heap.size + 1 + 1 ≤ (V.alloc (.cells #[] 9)).heap.size) := by show _ ≤ _; simp; rw [HZ.out]; omega
  have HLN : Hid (([] : List (List UInt8)).length + q.ps.length ≤ 1000000000000) := by show _ ≤ _; simp; omega
  subst hn
  clear hS hl hcl h0 hne HZ
  unfold P.cells
  go_enter Tryz.func97, Tryz.ntmps97
  go_upto_region 1 with fail
  rw [← hV]
  clear hV
  obtain ⟨k0, k1, k2, k3, k4, k5, k6, k7, k8, k9, k10, k11, k12⟩ := Blk.cells13a HX.out.b1
  have fk := HX.out.b1.free
  have m7 : (V.alloc (.cells #[] 9)).cell? ⟨w.heap.size, 7, none⟩ = some (.slice (some ⟨b, off, none⟩) q.ps.length c) := (HX.out.b1.alloc _).cell 7
  go_upto_region 4 with (at_builtin; refine wpAppendStrs (V.alloc (.cells #[] 9)) rfl _ _ rfl (w.heap.size + 1 + 1) _ [] q.ps h0' rfl b off c rfl HQ.out HLN.out HSZ.out ?_; intro v1 w1 R b1; rw [List.nil_append] at R; obtain ⟨a2, c2, hv2, hc2⟩ := R.shape; subst hv2; have HD1 : Hid (Below (w.heap.size + 1 + 1) V w1) := HBA.out.trans b1; have HR : Hid (OwnS (w.heap.size + 1 + 1) (.slice a2 q.ps.length c2) q.ps w1) := R; clear R b1 HBA m7 k0 k1 k2 k3 k4 k5 k6 k7 k8 k9 k10 k11 k12 fk; obtain ⟨k0, k1, k2, k3, k4, k5, k6, k7, k8, k9, k10, k11, k12⟩ := Blk.cells13a (HX.out.b1.below HD1.out (by omega)); have fk := (HX.out.b1.below HD1.out (by omega)).free)
  obtain ⟨U, hU⟩ : ∃ U, U = w1.setCell ⟨w.heap.size, 7, none⟩ (.slice a2 q.ps.length c2) := ⟨_, rfl⟩
  have HY : Hid (Tw w #[(.string q.sc), (.string q.us), (.string q.pw), (.int .i64 q.hk), (.string q.hn), (.int .i64 q.ha), (.int .i64 q.po), (.slice a2 q.ps.length c2), (.string q.op), (.bool q.hq), (.string q.qu), (.bool q.hf), (.string q.fr)] #[(.string ⟨#[]⟩), (.string ⟨#[]⟩), (.string ⟨#[]⟩), (.int .i64 0), (.string ⟨#[]⟩), (.int .i64 0), (.int .i64 0), (.slice none 0 0), (.string ⟨#[]⟩), (.bool false), (.string ⟨#[]⟩), (.bool false), (.string ⟨#[]⟩)] U) := by
   have d1 : Below w.heap.size w w1 := HX.out.bw.trans (HD1.out.mono (by omega))
   rw [hU]
   refine ⟨?_, (HX.out.b2.below HD1.out (by omega)).other _ 7 _ (by omega), d1.setCell (p := ⟨w.heap.size, 7, none⟩) (Nat.le_refl _) _⟩
   have := (HX.out.b1.below HD1.out (by omega)).set 7 (.slice a2 q.ps.length c2)
   simpa using this
  have HO : Hid (OwnS (w.heap.size + 1 + 1) (.slice a2 q.ps.length c2) q.ps U) := by rw [hU]; exact HR.out.low (by omega) 7 _
  rw [← hU]
  clear hU HX HR HD1 k0 k1 k2 k3 k4 k5 k6 k7 k8 k9 k10 k11 k12 fk h0' HQ HSZ HLN
  obtain ⟨k0, k1, k2, k3, k4, k5, k6, k7, k8, k9, k10, k11, k12⟩ := Blk.cells13a HY.out.b1
  obtain ⟨e0, e1, e2, e3, e4, e5, e6, e7, e8, e9, e10, e11, e12⟩ := Blk.cells13a HY.out.b2
  have fr := HY.out.b2.free
  have HFIN : Hid (OwnS w.heap.size (.slice a2 q.ps.length c2) q.ps (((((((((((((U.setCell ⟨w.heap.size + 1, 0, none⟩ (.string q.sc)).setCell ⟨w.heap.size + 1, 1, none⟩ (.string q.us)).setCell ⟨w.heap.size + 1, 2, none⟩ (.string q.pw)).setCell ⟨w.heap.size + 1, 3, none⟩ (.int .i64 q.hk)).setCell ⟨w.heap.size + 1, 4, none⟩ (.string q.hn)).setCell ⟨w.heap.size + 1, 5, none⟩ (.int .i64 q.ha)).setCell ⟨w.heap.size + 1, 6, none⟩ (.int .i64 q.po)).setCell ⟨w.heap.size + 1, 7, none⟩ (.slice a2 q.ps.length c2)).setCell ⟨w.heap.size + 1, 8, none⟩ (.string q.op)).setCell ⟨w.heap.size + 1, 9, none⟩ (.bool q.hq)).setCell ⟨w.heap.size + 1, 10, none⟩ (.string q.qu)).setCell ⟨w.heap.size + 1, 11, none⟩ (.bool q.hf)).setCell ⟨w.heap.size + 1, 12, none⟩ (.string q.fr)) ∧ Below w.heap.size w (((((((((((((U.setCell ⟨w.heap.size + 1, 0, none⟩ (.string q.sc)).setCell ⟨w.heap.size + 1, 1, none⟩ (.string q.us)).setCell ⟨w.heap.size + 1, 2, none⟩ (.string q.pw)).setCell ⟨w.heap.size + 1, 3, none⟩ (.int .i64 q.hk)).setCell ⟨w.heap.size + 1, 4, none⟩ (.string q.hn)).setCell ⟨w.heap.size + 1, 5, none⟩ (.int .i64 q.ha)).setCell ⟨w.heap.size + 1, 6, none⟩ (.int .i64 q.po)).setCell ⟨w.heap.size + 1, 7, none⟩ (.slice a2 q.ps.length c2)).setCell ⟨w.heap.size + 1, 8, none⟩ (.string q.op)).setCell ⟨w.heap.size + 1, 9, none⟩ (.bool q.hq)).setCell ⟨w.heap.size + 1, 10, none⟩ (.string q.qu)).setCell ⟨w.heap.size + 1, 11, none⟩ (.bool q.hf)).setCell ⟨w.heap.size + 1, 12, none⟩ (.string q.fr))) := ⟨(OwnS.put13 HO.out (by omega)).mono (by omega), below_put13 HY.out.bw (by omega) _ _ _ _ _ _ _ _ _ _ _ _ _⟩
  clear HY HO
  go_wp2
  refine bodyPost_ret (v := .agg #[(.string q.sc), (.string q.us), (.string q.pw), (.int .i64 q.hk), (.string q.hn), (.int .i64 q.ha), (.int .i64 q.po), (.slice a2 q.ps.length c2), (.string q.op), (.bool q.hq), (.string q.qu), (.bool q.hf), (.string q.fr)]) (by simp [results, Tryz.results97, go_sem, e0, e1, e2, e3, e4, e5, e6, e7, e8, e9, e10, e11, e12]) rfl ⟨a2, c2, rfl, HFIN.out⟩
end Go.Proofs.YtnfhajhdpdidlaaGreatDoor
end
section
namespace Go.Proofs.YtnfhajhdpdidlaaGreatDoor
open Go.RowKit Go.Shelf
theorem l3Base (q : P) (a : Option Addr) (n c : Nat) (w : World) (hS : StrsOf a n q.ps w) (hl : n ≤ 1048576) :
  Calls Tryz.prog 61 #[.agg (q.cells (.slice a n c))] w fun e w' => ∃ a2 c2, e = .returned (.agg ((bsP q).cells (.slice a2 n c2))) ∧ OwnS w.heap.size (.slice a2 n c2) q.ps w' ∧ Below w.heap.size w w' := by
 have CA : Hid (∀ W, Below w.heap.size w W → Calls Tryz.prog 97 #[.agg #[(.string q.sc), (.string q.us), (.string q.pw), (.int .i64 q.hk), (.string q.hn), (.int .i64 q.ha), (.int .i64 q.po), (.slice a n c), (.string q.op), (.bool q.hq), (.string q.qu), (.bool q.hf), (.string q.fr)]] W fun e w' => ∃ a2 c2, e = .returned (.agg #[(.string q.sc), (.string q.us), (.string q.pw), (.int .i64 q.hk), (.string q.hn), (.int .i64 q.ha), (.int .i64 q.po), (.slice a2 n c2), (.string q.op), (.bool q.hq), (.string q.qu), (.bool q.hf), (.string q.fr)]) ∧ OwnS W.heap.size (.slice a2 n c2) q.ps w' ∧ Below W.heap.size W w') := fun W d => l3Copy q a n c W (hS.later d) hl
 have H0 : Hid (Tw w #[(.string q.sc), (.string q.us), (.string q.pw), (.int .i64 q.hk), (.string q.hn), (.int .i64 q.ha), (.int .i64 q.po), (.slice a n c), (.string q.op), (.bool q.hq), (.string q.qu), (.bool q.hf), (.string q.fr)] #[(.string ⟨#[]⟩), (.string ⟨#[]⟩), (.string ⟨#[]⟩), (.int .i64 0), (.string ⟨#[]⟩), (.int .i64 0), (.int .i64 0), (.slice none 0 0), (.string ⟨#[]⟩), (.bool false), (.string ⟨#[]⟩), (.bool false), (.string ⟨#[]⟩)] ((w.alloc (.cells #[(.string q.sc), (.string q.us), (.string q.pw), (.int .i64 q.hk), (.string q.hn), (.int .i64 q.ha), (.int .i64 q.po), (.slice a n c), (.string q.op), (.bool q.hq), (.string q.qu), (.bool q.hf), (.string q.fr)] 31)).alloc (.cells #[(.string ⟨#[]⟩), (.string ⟨#[]⟩), (.string ⟨#[]⟩), (.int .i64 0), (.string ⟨#[]⟩), (.int .i64 0), (.int .i64 0), (.slice none 0 0), (.string ⟨#[]⟩), (.bool false), (.string ⟨#[]⟩), (.bool false), (.string ⟨#[]⟩)] 31))) := Tw.start w _ _
 have HZ0 : Hid (((w.alloc (.cells #[(.string q.sc), (.string q.us), (.string q.pw), (.int .i64 q.hk), (.string q.hn), (.int .i64 q.ha), (.int .i64 q.po), (.slice a n c), (.string q.op), (.bool q.hq), (.string q.qu), (.bool q.hf), (.string q.fr)] 31)).alloc (.cells #[(.string ⟨#[]⟩), (.string ⟨#[]⟩), (.string ⟨#[]⟩), (.int .i64 0), (.string ⟨#[]⟩), (.int .i64 0), (.int .i64 0), (.slice none 0 0), (.string ⟨#[]⟩), (.bool false), (.string ⟨#[]⟩), (.bool false), (.string ⟨#[]⟩)] 31)).heap.size = w.heap.size + 1 + 1) := by show _ = _; simp
 clear hS hl
 unfold P.cells bsP
 go_enter Tryz.func61, Tryz.ntmps61
 go_wp2_with fail
 refine (CA.out _ H0.out.bw).mono ?_
 rintro e W1 ⟨a2, c2, rfl, o1, d1⟩
 have HX1 : Hid (Tw w #[(.string q.sc), (.string q.us), (.string q.pw), (.int .i64 q.hk), (.string q.hn), (.int .i64 q.ha), (.int .i64 q.po), (.slice a n c), (.string q.op), (.bool q.hq), (.string q.qu), (.bool q.hf), (.string q.fr)] #[(.string ⟨#[]⟩), (.string ⟨#[]⟩), (.string ⟨#[]⟩), (.int .i64 0), (.string ⟨#[]⟩), (.int .i64 0), (.int .i64 0), (.slice none 0 0), (.string ⟨#[]⟩), (.bool false), (.string ⟨#[]⟩), (.bool false), (.string ⟨#[]⟩)] W1) := H0.out.later d1
 have HO1 : Hid (OwnS (w.heap.size + 1 + 1) (.slice a2 n c2) q.ps W1) := by show OwnS _ _ _ _; rw [← HZ0.out]; exact o1
 clear d1 H0 CA o1 HZ0
 obtain ⟨V, hV⟩ : ∃ V, V = W1.alloc (.cells #[(.string q.sc), (.string q.us), (.string q.pw), (.int .i64 q.hk), (.string q.hn), (.int .i64 q.ha), (.int .i64 q.po), (.slice a2 n c2), (.string q.op), (.bool q.hq), (.string q.qu), (.bool q.hf), (.string q.fr)] 31) := ⟨_, rfl⟩
 have HBV : Hid (Below W1.heap.size W1 V) := by show Below _ _ _; rw [hV]; exact (Below.refl _ _).alloc (Nat.le_refl _) _
 have HX2 : Hid (Tw w #[(.string q.sc), (.string q.us), (.string q.pw), (.int .i64 q.hk), (.string q.hn), (.int .i64 q.ha), (.int .i64 q.po), (.slice a n c), (.string q.op), (.bool q.hq), (.string q.qu), (.bool q.hf), (.string q.fr)] #[(.string ⟨#[]⟩), (.string ⟨#[]⟩), (.string ⟨#[]⟩), (.int .i64 0), (.string ⟨#[]⟩), (.int .i64 0), (.int .i64 0), (.slice none 0 0), (.string ⟨#[]⟩), (.bool false), (.string ⟨#[]⟩), (.bool false), (.string ⟨#[]⟩)] V) := HX1.out.later HBV.out
 have HO2 : Hid (OwnS (w.heap.size + 1 + 1) (.slice a2 n c2) q.ps V) := HO1.out.later HBV.out
 have HG2 : Hid (Blk W1.heap.size #[(.string q.sc), (.string q.us), (.string q.pw), (.int .i64 q.hk), (.string q.hn), (.int .i64 q.ha), (.int .i64 q.po), (.slice a2 n c2), (.string q.op), (.bool q.hq), (.string q.qu), (.bool q.hf), (.string q.fr)] 31 V) := by show Blk _ _ _ _; rw [hV]; exact Blk.new W1 _ _
 have hgw : w.heap.size + 1 < W1.heap.size := HX1.out.b2.lt
 clear HX1 HO1 HBV
 go_upto_region 2 with fail
 rw [← hV]
 clear hV
 generalize W1.heap.size = g at *
 obtain ⟨k0, k1, k2, k3, k4, k5, k6, k7, k8, k9, k10, k11, k12⟩ := Blk.cells13a HG2.out
 have fk := HG2.out.free
 go_upto_region 4 with fail
 obtain ⟨U2, hU2⟩ : ∃ U, U = (V.setCell ⟨g, 11, none⟩ (.bool false)).setCell ⟨g, 12, none⟩ (.string ⟨#[]⟩) := ⟨_, rfl⟩
 have HX3 : Hid (Blk (w.heap.size + 1) #[(.string ⟨#[]⟩), (.string ⟨#[]⟩), (.string ⟨#[]⟩), (.int .i64 0), (.string ⟨#[]⟩), (.int .i64 0), (.int .i64 0), (.slice none 0 0), (.string ⟨#[]⟩), (.bool false), (.string ⟨#[]⟩), (.bool false), (.string ⟨#[]⟩)] 31 U2 ∧ Below w.heap.size w U2) := by
  rw [hU2]
  exact ⟨(HX2.out.b2.other g 11 _ (by omega)).other g 12 _ (by omega), (HX2.out.bw.setCell (p := ⟨g, 11, none⟩) (by show _ ≤ g; omega) _).setCell (p := ⟨g, 12, none⟩) (by show _ ≤ g; omega) _⟩
 have HG3 : Hid (Blk g #[(.string q.sc), (.string q.us), (.string q.pw), (.int .i64 q.hk), (.string q.hn), (.int .i64 q.ha), (.int .i64 q.po), (.slice a2 n c2), (.string q.op), (.bool q.hq), (.string q.qu), (.bool false), (.string ⟨#[]⟩)] 31 U2) := by rw [hU2]; have := (HG2.out.set 11 (.bool false)).set 12 (.string ⟨#[]⟩); show Blk _ _ _ _; simpa using this
 have HO3 : Hid (OwnS (w.heap.size + 1 + 1) (.slice a2 n c2) q.ps U2) := by rw [hU2]; exact (HO2.out.off HG2.out (by decide) 11 _).off (HG2.out.set 11 (.bool false)) (by decide) 12 _
 rw [← hU2]
 clear hU2 HX2 HO2 HG2 k0 k1 k2 k3 k4 k5 k6 k7 k8 k9 k10 k11 k12 fk
 obtain ⟨k0, k1, k2, k3, k4, k5, k6, k7, k8, k9, k10, k11, k12⟩ := Blk.cells13a HG3.out
 obtain ⟨e0, e1, e2, e3, e4, e5, e6, e7, e8, e9, e10, e11, e12⟩ := Blk.cells13a HX3.out.1
 have fr := HX3.out.1.free
 have HFIN : Hid (OwnS w.heap.size (.slice a2 n c2) q.ps (((((((((((((U2.setCell ⟨w.heap.size + 1, 0, none⟩ (.string q.sc)).setCell ⟨w.heap.size + 1, 1, none⟩ (.string q.us)).setCell ⟨w.heap.size + 1, 2, none⟩ (.string q.pw)).setCell ⟨w.heap.size + 1, 3, none⟩ (.int .i64 q.hk)).setCell ⟨w.heap.size + 1, 4, none⟩ (.string q.hn)).setCell ⟨w.heap.size + 1, 5, none⟩ (.int .i64 q.ha)).setCell ⟨w.heap.size + 1, 6, none⟩ (.int .i64 q.po)).setCell ⟨w.heap.size + 1, 7, none⟩ (.slice a2 n c2)).setCell ⟨w.heap.size + 1, 8, none⟩ (.string q.op)).setCell ⟨w.heap.size + 1, 9, none⟩ (.bool q.hq)).setCell ⟨w.heap.size + 1, 10, none⟩ (.string q.qu)).setCell ⟨w.heap.size + 1, 11, none⟩ (.bool false)).setCell ⟨w.heap.size + 1, 12, none⟩ (.string ⟨#[]⟩)) ∧ Below w.heap.size w (((((((((((((U2.setCell ⟨w.heap.size + 1, 0, none⟩ (.string q.sc)).setCell ⟨w.heap.size + 1, 1, none⟩ (.string q.us)).setCell ⟨w.heap.size + 1, 2, none⟩ (.string q.pw)).setCell ⟨w.heap.size + 1, 3, none⟩ (.int .i64 q.hk)).setCell ⟨w.heap.size + 1, 4, none⟩ (.string q.hn)).setCell ⟨w.heap.size + 1, 5, none⟩ (.int .i64 q.ha)).setCell ⟨w.heap.size + 1, 6, none⟩ (.int .i64 q.po)).setCell ⟨w.heap.size + 1, 7, none⟩ (.slice a2 n c2)).setCell ⟨w.heap.size + 1, 8, none⟩ (.string q.op)).setCell ⟨w.heap.size + 1, 9, none⟩ (.bool q.hq)).setCell ⟨w.heap.size + 1, 10, none⟩ (.string q.qu)).setCell ⟨w.heap.size + 1, 11, none⟩ (.bool false)).setCell ⟨w.heap.size + 1, 12, none⟩ (.string ⟨#[]⟩))) := ⟨(OwnS.put13 HO3.out (by omega)).mono (by omega), below_put13 HX3.out.2 (by omega) _ _ _ _ _ _ _ _ _ _ _ _ _⟩
 clear HX3 HO3 HG3
 go_wp2
 refine bodyPost_ret (v := .agg #[(.string q.sc), (.string q.us), (.string q.pw), (.int .i64 q.hk), (.string q.hn), (.int .i64 q.ha), (.int .i64 q.po), (.slice a2 n c2), (.string q.op), (.bool q.hq), (.string q.qu), (.bool false), (.string ⟨#[]⟩)]) (by simp [results, Tryz.results61, go_sem, e0, e1, e2, e3, e4, e5, e6, e7, e8, e9, e10, e11, e12]) rfl ⟨a2, c2, rfl, HFIN.out⟩
end Go.Proofs.YtnfhajhdpdidlaaGreatDoor
end

/- impl.UrlBase: an address that is ok, without its end. spec.l3Copy: an address with a path of its own. spec.l3Base, spec.UrlBase: an address that is ok, without its end. spec.l11AnyUrl: an address is drawn, and perhaps one part turned. -/
import Derived.Test.YtnfhajhdpdidlaaGreatDoorCFnRefer03
import Derived.Test.YtnfhajhdpdidlaaGreatDoorCFnRefer09
import Derived.Deep.Cut
import Derived.Deep.RegionLaw
set_option linter.unusedVariables false
set_option linter.unusedSimpArgs false
set_option maxHeartbeats 8000000
set_option maxRecDepth 100000
section
namespace Go.Proofs.YtnfhajhdpdidlaaGreatDoor
open Go.RowKit Go.Shelf
theorem OwnS.off {B k : Nat} {v : Value} {ps : List (List UInt8)} {A : Array Value} {t : TypeId} {w : World} (h : OwnS B v ps w) (hK : Blk k A t w) (ht : t ≠ 9) (j : Nat) (x : Value) : OwnS B v ps (w.setCell ⟨k, j, none⟩ x) := by
 have h0 := h
 refine ⟨h.1, ?_⟩
 rcases h.2 with h1 | ⟨g, cap, cur, hv, hb, hg, rest⟩
 ·exact .inl h1
 ·refine .inr ⟨g, cap, cur, hv, hb, ?_, rest⟩
  have hne : k ≠ g := by rw [hv] at h0; exact h0.ne hK ht
  rw [← hg]
  simp [World.setCell, Array.getElem?_modify]
  intro e
  exact absurd e hne
theorem implUrlBaseYes (q : P) (a : Option Addr) (n c : Nat) (w : World) (hL : Lean1 w) (hS : StrsOf a n q.ps w) (hs : q.tot ≤ 1048576) (hpo : q.po ≤ 9223372036854775807) (hok : okP q) :
  Calls Tryz.prog 99 #[.agg (q.cells (.slice a n c))] w fun e w' => ∃ a2 c2, e = .returned (.agg ((bsP q).cells (.slice a2 n c2))) ∧ OwnS w.heap.size (.slice a2 n c2) q.ps w' ∧ Below w.heap.size w w' := by
 have hn : n = q.ps.length := hS.1
 have CA : Hid (∀ W, Below w.heap.size w W → Calls Tryz.prog 81 #[.agg #[(.string q.sc), (.string q.us), (.string q.pw), (.int .i64 q.hk), (.string q.hn), (.int .i64 q.ha), (.int .i64 q.po), (.slice a n c), (.string q.op), (.bool q.hq), (.string q.qu), (.bool q.hf), (.string q.fr)]] W fun e w' => ∃ a2 c2, e = .returned (.tuple #[.agg #[(.string q.sc), (.string q.us), (.string q.pw), (.int .i64 q.hk), (.string q.hn), (.int .i64 q.ha), (.int .i64 q.po), (.slice a2 n c2), (.string q.op), (.bool q.hq), (.string q.qu), (.bool q.hf), (.string q.fr)], .bool true]) ∧ OwnS W.heap.size (.slice a2 n c2) q.ps w' ∧ Below W.heap.size W w') := fun W d => by
  refine (urlAgain q a n c W (hL.below d) (hS.later d) hs hpo true (by simp [hok])).mono ?_
  rintro e w' ⟨v, rfl, o, d2⟩
  rw [hok.2] at o ⊢
  obtain ⟨a2, c2, hv, hc, s2⟩ := o.strs
  rw [← hn] at hv
  subst hv
  exact ⟨a2, c2, rfl, o, d2⟩
 have H0 : Hid (Tw w #[(.string q.sc), (.string q.us), (.string q.pw), (.int .i64 q.hk), (.string q.hn), (.int .i64 q.ha), (.int .i64 q.po), (.slice a n c), (.string q.op), (.bool q.hq), (.string q.qu), (.bool q.hf), (.string q.fr)] #[(.string ⟨#[]⟩), (.string ⟨#[]⟩), (.string ⟨#[]⟩), (.int .i64 0), (.string ⟨#[]⟩), (.int .i64 0), (.int .i64 0), (.slice none 0 0), (.string ⟨#[]⟩), (.bool false), (.string ⟨#[]⟩), (.bool false), (.string ⟨#[]⟩)] ((w.alloc (.cells #[(.string q.sc), (.string q.us), (.string q.pw), (.int .i64 q.hk), (.string q.hn), (.int .i64 q.ha), (.int .i64 q.po), (.slice a n c), (.string q.op), (.bool q.hq), (.string q.qu), (.bool q.hf), (.string q.fr)] 31)).alloc (.cells #[(.string ⟨#[]⟩), (.string ⟨#[]⟩), (.string ⟨#[]⟩), (.int .i64 0), (.string ⟨#[]⟩), (.int .i64 0), (.int .i64 0), (.slice none 0 0), (.string ⟨#[]⟩), (.bool false), (.string ⟨#[]⟩), (.bool false), (.string ⟨#[]⟩)] 31))) := Tw.start w _ _
 have HZ0 : Hid (((w.alloc (.cells #[(.string q.sc), (.string q.us), (.string q.pw), (.int .i64 q.hk), (.string q.hn), (.int .i64 q.ha), (.int .i64 q.po), (.slice a n c), (.string q.op), (.bool q.hq), (.string q.qu), (.bool q.hf), (.string q.fr)] 31)).alloc (.cells #[(.string ⟨#[]⟩), (.string ⟨#[]⟩), (.string ⟨#[]⟩), (.int .i64 0), (.string ⟨#[]⟩), (.int .i64 0), (.int .i64 0), (.slice none 0 0), (.string ⟨#[]⟩), (.bool false), (.string ⟨#[]⟩), (.bool false), (.string ⟨#[]⟩)] 31)).heap.size = w.heap.size + 1 + 1) := by show _ = _; simp
 clear hS hs hpo hn hok hL
 unfold P.cells bsP
 go_enter Tryz.func99, Tryz.ntmps99
 go_wp2_with fail
 refine (CA.out _ H0.out.bw).mono ?_
 rintro e W1 ⟨a2, c2, rfl, o1, d1⟩
 have HX1 : Hid (Tw w #[(.string q.sc), (.string q.us), (.string q.pw), (.int .i64 q.hk), (.string q.hn), (.int .i64 q.ha), (.int .i64 q.po), (.slice a n c), (.string q.op), (.bool q.hq), (.string q.qu), (.bool q.hf), (.string q.fr)] #[(.string ⟨#[]⟩), (.string ⟨#[]⟩), (.string ⟨#[]⟩), (.int .i64 0), (.string ⟨#[]⟩), (.int .i64 0), (.int .i64 0), (.slice none 0 0), (.string ⟨#[]⟩), (.bool false), (.string ⟨#[]⟩), (.bool false), (.string ⟨#[]⟩)] W1) := H0.out.later d1
 have HO1 : Hid (OwnS (w.heap.size + 1 + 1) (.slice a2 n c2) q.ps W1) := by show OwnS _ _ _ _; rw [← HZ0.out]; exact o1
 clear d1 H0 CA o1 HZ0
 obtain ⟨V, hV⟩ : ∃ V, V = W1.alloc (.cells #[(.string q.sc), (.string q.us), (.string q.pw), (.int .i64 q.hk), (.string q.hn), (.int .i64 q.ha), (.int .i64 q.po), (.slice a2 n c2), (.string q.op), (.bool q.hq), (.string q.qu), (.bool q.hf), (.string q.fr)] 31) := ⟨_, rfl⟩
 have HBV : Hid (Below W1.heap.size W1 V) := by show Below _ _ _; rw [hV]; exact (Below.refl _ _).alloc (Nat.le_refl _) _
 have HX2 : Hid (Tw w #[(.string q.sc), (.string q.us), (.string q.pw), (.int .i64 q.hk), (.string q.hn), (.int .i64 q.ha), (.int .i64 q.po), (.slice a n c), (.string q.op), (.bool q.hq), (.string q.qu), (.bool q.hf), (.string q.fr)] #[(.string ⟨#[]⟩), (.string ⟨#[]⟩), (.string ⟨#[]⟩), (.int .i64 0), (.string ⟨#[]⟩), (.int .i64 0), (.int .i64 0), (.slice none 0 0), (.string ⟨#[]⟩), (.bool false), (.string ⟨#[]⟩), (.bool false), (.string ⟨#[]⟩)] V) := HX1.out.later HBV.out
 have HO2 : Hid (OwnS (w.heap.size + 1 + 1) (.slice a2 n c2) q.ps V) := HO1.out.later HBV.out
 have HG2 : Hid (Blk W1.heap.size #[(.string q.sc), (.string q.us), (.string q.pw), (.int .i64 q.hk), (.string q.hn), (.int .i64 q.ha), (.int .i64 q.po), (.slice a2 n c2), (.string q.op), (.bool q.hq), (.string q.qu), (.bool q.hf), (.string q.fr)] 31 V) := by show Blk _ _ _ _; rw [hV]; exact Blk.new W1 _ _
 have hgw : w.heap.size + 1 < W1.heap.size := HX1.out.b2.lt
 clear HX1 HO1 HBV
 go_upto_region 4 with fail
 rw [← hV]
 clear hV
 generalize W1.heap.size = g at *
 obtain ⟨k0, k1, k2, k3, k4, k5, k6, k7, k8, k9, k10, k11, k12⟩ := Blk.cells13a HG2.out
 have fk := HG2.out.free
 go_upto_region 5 with fail
 obtain ⟨U2, hU2⟩ : ∃ U, U = (V.setCell ⟨g, 11, none⟩ (.bool false)).setCell ⟨g, 12, none⟩ (.string ⟨#[]⟩) := ⟨_, rfl⟩
 have HX3 : Hid (Blk (w.heap.size + 1) #[(.string ⟨#[]⟩), (.string ⟨#[]⟩), (.string ⟨#[]⟩), (.int .i64 0), (.string ⟨#[]⟩), (.int .i64 0), (.int .i64 0), (.slice none 0 0), (.string ⟨#[]⟩), (.bool false), (.string ⟨#[]⟩), (.bool false), (.string ⟨#[]⟩)] 31 U2 ∧ Below w.heap.size w U2) := by
  rw [hU2]
  exact ⟨(HX2.out.b2.other g 11 _ (by omega)).other g 12 _ (by omega), (HX2.out.bw.setCell (p := ⟨g, 11, none⟩) (by show _ ≤ g; omega) _).setCell (p := ⟨g, 12, none⟩) (by show _ ≤ g; omega) _⟩
 have HG3 : Hid (Blk g #[(.string q.sc), (.string q.us), (.string q.pw), (.int .i64 q.hk), (.string q.hn), (.int .i64 q.ha), (.int .i64 q.po), (.slice a2 n c2), (.string q.op), (.bool q.hq), (.string q.qu), (.bool false), (.string ⟨#[]⟩)] 31 U2) := by rw [hU2]; have := (HG2.out.set 11 (.bool false)).set 12 (.string ⟨#[]⟩); show Blk _ _ _ _; simpa using this
 have HO3 : Hid (OwnS (w.heap.size + 1 + 1) (.slice a2 n c2) q.ps U2) := by rw [hU2]; exact (HO2.out.off HG2.out (by decide) 11 _).off (HG2.out.set 11 (.bool false)) (by decide) 12 _
 rw [← hU2]
 clear hU2 HX2 HO2 HG2 k0 k1 k2 k3 k4 k5 k6 k7 k8 k9 k10 k11 k12 fk
 obtain ⟨k0, k1, k2, k3, k4, k5, k6, k7, k8, k9, k10, k11, k12⟩ := Blk.cells13a HG3.out
 obtain ⟨e0, e1, e2, e3, e4, e5, e6, e7, e8, e9, e10, e11, e12⟩ := Blk.cells13a HX3.out.1
 have fr := HX3.out.1.free
 have HFIN : Hid (OwnS w.heap.size (.slice a2 n c2) q.ps (((((((((((((U2.setCell ⟨w.heap.size + 1, 0, none⟩ (.string q.sc)).setCell ⟨w.heap.size + 1, 1, none⟩ (.string q.us)).setCell ⟨w.heap.size + 1, 2, none⟩ (.string q.pw)).setCell ⟨w.heap.size + 1, 3, none⟩ (.int .i64 q.hk)).setCell ⟨w.heap.size + 1, 4, none⟩ (.string q.hn)).setCell ⟨w.heap.size + 1, 5, none⟩ (.int .i64 q.ha)).setCell ⟨w.heap.size + 1, 6, none⟩ (.int .i64 q.po)).setCell ⟨w.heap.size + 1, 7, none⟩ (.slice a2 n c2)).setCell ⟨w.heap.size + 1, 8, none⟩ (.string q.op)).setCell ⟨w.heap.size + 1, 9, none⟩ (.bool q.hq)).setCell ⟨w.heap.size + 1, 10, none⟩ (.string q.qu)).setCell ⟨w.heap.size + 1, 11, none⟩ (.bool false)).setCell ⟨w.heap.size + 1, 12, none⟩ (.string ⟨#[]⟩)) ∧ Below w.heap.size w (((((((((((((U2.setCell ⟨w.heap.size + 1, 0, none⟩ (.string q.sc)).setCell ⟨w.heap.size + 1, 1, none⟩ (.string q.us)).setCell ⟨w.heap.size + 1, 2, none⟩ (.string q.pw)).setCell ⟨w.heap.size + 1, 3, none⟩ (.int .i64 q.hk)).setCell ⟨w.heap.size + 1, 4, none⟩ (.string q.hn)).setCell ⟨w.heap.size + 1, 5, none⟩ (.int .i64 q.ha)).setCell ⟨w.heap.size + 1, 6, none⟩ (.int .i64 q.po)).setCell ⟨w.heap.size + 1, 7, none⟩ (.slice a2 n c2)).setCell ⟨w.heap.size + 1, 8, none⟩ (.string q.op)).setCell ⟨w.heap.size + 1, 9, none⟩ (.bool q.hq)).setCell ⟨w.heap.size + 1, 10, none⟩ (.string q.qu)).setCell ⟨w.heap.size + 1, 11, none⟩ (.bool false)).setCell ⟨w.heap.size + 1, 12, none⟩ (.string ⟨#[]⟩))) := ⟨(OwnS.put13 HO3.out (by omega)).mono (by omega), below_put13 HX3.out.2 (by omega) _ _ _ _ _ _ _ _ _ _ _ _ _⟩
 clear HX3 HO3 HG3
 go_wp2
 refine bodyPost_ret (v := .agg #[(.string q.sc), (.string q.us), (.string q.pw), (.int .i64 q.hk), (.string q.hn), (.int .i64 q.ha), (.int .i64 q.po), (.slice a2 n c2), (.string q.op), (.bool q.hq), (.string q.qu), (.bool false), (.string ⟨#[]⟩)]) (by simp [results, Tryz.results99, go_sem, e0, e1, e2, e3, e4, e5, e6, e7, e8, e9, e10, e11, e12]) rfl ⟨a2, c2, rfl, HFIN.out⟩
end Go.Proofs.YtnfhajhdpdidlaaGreatDoor
end
section
namespace Go.Proofs.YtnfhajhdpdidlaaGreatDoor
open Go.RowKit Go.Shelf
theorem l3Copy (q : P) (a : Option Addr) (n c : Nat) (w : World) (hS : StrsOf a n q.ps w) (hl : n ≤ 1048576) :
  Calls Tryz.prog 97 #[.agg (q.cells (.slice a n c))] w fun e w' => ∃ a2 c2, e = .returned (.agg (q.cells (.slice a2 n c2))) ∧ OwnS w.heap.size (.slice a2 n c2) q.ps w' ∧ Below w.heap.size w w' := by
 have hn : n = q.ps.length := hS.1
 obtain ⟨V, hV⟩ : ∃ V, V = ((w.alloc (.cells #[(.string q.sc), (.string q.us), (.string q.pw), (.int .i64 q.hk), (.string q.hn), (.int .i64 q.ha), (.int .i64 q.po), (.slice a n c), (.string q.op), (.bool q.hq), (.string q.qu), (.bool q.hf), (.string q.fr)] 31)).alloc (.cells #[(.string ⟨#[]⟩), (.string ⟨#[]⟩), (.string ⟨#[]⟩), (.int .i64 0), (.string ⟨#[]⟩), (.int .i64 0), (.int .i64 0), (.slice none 0 0), (.string ⟨#[]⟩), (.bool false), (.string ⟨#[]⟩), (.bool false), (.string ⟨#[]⟩)] 31)) := ⟨_, rfl⟩
 have HX : Hid (Tw w #[(.string q.sc), (.string q.us), (.string q.pw), (.int .i64 q.hk), (.string q.hn), (.int .i64 q.ha), (.int .i64 q.po), (.slice a n c), (.string q.op), (.bool q.hq), (.string q.qu), (.bool q.hf), (.string q.fr)] #[(.string ⟨#[]⟩), (.string ⟨#[]⟩), (.string ⟨#[]⟩), (.int .i64 0), (.string ⟨#[]⟩), (.int .i64 0), (.int .i64 0), (.slice none 0 0), (.string ⟨#[]⟩), (.bool false), (.string ⟨#[]⟩), (.bool false), (.string ⟨#[]⟩)] V) := by rw [hV]; exact Tw.start w _ _
 have HZ : Hid (V.heap.size = w.heap.size + 1 + 1) := by show _ = _; rw [hV]; simp
 by_cases h0 : n = 0
 ·have HE : Hid (q.ps = []) := List.eq_nil_of_length_eq_zero (by omega)
  subst h0
  clear hS hl hn HZ
  unfold P.cells
  go_enter Tryz.func97, Tryz.ntmps97
  go_upto_region 1 with fail
  rw [← hV]
  clear hV
  obtain ⟨k0, k1, k2, k3, k4, k5, k6, k7, k8, k9, k10, k11, k12⟩ := Blk.cells13a HX.out.b1
  have fk := HX.out.b1.free
  go_upto_region 4 with fail
  obtain ⟨U, hU⟩ : ∃ U, U = V.setCell ⟨w.heap.size, 7, none⟩ (.slice none 0 0) := ⟨_, rfl⟩
  have HY : Hid (Tw w #[(.string q.sc), (.string q.us), (.string q.pw), (.int .i64 q.hk), (.string q.hn), (.int .i64 q.ha), (.int .i64 q.po), (.slice none 0 0), (.string q.op), (.bool q.hq), (.string q.qu), (.bool q.hf), (.string q.fr)] #[(.string ⟨#[]⟩), (.string ⟨#[]⟩), (.string ⟨#[]⟩), (.int .i64 0), (.string ⟨#[]⟩), (.int .i64 0), (.int .i64 0), (.slice none 0 0), (.string ⟨#[]⟩), (.bool false), (.string ⟨#[]⟩), (.bool false), (.string ⟨#[]⟩)] U) := by
   rw [hU]
   refine ⟨?_, HX.out.b2.other _ 7 _ (by omega), HX.out.bw.setCell (p := ⟨w.heap.size, 7, none⟩) (Nat.le_refl _) _⟩
   have := HX.out.b1.set 7 (.slice none 0 0)
   simpa using this
  rw [← hU]
  clear hU HX k0 k1 k2 k3 k4 k5 k6 k7 k8 k9 k10 k11 k12 fk
  obtain ⟨k0, k1, k2, k3, k4, k5, k6, k7, k8, k9, k10, k11, k12⟩ := Blk.cells13a HY.out.b1
  obtain ⟨e0, e1, e2, e3, e4, e5, e6, e7, e8, e9, e10, e11, e12⟩ := Blk.cells13a HY.out.b2
  have fr := HY.out.b2.free
  have HFIN : Hid (Below w.heap.size w (((((((((((((U.setCell ⟨w.heap.size + 1, 0, none⟩ (.string q.sc)).setCell ⟨w.heap.size + 1, 1, none⟩ (.string q.us)).setCell ⟨w.heap.size + 1, 2, none⟩ (.string q.pw)).setCell ⟨w.heap.size + 1, 3, none⟩ (.int .i64 q.hk)).setCell ⟨w.heap.size + 1, 4, none⟩ (.string q.hn)).setCell ⟨w.heap.size + 1, 5, none⟩ (.int .i64 q.ha)).setCell ⟨w.heap.size + 1, 6, none⟩ (.int .i64 q.po)).setCell ⟨w.heap.size + 1, 7, none⟩ (.slice none 0 0)).setCell ⟨w.heap.size + 1, 8, none⟩ (.string q.op)).setCell ⟨w.heap.size + 1, 9, none⟩ (.bool q.hq)).setCell ⟨w.heap.size + 1, 10, none⟩ (.string q.qu)).setCell ⟨w.heap.size + 1, 11, none⟩ (.bool q.hf)).setCell ⟨w.heap.size + 1, 12, none⟩ (.string q.fr))) := below_put13 HY.out.bw (by omega) _ _ _ _ _ _ _ _ _ _ _ _ _
  clear HY
  go_wp2
  refine bodyPost_ret (v := .agg #[(.string q.sc), (.string q.us), (.string q.pw), (.int .i64 q.hk), (.string q.hn), (.int .i64 q.ha), (.int .i64 q.po), (.slice none 0 0), (.string q.op), (.bool q.hq), (.string q.qu), (.bool q.hf), (.string q.fr)]) (by simp [results, Tryz.results97, go_sem, e0, e1, e2, e3, e4, e5, e6, e7, e8, e9, e10, e11, e12]) rfl ⟨none, 0, rfl, ?_, HFIN.out⟩
  rw [HE.out]
  exact ownS_nil _ _
 ·have hne : q.ps ≠ [] := by intro e; rw [e] at hn; exact h0 hn
  have hni : (0 : Int) < (n : Int) := by omega
  obtain ⟨b, off, rfl, hcl⟩ := hS.2.resolve_left hne
  have h0' := ownS_new V (w.heap.size + 1 + 1) (by rw [HZ.out]; exact Nat.le_refl _)
  have HQ : Hid (∀ j (h : j < q.ps.length), (V.alloc (.cells #[] 9)).cell? ⟨b, off + j, none⟩ = some (.string (mk q.ps[j]))) := by
   intro j hj
   have d : Below w.heap.size w (V.alloc (.cells #[] 9)) := HX.out.bw.alloc (by rw [HZ.out]; omega) _
   exact (d.cell (cell_in (hcl j hj))).trans (hcl j hj)
  have HBA : Hid (Below (w.heap.size + 1 + 1) V (V.alloc (.cells #[] 9))) := (Below.refl _ _).alloc (by rw [HZ.out]; exact Nat.le_refl _) _
  have HSZ : Hid (w.heap.size + 1 + 1 ≤ (V.alloc (.cells #[] 9)).heap.size) := by show _ ≤ _; simp; rw [HZ.out]; omega
  have HLN : Hid (([] : List (List UInt8)).length + q.ps.length ≤ 1000000000000) := by show _ ≤ _; simp; omega
  subst hn
  clear hS hl hcl h0 hne HZ
  unfold P.cells
  go_enter Tryz.func97, Tryz.ntmps97
  go_upto_region 1 with fail
  rw [← hV]
  clear hV
  obtain ⟨k0, k1, k2, k3, k4, k5, k6, k7, k8, k9, k10, k11, k12⟩ := Blk.cells13a HX.out.b1
  have fk := HX.out.b1.free
  have m7 : (V.alloc (.cells #[] 9)).cell? ⟨w.heap.size, 7, none⟩ = some (.slice (some ⟨b, off, none⟩) q.ps.length c) := (HX.out.b1.alloc _).cell 7
  go_upto_region 4 with (at_builtin; refine wpAppendStrs (V.alloc (.cells #[] 9)) rfl _ _ rfl (w.heap.size + 1 + 1) _ [] q.ps h0' rfl b off c rfl HQ.out HLN.out HSZ.out ?_; intro v1 w1 R b1; rw [List.nil_append] at R; obtain ⟨a2, c2, hv2, hc2⟩ := R.shape; subst hv2; have HD1 : Hid (Below (w.heap.size + 1 + 1) V w1) := HBA.out.trans b1; have HR : Hid (OwnS (w.heap.size + 1 + 1) (.slice a2 q.ps.length c2) q.ps w1) := R; clear R b1 HBA m7 k0 k1 k2 k3 k4 k5 k6 k7 k8 k9 k10 k11 k12 fk; obtain ⟨k0, k1, k2, k3, k4, k5, k6, k7, k8, k9, k10, k11, k12⟩ := Blk.cells13a (HX.out.b1.below HD1.out (by omega)); have fk := (HX.out.b1.below HD1.out (by omega)).free)
  obtain ⟨U, hU⟩ : ∃ U, U = w1.setCell ⟨w.heap.size, 7, none⟩ (.slice a2 q.ps.length c2) := ⟨_, rfl⟩
  have HY : Hid (Tw w #[(.string q.sc), (.string q.us), (.string q.pw), (.int .i64 q.hk), (.string q.hn), (.int .i64 q.ha), (.int .i64 q.po), (.slice a2 q.ps.length c2), (.string q.op), (.bool q.hq), (.string q.qu), (.bool q.hf), (.string q.fr)] #[(.string ⟨#[]⟩), (.string ⟨#[]⟩), (.string ⟨#[]⟩), (.int .i64 0), (.string ⟨#[]⟩), (.int .i64 0), (.int .i64 0), (.slice none 0 0), (.string ⟨#[]⟩), (.bool false), (.string ⟨#[]⟩), (.bool false), (.string ⟨#[]⟩)] U) := by
   have d1 : Below w.heap.size w w1 := HX.out.bw.trans (HD1.out.mono (by omega))
   rw [hU]
   refine ⟨?_, (HX.out.b2.below HD1.out (by omega)).other _ 7 _ (by omega), d1.setCell (p := ⟨w.heap.size, 7, none⟩) (Nat.le_refl _) _⟩
   have := (HX.out.b1.below HD1.out (by omega)).set 7 (.slice a2 q.ps.length c2)
   simpa using this
  have HO : Hid (OwnS (w.heap.size + 1 + 1) (.slice a2 q.ps.length c2) q.ps U) := by rw [hU]; exact HR.out.low (by omega) 7 _
  rw [← hU]
  clear hU HX HR HD1 k0 k1 k2 k3 k4 k5 k6 k7 k8 k9 k10 k11 k12 fk h0' HQ HSZ HLN
  obtain ⟨k0, k1, k2, k3, k4, k5, k6, k7, k8, k9, k10, k11, k12⟩ := Blk.cells13a HY.out.b1
  obtain ⟨e0, e1, e2, e3, e4, e5, e6, e7, e8, e9, e10, e11, e12⟩ := Blk.cells13a HY.out.b2
  have fr := HY.out.b2.free
  have HFIN : Hid (OwnS w.heap.size (.slice a2 q.ps.length c2) q.ps (((((((((((((U.setCell ⟨w.heap.size + 1, 0, none⟩ (.string q.sc)).setCell ⟨w.heap.size + 1, 1, none⟩ (.string q.us)).setCell ⟨w.heap.size + 1, 2, none⟩ (.string q.pw)).setCell ⟨w.heap.size + 1, 3, none⟩ (.int .i64 q.hk)).setCell ⟨w.heap.size + 1, 4, none⟩ (.string q.hn)).setCell ⟨w.heap.size + 1, 5, none⟩ (.int .i64 q.ha)).setCell ⟨w.heap.size + 1, 6, none⟩ (.int .i64 q.po)).setCell ⟨w.heap.size + 1, 7, none⟩ (.slice a2 q.ps.length c2)).setCell ⟨w.heap.size + 1, 8, none⟩ (.string q.op)).setCell ⟨w.heap.size + 1, 9, none⟩ (.bool q.hq)).setCell ⟨w.heap.size + 1, 10, none⟩ (.string q.qu)).setCell ⟨w.heap.size + 1, 11, none⟩ (.bool q.hf)).setCell ⟨w.heap.size + 1, 12, none⟩ (.string q.fr)) ∧ Below w.heap.size w (((((((((((((U.setCell ⟨w.heap.size + 1, 0, none⟩ (.string q.sc)).setCell ⟨w.heap.size + 1, 1, none⟩ (.string q.us)).setCell ⟨w.heap.size + 1, 2, none⟩ (.string q.pw)).setCell ⟨w.heap.size + 1, 3, none⟩ (.int .i64 q.hk)).setCell ⟨w.heap.size + 1, 4, none⟩ (.string q.hn)).setCell ⟨w.heap.size + 1, 5, none⟩ (.int .i64 q.ha)).setCell ⟨w.heap.size + 1, 6, none⟩ (.int .i64 q.po)).setCell ⟨w.heap.size + 1, 7, none⟩ (.slice a2 q.ps.length c2)).setCell ⟨w.heap.size + 1, 8, none⟩ (.string q.op)).setCell ⟨w.heap.size + 1, 9, none⟩ (.bool q.hq)).setCell ⟨w.heap.size + 1, 10, none⟩ (.string q.qu)).setCell ⟨w.heap.size + 1, 11, none⟩ (.bool q.hf)).setCell ⟨w.heap.size + 1, 12, none⟩ (.string q.fr))) := ⟨(OwnS.put13 HO.out (by omega)).mono (by omega), below_put13 HY.out.bw (by omega) _ _ _ _ _ _ _ _ _ _ _ _ _⟩
  clear HY HO
  go_wp2
  refine bodyPost_ret (v := .agg #[(.string q.sc), (.string q.us), (.string q.pw), (.int .i64 q.hk), (.string q.hn), (.int .i64 q.ha), (.int .i64 q.po), (.slice a2 q.ps.length c2), (.string q.op), (.bool q.hq), (.string q.qu), (.bool q.hf), (.string q.fr)]) (by simp [results, Tryz.results97, go_sem, e0, e1, e2, e3, e4, e5, e6, e7, e8, e9, e10, e11, e12]) rfl ⟨a2, c2, rfl, HFIN.out⟩
end Go.Proofs.YtnfhajhdpdidlaaGreatDoor
end
section
namespace Go.Proofs.YtnfhajhdpdidlaaGreatDoor
open Go.RowKit Go.Shelf
theorem l3Base (q : P) (a : Option Addr) (n c : Nat) (w : World) (hS : StrsOf a n q.ps w) (hl : n ≤ 1048576) :
  Calls Tryz.prog 61 #[.agg (q.cells (.slice a n c))] w fun e w' => ∃ a2 c2, e = .returned (.agg ((bsP q).cells (.slice a2 n c2))) ∧ OwnS w.heap.size (.slice a2 n c2) q.ps w' ∧ Below w.heap.size w w' := by
 have CA : Hid (∀ W, Below w.heap.size w W → Calls Tryz.prog 97 #[.agg #[(.string q.sc), (.string q.us), (.string q.pw), (.int .i64 q.hk), (.string q.hn), (.int .i64 q.ha), (.int .i64 q.po), (.slice a n c), (.string q.op), (.bool q.hq), (.string q.qu), (.bool q.hf), (.string q.fr)]] W fun e w' => ∃ a2 c2, e = .returned (.agg #[(.string q.sc), (.string q.us), (.string q.pw), (.int .i64 q.hk), (.string q.hn), (.int .i64 q.ha), (.int .i64 q.po), (.slice a2 n c2), (.string q.op), (.bool q.hq), (.string q.qu), (.bool q.hf), (.string q.fr)]) ∧ OwnS W.heap.size (.slice a2 n c2) q.ps w' ∧ Below W.heap.size W w') := fun W d => l3Copy q a n c W (hS.later d) hl
 have H0 : Hid (Tw w #[(.string q.sc), (.string q.us), (.string q.pw), (.int .i64 q.hk), (.string q.hn), (.int .i64 q.ha), (.int .i64 q.po), (.slice a n c), (.string q.op), (.bool q.hq), (.string q.qu), (.bool q.hf), (.string q.fr)] #[(.string ⟨#[]⟩), (.string ⟨#[]⟩), (.string ⟨#[]⟩), (.int .i64 0), (.string ⟨#[]⟩), (.int .i64 0), (.int .i64 0), (.slice none 0 0), (.string ⟨#[]⟩), (.bool false), (.string ⟨#[]⟩), (.bool false), (.string ⟨#[]⟩)] ((w.alloc (.cells #[(.string q.sc), (.string q.us), (.string q.pw), (.int .i64 q.hk), (.string q.hn), (.int .i64 q.ha), (.int .i64 q.po), (.slice a n c), (.string q.op), (.bool q.hq), (.string q.qu), (.bool q.hf), (.string q.fr)] 31)).alloc (.cells #[(.string ⟨#[]⟩), (.string ⟨#[]⟩), (.string ⟨#[]⟩), (.int .i64 0), (.string ⟨#[]⟩), (.int .i64 0), (.int .i64 0), (.slice none 0 0), (.string ⟨#[]⟩), (.bool false), (.string ⟨#[]⟩), (.bool false), (.string ⟨#[]⟩)] 31))) := Tw.start w _ _
 have HZ0 : Hid (((w.alloc (.cells #[(.string q.sc), (.string q.us), (.string q.pw), (.int .i64 q.hk), (.string q.hn), (.int .i64 q.ha), (.int .i64 q.po), (.slice a n c), (.string q.op), (.bool q.hq), (.string q.qu), (.bool q.hf), (.string q.fr)] 31)).alloc (.cells #[(.string ⟨#[]⟩), (.string ⟨#[]⟩), (.string ⟨#[]⟩), (.int .i64 0), (.string ⟨#[]⟩), (.int .i64 0), (.int .i64 0), (.slice none 0 0), (.string ⟨#[]⟩), (.bool false), (.string ⟨#[]⟩), (.bool false), (.string ⟨#[]⟩)] 31)).heap.size = w.heap.size + 1 + 1) := by show _ = _; simp
 clear hS hl
 unfold P.cells bsP
 go_enter Tryz.func61, Tryz.ntmps61
 go_wp2_with fail
 refine (CA.out _ H0.out.bw).mono ?_
 rintro e W1 ⟨a2, c2, rfl, o1, d1⟩
 have HX1 : Hid (Tw w #[(.string q.sc), (.string q.us), (.string q.pw), (.int .i64 q.hk), (.string q.hn), (.int .i64 q.ha), (.int .i64 q.po), (.slice a n c), (.string q.op), (.bool q.hq), (.string q.qu), (.bool q.hf), (.string q.fr)] #[(.string ⟨#[]⟩), (.string ⟨#[]⟩), (.string ⟨#[]⟩), (.int .i64 0), (.string ⟨#[]⟩), (.int .i64 0), (.int .i64 0), (.slice none 0 0), (.string ⟨#[]⟩), (.bool false), (.string ⟨#[]⟩), (.bool false), (.string ⟨#[]⟩)] W1) := H0.out.later d1
 have HO1 : Hid (OwnS (w.heap.size + 1 + 1) (.slice a2 n c2) q.ps W1) := by show OwnS _ _ _ _; rw [← HZ0.out]; exact o1
 clear d1 H0 CA o1 HZ0
 obtain ⟨V, hV⟩ : ∃ V, V = W1.alloc (.cells #[(.string q.sc), (.string q.us), (.string q.pw), (.int .i64 q.hk), (.string q.hn), (.int .i64 q.ha), (.int .i64 q.po), (.slice a2 n c2), (.string q.op), (.bool q.hq), (.string q.qu), (.bool q.hf), (.string q.fr)] 31) := ⟨_, rfl⟩
 have HBV : Hid (Below W1.heap.size W1 V) := by show Below _ _ _; rw [hV]; exact (Below.refl _ _).alloc (Nat.le_refl _) _
 have HX2 : Hid (Tw w #[(.string q.sc), (.string q.us), (.string q.pw), (.int .i64 q.hk), (.string q.hn), (.int .i64 q.ha), (.int .i64 q.po), (.slice a n c), (.string q.op), (.bool q.hq), (.string q.qu), (.bool q.hf), (.string q.fr)] #[(.string ⟨#[]⟩), (.string ⟨#[]⟩), (.string ⟨#[]⟩), (.int .i64 0), (.string ⟨#[]⟩), (.int .i64 0), (.int .i64 0), (.slice none 0 0), (.string ⟨#[]⟩), (.bool false), (.string ⟨#[]⟩), (.bool false), (.string ⟨#[]⟩)] V) := HX1.out.later HBV.out
 have HO2 : Hid (OwnS (w.heap.size + 1 + 1) (.slice a2 n c2) q.ps V) := HO1.out.later HBV.out
 have HG2 : Hid (Blk W1.heap.size #[(.string q.sc), (.string q.us), (.string q.pw), (.int .i64 q.hk), (.string q.hn), (.int .i64 q.ha), (.int .i64 q.po), (.slice a2 n c2), (.string q.op), (.bool q.hq), (.string q.qu), (.bool q.hf), (.string q.fr)] 31 V) := by show Blk _ _ _ _; rw [hV]; exact Blk.new W1 _ _
 have hgw : w.heap.size + 1 < W1.heap.size := HX1.out.b2.lt
 clear HX1 HO1 HBV
 go_upto_region 2 with fail
 rw [← hV]
 clear hV
 generalize W1.heap.size = g at *
 obtain ⟨k0, k1, k2, k3, k4, k5, k6, k7, k8, k9, k10, k11, k12⟩ := Blk.cells13a HG2.out
 have fk := HG2.out.free
 go_upto_region 4 with fail
 obtain ⟨U2, hU2⟩ : ∃ U, U = (V.setCell ⟨g, 11, none⟩ (.bool false)).setCell ⟨g, 12, none⟩ (.string ⟨#[]⟩) := ⟨_, rfl⟩
 have HX3 : Hid (Blk (w.heap.size + 1) #[(.string ⟨#[]⟩), (.string ⟨#[]⟩), (.string ⟨#[]⟩), (.int .i64 0), (.string ⟨#[]⟩), (.int .i64 0), (.int .i64 0), (.slice none 0 0), (.string ⟨#[]⟩), (.bool false), (.string ⟨#[]⟩), (.bool false), (.string ⟨#[]⟩)] 31 U2 ∧ Below w.heap.size w U2) := by
  rw [hU2]
  exact ⟨(HX2.out.b2.other g 11 _ (by omega)).other g 12 _ (by omega), (HX2.out.bw.setCell (p := ⟨g, 11, none⟩) (by show _ ≤ g; omega) _).setCell (p := ⟨g, 12, none⟩) (by show _ ≤ g; omega) _⟩
 have HG3 : Hid (Blk g #[(.string q.sc), (.string q.us), (.string q.pw), (.int .i64 q.hk), (.string q.hn), (.int .i64 q.ha), (.int .i64 q.po), (.slice a2 n c2), (.string q.op), (.bool q.hq), (.string q.qu), (.bool false), (.string ⟨#[]⟩)] 31 U2) := by rw [hU2]; have := (HG2.out.set 11 (.bool false)).set 12 (.string ⟨#[]⟩); show Blk _ _ _ _; simpa using this
 have HO3 : Hid (OwnS (w.heap.size + 1 + 1) (.slice a2 n c2) q.ps U2) := by rw [hU2]; exact (HO2.out.off HG2.out (by decide) 11 _).off (HG2.out.set 11 (.bool false)) (by decide) 12 _
 rw [← hU2]
 clear hU2 HX2 HO2 HG2 k0 k1 k2 k3 k4 k5 k6 k7 k8 k9 k10 k11 k12 fk
 obtain ⟨k0, k1, k2, k3, k4, k5, k6, k7, k8, k9, k10, k11, k12⟩ := Blk.cells13a HG3.out
 obtain ⟨e0, e1, e2, e3, e4, e5, e6, e7, e8, e9, e10, e11, e12⟩ := Blk.cells13a HX3.out.1
 have fr := HX3.out.1.free
 have HFIN : Hid (OwnS w.heap.size (.slice a2 n c2) q.ps (((((((((((((U2.setCell ⟨w.heap.size + 1, 0, none⟩ (.string q.sc)).setCell ⟨w.heap.size + 1, 1, none⟩ (.string q.us)).setCell ⟨w.heap.size + 1, 2, none⟩ (.string q.pw)).setCell ⟨w.heap.size + 1, 3, none⟩ (.int .i64 q.hk)).setCell ⟨w.heap.size + 1, 4, none⟩ (.string q.hn)).setCell ⟨w.heap.size + 1, 5, none⟩ (.int .i64 q.ha)).setCell ⟨w.heap.size + 1, 6, none⟩ (.int .i64 q.po)).setCell ⟨w.heap.size + 1, 7, none⟩ (.slice a2 n c2)).setCell ⟨w.heap.size + 1, 8, none⟩ (.string q.op)).setCell ⟨w.heap.size + 1, 9, none⟩ (.bool q.hq)).setCell ⟨w.heap.size + 1, 10, none⟩ (.string q.qu)).setCell ⟨w.heap.size + 1, 11, none⟩ (.bool false)).setCell ⟨w.heap.size + 1, 12, none⟩ (.string ⟨#[]⟩)) ∧ Below w.heap.size w (((((((((((((U2.setCell ⟨w.heap.size + 1, 0, none⟩ (.string q.sc)).setCell ⟨w.heap.size + 1, 1, none⟩ (.string q.us)).setCell ⟨w.heap.size + 1, 2, none⟩ (.string q.pw)).setCell ⟨w.heap.size + 1, 3, none⟩ (.int .i64 q.hk)).setCell ⟨w.heap.size + 1, 4, none⟩ (.string q.hn)).setCell ⟨w.heap.size + 1, 5, none⟩ (.int .i64 q.ha)).setCell ⟨w.heap.size + 1, 6, none⟩ (.int .i64 q.po)).setCell ⟨w.heap.size + 1, 7, none⟩ (.slice a2 n c2)).setCell ⟨w.heap.size + 1, 8, none⟩ (.string q.op)).setCell ⟨w.heap.size + 1, 9, none⟩ (.bool q.hq)).setCell ⟨w.heap.size + 1, 10, none⟩ (.string q.qu)).setCell ⟨w.heap.size + 1, 11, none⟩ (.bool false)).setCell ⟨w.heap.size + 1, 12, none⟩ (.string ⟨#[]⟩))) := ⟨(OwnS.put13 HO3.out (by omega)).mono (by omega), below_put13 HX3.out.2 (by omega) _ _ _ _ _ _ _ _ _ _ _ _ _⟩
 clear HX3 HO3 HG3
 go_wp2
 refine bodyPost_ret (v := .agg #[(.string q.sc), (.string q.us), (.string q.pw), (.int .i64 q.hk), (.string q.hn), (.int .i64 q.ha), (.int .i64 q.po), (.slice a2 n c2), (.string q.op), (.bool q.hq), (.string q.qu), (.bool false), (.string ⟨#[]⟩)]) (by simp [results, Tryz.results61, go_sem, e0, e1, e2, e3, e4, e5, e6, e7, e8, e9, e10, e11, e12]) rfl ⟨a2, c2, rfl, HFIN.out⟩
end Go.Proofs.YtnfhajhdpdidlaaGreatDoor
end
section
namespace Go.Proofs.YtnfhajhdpdidlaaGreatDoor
open Go.RowKit Go.Shelf
def schsL : List ByteArray := [⟨#[]⟩, ⟨#[72, 84, 84, 80]⟩, ⟨#[104, 116, 116, 112, 115]⟩, ⟨#[120, 32, 121]⟩, ⟨#[97, 98, 111, 117, 116]⟩]
theorem schsL_size (x : ByteArray) (h : x ∈ schsL) : x.size ≤ 5 := by
 simp only [schsL, List.mem_cons, List.not_mem_nil, or_false] at h
 rcases h with rfl | rfl | rfl | rfl | rfl <;> decide
def qsL : List ByteArray := [⟨#[]⟩, ⟨#[97, 35, 98]⟩, ⟨#[97, 32, 98]⟩, ⟨#[113]⟩]
theorem qsL_size (x : ByteArray) (h : x ∈ qsL) : x.size ≤ 5 := by
 simp only [qsL, List.mem_cons, List.not_mem_nil, or_false] at h
 rcases h with rfl | rfl | rfl | rfl <;> decide
def ussL : List ByteArray := [⟨#[]⟩, ⟨#[97, 58, 98]⟩, ⟨#[117]⟩, ⟨#[97, 64, 98]⟩]
theorem ussL_size (x : ByteArray) (h : x ∈ ussL) : x.size ≤ 5 := by
 simp only [ussL, List.mem_cons, List.not_mem_nil, or_false] at h
 rcases h with rfl | rfl | rfl | rfl <;> decide
def opsL : List ByteArray := [⟨#[]⟩, ⟨#[120]⟩, ⟨#[120, 32, 121]⟩, ⟨#[120, 63, 121]⟩]
theorem opsL_size (x : ByteArray) (h : x ∈ opsL) : x.size ≤ 5 := by
 simp only [opsL, List.mem_cons, List.not_mem_nil, or_false] at h
 rcases h with rfl | rfl | rfl | rfl <;> decide
def pcsL : List ByteArray := [⟨#[]⟩, ⟨#[46, 46]⟩, ⟨#[97]⟩, ⟨#[97, 47, 98]⟩, ⟨#[97, 32, 98]⟩, ⟨#[63]⟩]
theorem pcsL_size (x : ByteArray) (h : x ∈ pcsL) : x.size ≤ 5 := by
 simp only [pcsL, List.mem_cons, List.not_mem_nil, or_false] at h
 rcases h with rfl | rfl | rfl | rfl | rfl | rfl <;> decide
def prtsL : List Int := [-1, -2, 80, 443, 8080, 65535, 65536]
theorem prtsL_le (x : Int) (h : x ∈ prtsL) : x ≤ 65536 := by
 simp only [prtsL, List.mem_cons, List.not_mem_nil, or_false] at h
 omega
structure Fit2 (q : P) : Prop where
 make ::
 tot : q.tot ≤ 12000
 po : q.po ≤ 70000
theorem OwnS.grownR {B0 r : Nat} {v : Value} {ps : List (List UInt8)} {w w' : World} (h : OwnS B0 v ps w) (hg : w.grownBy w' (some r)) (hr : r < B0) : OwnS B0 v ps w' := by
 refine ⟨h.1, ?_⟩
 rcases h.2 with h1 | ⟨g, cap, cur, hv, hb, hk, rest⟩
 ·exact .inl h1
 ·refine .inr ⟨g, cap, cur, hv, hb, ?_, rest⟩
  have hlt : g < w.heap.size := by
   rcases Nat.lt_or_ge g w.heap.size with h1 | h1
   ·exact h1
   ·rw [Array.getElem?_eq_none h1] at hk; cases hk
  exact (hg.block g hlt (by simp; omega)).trans hk
structure Sa (B r : Nat) (w : World) (gu : Nat) (q : P) (a : Option Addr) (n c p : Nat) (W : World) : Prop where
 make ::
 fit : Fit2 q
 len : n = q.ps.length
 ub : Blk gu #[(.string q.sc), (.string q.us), (.string q.pw), (.int .i64 q.hk), (.string q.hn), (.int .i64 q.ha), (.int .i64 q.po), (.slice a n c), (.string q.op), (.bool q.hq), (.string q.qu), (.bool q.hf), (.string q.fr)] 31 W
 ow : OwnS (w.heap.size + 1) (.slice a n c) q.ps W
 rb : Blk w.heap.size #[(.string ⟨#[]⟩), (.string ⟨#[]⟩), (.string ⟨#[]⟩), (.int .i64 0), (.string ⟨#[]⟩), (.int .i64 0), (.int .i64 0), (.slice none 0 0), (.string ⟨#[]⟩), (.bool false), (.string ⟨#[]⟩), (.bool false), (.string ⟨#[]⟩)] 31 W
 rd : Rd B r p W
 gr : w.grownBy W (some r)
 lt : r < w.heap.size ∧ w.heap.size < gu
theorem Sa.step {B r gu n c p p' : Nat} {w W W' : World} {q : P} {a : Option Addr} (h : Sa B r w gu q a n c p W) (g : W.grownBy W' (some r)) (rd' : Rd B r p' W') : Sa B r w gu q a n c p' W' where
 fit := h.fit
 len := h.len
 ub := (g.block _ h.ub.lt (by have := h.lt; simp; omega)).trans h.ub
 ow := h.ow.grownR g (by have := h.lt; omega)
 rb := (g.block _ h.rb.lt (by have := h.lt; simp; omega)).trans h.rb
 rd := rd'
 gr := grown_trans h.gr g
 lt := h.lt
theorem Sa.alloc {B r gu n c p : Nat} {w W : World} {q : P} {a : Option Addr} (h : Sa B r w gu q a n c p W) (o : Obj) : Sa B r w gu q a n c p (W.alloc o) := h.step (World.grownBy_alloc W o _) (rd_more h.rd o)
theorem Sa.put {B r gu n c p : Nat} {w W : World} {q q' : P} {a : Option Addr} (h : Sa B r w gu q a n c p W) (j : Nat) (v : Value) (f : Fit2 q') (hps : q'.ps = q.ps) (e : (#[(.string q.sc), (.string q.us), (.string q.pw), (.int .i64 q.hk), (.string q.hn), (.int .i64 q.ha), (.int .i64 q.po), (.slice a n c), (.string q.op), (.bool q.hq), (.string q.qu), (.bool q.hf), (.string q.fr)] : Array Value).setIfInBounds j v = #[(.string q'.sc), (.string q'.us), (.string q'.pw), (.int .i64 q'.hk), (.string q'.hn), (.int .i64 q'.ha), (.int .i64 q'.po), (.slice a n c), (.string q'.op), (.bool q'.hq), (.string q'.qu), (.bool q'.hf), (.string q'.fr)]) : Sa B r w gu q' a n c p (W.setCell ⟨gu, j, none⟩ v) where
 fit := f
 len := by rw [hps]; exact h.len
 ub := by rw [← e]; exact h.ub.set j v
 ow := by rw [hps]; exact h.ow.off h.ub (by decide) j v
 rb := h.rb.other gu j v (by have := h.lt; omega)
 rd := h.rd.new j v (by have := h.lt; omega)
 gr := grown_new h.gr gu j v (by have := h.lt; omega)
 lt := h.lt
theorem tot_one (a : List (List UInt8)) (l : List UInt8) : tot (a ++ [l]) = tot a + l.length := by simp [tot]
theorem fit2_of (q q' : P) (h : Fit q) (d : Nat) (ht : q'.tot ≤ q.tot + d) (hd : d ≤ 500) (hp : q'.po ≤ 70000) : Fit2 q' := ⟨by have := h.tot; omega, hp⟩
theorem stepAppendStr {ops : Array Oper} {o : Oper} {a : Act} {K : Act → World → Prop} {Q : Exit → Act → World → Prop} {E : Prop} (w0 : World) (hgd : o.guard = none) (s x : Operand)
  (ho : o.op = .call { callee := .builtin .append, args := #[s, x], argTypes := #[24, 24] })
  (B : Nat) (v : Value) (ps : List (List UInt8)) (p : List UInt8) (b : ByteArray) (hb : b = mk p) (hI : OwnS B v ps w0) (hs : a.eval s = v) (g : Nat) (fr : Nat × Nat) (hg : w0.heap[g]? = some (.cells #[.string b] 9 fr))
  (m : Nat) (hx : a.eval x = .slice (some ⟨g, 0, none⟩) 1 m) (hlen : ps.length + 1 ≤ 1000000000000) (hB : B ≤ w0.heap.size)
  (h : ∀ v' w', OwnS B v' (ps ++ [p]) w' → Below B w0 w' → (∀ k A, Blk k A 31 w0 → Blk k A 31 w') → K (a.put o.dst v') w') : if Region.wanted o (yielded ops a.tmps) = true then Oper.wp Tryz.prog o a w0 K Q else E := by
 have hw : Region.wanted o (yielded ops a.tmps) = true := by simp [Region.wanted, hgd]
 rw [if_pos hw]
 obtain ⟨i0, hi, hz0, hz1, hz2⟩ := info_parts infoStr
 refine wp_append_own _ s x 24 ho B 9 i0 (.string ⟨#[]⟩) 1 16 Tryz.underlying24 hi hz0 hz1 hz2 rfl (by decide) v ps.length (ps.map fun p => Value.string (mk p)) hs hI ⟨g, 0, none⟩ 1 m [.string b] hx rfl ?c1 ?c2 ?c3 ?c4 hB ?_
 case c1 =>
  intro j u hj
  have hj' : j = 0 := by
   rcases j with _ | j
   ·rfl
   ·simp at hj
  subst hj'
  have e : u = .string b := by simpa using hj.symm
  rw [addr_add_at, Lib.cell_of_heap hg, e]; rfl
 case c2 => intro u hu; simp at hu; rw [hu]; rfl
 case c3 => unfold maxLen; omega
 case c4 => omega
 intro v' w1 hown hgrow _
 refine h v' w1 ?_ ?_ ?_
 ·unfold OwnS; rw [List.map_append, List.length_append]; rw [hb] at hown; exact hown
 ·exact (Below.refl B w0).grown hgrow hB (fun k hk => (World.ownsRow.lt hI k hk).1)
 ·intro k A hk
  refine (hgrow.block k hk.lt ?_).trans hk
  rcases hI.2 with ⟨hv, _⟩ | ⟨g', cap, cur, hv, _⟩
  ·rw [hv]; simp [Value.ownBlock]
  ·have hI' := hI
   rw [hv] at hI'
   have := hI'.ne hk (by decide)
   rw [hv]
   simp [Value.ownBlock]
   omega
theorem Sa.app {B r gu n c p n' c' : Nat} {w W W' : World} {q q' : P} {a a' : Option Addr} (h : Sa B r w gu q a n c p W) (x : List UInt8) (hq' : q' = { q with ps := q.ps ++ [x] }) (f : Fit2 q') (hn' : n' = n + 1) (o : OwnS (w.heap.size + 1) (.slice a' n' c') (q.ps ++ [x]) W') (d : Below (w.heap.size + 1) W W') (kp : Blk gu #[(.string q.sc), (.string q.us), (.string q.pw), (.int .i64 q.hk), (.string q.hn), (.int .i64 q.ha), (.int .i64 q.po), (.slice a n c), (.string q.op), (.bool q.hq), (.string q.qu), (.bool q.hf), (.string q.fr)] 31 W') :
  Sa B r w gu q' a' n' c' p (W'.setCell ⟨gu, 7, none⟩ (.slice a' n' c')) where
 fit := f
 len := by rw [hq', hn', h.len]; simp
 ub := by rw [hq']; exact kp.set 7 _
 ow := by rw [hq']; exact o.off kp (by decide) 7 _
 rb := (h.rb.below d (by omega)).other gu 7 _ (by have := h.lt; omega)
 rd := (h.rd.below d (by have := h.lt; omega)).new 7 _ (by have := h.lt; omega)
 gr := grown_new (grown_below h.gr (d.mono (by omega))) gu 7 _ (by have := h.lt; omega)
 lt := h.lt
end Go.Proofs.YtnfhajhdpdidlaaGreatDoor
end

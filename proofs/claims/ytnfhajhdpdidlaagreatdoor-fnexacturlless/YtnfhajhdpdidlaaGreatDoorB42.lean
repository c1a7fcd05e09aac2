/- impl.urlAgain: an address, read of what is written of it; impl.UrlOk. spec.UrlPut, impl.UrlPut, spec.PortOf, impl.PortOf: an address that is ok, written, and its port. -/
import Derived.Test.YtnfhajhdpdidlaaGreatDoorB22
import Derived.Test.YtnfhajhdpdidlaaGreatDoorB41
set_option linter.unusedVariables false
set_option linter.unusedSimpArgs false
set_option maxHeartbeats 4000000
set_option maxRecDepth 100000
section
namespace Go.Proofs.YtnfhajhdpdidlaaGreatDoor
open Go.RowKit Go.Shelf
theorem urlAgainNo (q : P) (a : Option Addr) (n c : Nat) (w : World) (hL : Lean1 w) (hS : StrsOf a n q.ps w) (hs : q.tot ≤ 1048576) (hpo : q.po ≤ 9223372036854775807) (b : Bool) (hb : b = true ↔ okP q) (hno : getB (writL q) = false) :
  Calls Tryz.prog 81 #[.agg (q.cells (.slice a n c))] w fun e w' => ∃ v, e = .returned (.tuple #[.agg ((getP (writL q)).cells v), .bool b]) ∧ OwnS w.heap.size v (getP (writL q)).ps w' ∧ Below w.heap.size w w' := by
 have hn : n = q.ps.length := hS.1
 obtain ⟨s, hsx⟩ : ∃ s, s = mk (writL q) := ⟨_, rfl⟩
 have hsl : s.size ≤ 1000000000 := by rw [hsx, mk_size]; have := writL_len q hpo; omega
 obtain ⟨r, hr⟩ : ∃ r, r = getP (writL q) := ⟨_, rfl⟩
 obtain ⟨ok, hok⟩ : ∃ ok, ok = getB (writL q) := ⟨_, rfl⟩
 have hrl : r.ps.length ≤ 1000 := by rw [hr]; exact getP_pl _
 have HOK : Hid (ok = false) := by show ok = false; rw [hok]; exact hno
 clear hno
 have HB : Hid (b = true ↔ ok = true ∧ r = q) := by show _ ↔ _; rw [hb, hok, hr]; rfl
 have CP : Hid (∀ W, Below w.heap.size w W → Calls Tryz.prog 58 #[.agg #[(.string q.sc), (.string q.us), (.string q.pw), (.int .i64 q.hk), (.string q.hn), (.int .i64 q.ha), (.int .i64 q.po), (.slice a n c), (.string q.op), (.bool q.hq), (.string q.qu), (.bool q.hf), (.string q.fr)]] W fun e w' => e = .returned (.string s) ∧ Below W.heap.size W w') := fun W d => by
  rw [hsx, hn]
  exact urlWrite q a c W (hL.below d).base (by rw [← hn]; exact hS.later d) (by omega) hpo
 have CG : Hid (∀ W, Below w.heap.size w W → Calls Tryz.prog 21 #[.string s] W fun e w' => ∃ v, e = .returned (.tuple #[.agg (r.cells v), .bool ok]) ∧ OwnS W.heap.size v r.ps w' ∧ Below W.heap.size W w') := fun W d => by
  have := implUrlGetL s W (hL.below d) hsl
  rw [hsx, list_mk, ← hr, ← hok, ← hsx] at this
  exact this
 have CE : Hid (∀ a1 n1 c1 W (x : Bool), (x = true ↔ r = q) → n1 ≤ 1000 → StrsOf a1 n1 r.ps W → Below w.heap.size w W → Calls Tryz.prog 98 #[.agg #[(.string r.sc), (.string r.us), (.string r.pw), (.int .i64 r.hk), (.string r.hn), (.int .i64 r.ha), (.int .i64 r.po), (.slice a1 n1 c1), (.string r.op), (.bool r.hq), (.string r.qu), (.bool r.hf), (.string r.fr)], .agg #[(.string q.sc), (.string q.us), (.string q.pw), (.int .i64 q.hk), (.string q.hn), (.int .i64 q.ha), (.int .i64 q.po), (.slice a n c), (.string q.op), (.bool q.hq), (.string q.qu), (.bool q.hf), (.string q.fr)]] W fun e w' => e = .returned (.bool x) ∧ Below W.heap.size W w') := fun a1 n1 c1 W x hx h1 hr d => urlEqual r q a1 a n1 n c1 c W hr (hS.later d) (by omega) (by have : q.ps.length ≤ q.tot := (by unfold P.tot; omega); omega) x hx
 have H0 : Hid (Tw w #[(.string q.sc), (.string q.us), (.string q.pw), (.int .i64 q.hk), (.string q.hn), (.int .i64 q.ha), (.int .i64 q.po), (.slice a n c), (.string q.op), (.bool q.hq), (.string q.qu), (.bool q.hf), (.string q.fr)] #[(.string ⟨#[]⟩), (.string ⟨#[]⟩), (.string ⟨#[]⟩), (.int .i64 0), (.string ⟨#[]⟩), (.int .i64 0), (.int .i64 0), (.slice none 0 0), (.string ⟨#[]⟩), (.bool false), (.string ⟨#[]⟩), (.bool false), (.string ⟨#[]⟩)] ((w.alloc (.cells #[(.string q.sc), (.string q.us), (.string q.pw), (.int .i64 q.hk), (.string q.hn), (.int .i64 q.ha), (.int .i64 q.po), (.slice a n c), (.string q.op), (.bool q.hq), (.string q.qu), (.bool q.hf), (.string q.fr)] 31)).alloc (.cells #[(.string ⟨#[]⟩), (.string ⟨#[]⟩), (.string ⟨#[]⟩), (.int .i64 0), (.string ⟨#[]⟩), (.int .i64 0), (.int .i64 0), (.slice none 0 0), (.string ⟨#[]⟩), (.bool false), (.string ⟨#[]⟩), (.bool false), (.string ⟨#[]⟩)] 31))) := Tw.start w _ _
 rw [← hr]
 clear hS hs hpo hb hn hsx hr hok hsl hL
 unfold P.cells
 go_enter Tryz.func81, Tryz.ntmps81
 go_wp2_with fail
 refine (CP.out _ H0.out.bw).mono ?_
 rintro e W1 ⟨rfl, d1⟩
 have HX1 : Hid (Tw w #[(.string q.sc), (.string q.us), (.string q.pw), (.int .i64 q.hk), (.string q.hn), (.int .i64 q.ha), (.int .i64 q.po), (.slice a n c), (.string q.op), (.bool q.hq), (.string q.qu), (.bool q.hf), (.string q.fr)] #[(.string ⟨#[]⟩), (.string ⟨#[]⟩), (.string ⟨#[]⟩), (.int .i64 0), (.string ⟨#[]⟩), (.int .i64 0), (.int .i64 0), (.slice none 0 0), (.string ⟨#[]⟩), (.bool false), (.string ⟨#[]⟩), (.bool false), (.string ⟨#[]⟩)] W1) := H0.out.later d1
 clear d1 H0 CP
 go_wp2_with fail
 refine (CG.out _ HX1.out.bw).mono ?_
 rintro e W2 ⟨v2, rfl, o2, d2⟩
 obtain ⟨a2, c2, hv2, hc2, s2⟩ := o2.strs
 obtain ⟨n2, hn2⟩ : ∃ n2, n2 = r.ps.length := ⟨_, rfl⟩
 rw [← hn2] at hv2 s2 hrl
 subst hv2
 have HX2 : Hid (Tw w #[(.string q.sc), (.string q.us), (.string q.pw), (.int .i64 q.hk), (.string q.hn), (.int .i64 q.ha), (.int .i64 q.po), (.slice a n c), (.string q.op), (.bool q.hq), (.string q.qu), (.bool q.hf), (.string q.fr)] #[(.string ⟨#[]⟩), (.string ⟨#[]⟩), (.string ⟨#[]⟩), (.int .i64 0), (.string ⟨#[]⟩), (.int .i64 0), (.int .i64 0), (.slice none 0 0), (.string ⟨#[]⟩), (.bool false), (.string ⟨#[]⟩), (.bool false), (.string ⟨#[]⟩)] W2) := HX1.out.later d2
 have HO2 : Hid (OwnS W1.heap.size (.slice a2 n2 c2) r.ps W2) := o2
 have HS2 : Hid (StrsOf a2 n2 r.ps W2) := s2
 have HW1 : Hid (w.heap.size + 1 < W1.heap.size) := HX1.out.b2.lt
 clear o2 d2 s2 hc2 HX1 CG hn2
 unfold P.cells
 obtain ⟨V, hV⟩ : ∃ V, V = W2.alloc (.cells #[(.string r.sc), (.string r.us), (.string r.pw), (.int .i64 r.hk), (.string r.hn), (.int .i64 r.ha), (.int .i64 r.po), (.slice a2 n2 c2), (.string r.op), (.bool r.hq), (.string r.qu), (.bool r.hf), (.string r.fr)] 31) := ⟨_, rfl⟩
 have HBV : Hid (Below W2.heap.size W2 V) := by show Below _ _ _; rw [hV]; exact (Below.refl _ _).alloc (Nat.le_refl _) _
 have HXV : Hid (Tw w #[(.string q.sc), (.string q.us), (.string q.pw), (.int .i64 q.hk), (.string q.hn), (.int .i64 q.ha), (.int .i64 q.po), (.slice a n c), (.string q.op), (.bool q.hq), (.string q.qu), (.bool q.hf), (.string q.fr)] #[(.string ⟨#[]⟩), (.string ⟨#[]⟩), (.string ⟨#[]⟩), (.int .i64 0), (.string ⟨#[]⟩), (.int .i64 0), (.int .i64 0), (.slice none 0 0), (.string ⟨#[]⟩), (.bool false), (.string ⟨#[]⟩), (.bool false), (.string ⟨#[]⟩)] V) := HX2.out.later HBV.out
 have HRV : Hid (Blk W2.heap.size #[(.string r.sc), (.string r.us), (.string r.pw), (.int .i64 r.hk), (.string r.hn), (.int .i64 r.ha), (.int .i64 r.po), (.slice a2 n2 c2), (.string r.op), (.bool r.hq), (.string r.qu), (.bool r.hf), (.string r.fr)] 31 V) := by show Blk _ _ _ _; rw [hV]; exact Blk.new W2 _ _
 have HOV : Hid (OwnS W1.heap.size (.slice a2 n2 c2) r.ps V) := HO2.out.later HBV.out
 cases ok with
 | false =>
  have HF : Hid (b = false) := by
   show b = false
   cases b with
   | false => rfl
   | true => exact absurd (HB.out.1 rfl).1 (by decide)
  clear CE HB HS2 HX2 HO2 hrl
  obtain ⟨k0, k1, k2, k3, k4, k5, k6, k7, k8, k9, k10, k11, k12⟩ := Blk.cells13a HXV.out.b2
  obtain ⟨j0, j1, j2, j3, j4, j5, j6, j7, j8, j9, j10, j11, j12⟩ := Blk.cells13a HRV.out
  have f0 := HXV.out.b2.free
  have HFIN : Hid (OwnS w.heap.size (.slice a2 n2 c2) r.ps (((((((((((((V.setCell ⟨w.heap.size + 1, 0, none⟩ (.string r.sc)).setCell ⟨w.heap.size + 1, 1, none⟩ (.string r.us)).setCell ⟨w.heap.size + 1, 2, none⟩ (.string r.pw)).setCell ⟨w.heap.size + 1, 3, none⟩ (.int .i64 r.hk)).setCell ⟨w.heap.size + 1, 4, none⟩ (.string r.hn)).setCell ⟨w.heap.size + 1, 5, none⟩ (.int .i64 r.ha)).setCell ⟨w.heap.size + 1, 6, none⟩ (.int .i64 r.po)).setCell ⟨w.heap.size + 1, 7, none⟩ (.slice a2 n2 c2)).setCell ⟨w.heap.size + 1, 8, none⟩ (.string r.op)).setCell ⟨w.heap.size + 1, 9, none⟩ (.bool r.hq)).setCell ⟨w.heap.size + 1, 10, none⟩ (.string r.qu)).setCell ⟨w.heap.size + 1, 11, none⟩ (.bool r.hf)).setCell ⟨w.heap.size + 1, 12, none⟩ (.string r.fr)) ∧ Below w.heap.size w (((((((((((((V.setCell ⟨w.heap.size + 1, 0, none⟩ (.string r.sc)).setCell ⟨w.heap.size + 1, 1, none⟩ (.string r.us)).setCell ⟨w.heap.size + 1, 2, none⟩ (.string r.pw)).setCell ⟨w.heap.size + 1, 3, none⟩ (.int .i64 r.hk)).setCell ⟨w.heap.size + 1, 4, none⟩ (.string r.hn)).setCell ⟨w.heap.size + 1, 5, none⟩ (.int .i64 r.ha)).setCell ⟨w.heap.size + 1, 6, none⟩ (.int .i64 r.po)).setCell ⟨w.heap.size + 1, 7, none⟩ (.slice a2 n2 c2)).setCell ⟨w.heap.size + 1, 8, none⟩ (.string r.op)).setCell ⟨w.heap.size + 1, 9, none⟩ (.bool r.hq)).setCell ⟨w.heap.size + 1, 10, none⟩ (.string r.qu)).setCell ⟨w.heap.size + 1, 11, none⟩ (.bool r.hf)).setCell ⟨w.heap.size + 1, 12, none⟩ (.string r.fr)) ∧ Blk (w.heap.size + 1) #[(.string r.sc), (.string r.us), (.string r.pw), (.int .i64 r.hk), (.string r.hn), (.int .i64 r.ha), (.int .i64 r.po), (.slice a2 n2 c2), (.string r.op), (.bool r.hq), (.string r.qu), (.bool r.hf), (.string r.fr)] 31 (((((((((((((V.setCell ⟨w.heap.size + 1, 0, none⟩ (.string r.sc)).setCell ⟨w.heap.size + 1, 1, none⟩ (.string r.us)).setCell ⟨w.heap.size + 1, 2, none⟩ (.string r.pw)).setCell ⟨w.heap.size + 1, 3, none⟩ (.int .i64 r.hk)).setCell ⟨w.heap.size + 1, 4, none⟩ (.string r.hn)).setCell ⟨w.heap.size + 1, 5, none⟩ (.int .i64 r.ha)).setCell ⟨w.heap.size + 1, 6, none⟩ (.int .i64 r.po)).setCell ⟨w.heap.size + 1, 7, none⟩ (.slice a2 n2 c2)).setCell ⟨w.heap.size + 1, 8, none⟩ (.string r.op)).setCell ⟨w.heap.size + 1, 9, none⟩ (.bool r.hq)).setCell ⟨w.heap.size + 1, 10, none⟩ (.string r.qu)).setCell ⟨w.heap.size + 1, 11, none⟩ (.bool r.hf)).setCell ⟨w.heap.size + 1, 12, none⟩ (.string r.fr))) :=
   ⟨((OwnS.put13 HOV.out HW1.out).mono (by have := HW1.out; omega)), below_put13 HXV.out.bw (by omega) _ _ _ _ _ _ _ _ _ _ _ _ _, Blk.put13 HXV.out.b2 _ _ _ _ _ _ _ _ _ _ _ _ _⟩
  go_upto_region 3 with fail
  rw [← hV]
  clear hV HBV HXV HRV HOV
  go_region_with fail
  all_goals
   obtain ⟨U, hU⟩ : ∃ U, U = (((((((((((((V.setCell ⟨w.heap.size + 1, 0, none⟩ (.string r.sc)).setCell ⟨w.heap.size + 1, 1, none⟩ (.string r.us)).setCell ⟨w.heap.size + 1, 2, none⟩ (.string r.pw)).setCell ⟨w.heap.size + 1, 3, none⟩ (.int .i64 r.hk)).setCell ⟨w.heap.size + 1, 4, none⟩ (.string r.hn)).setCell ⟨w.heap.size + 1, 5, none⟩ (.int .i64 r.ha)).setCell ⟨w.heap.size + 1, 6, none⟩ (.int .i64 r.po)).setCell ⟨w.heap.size + 1, 7, none⟩ (.slice a2 n2 c2)).setCell ⟨w.heap.size + 1, 8, none⟩ (.string r.op)).setCell ⟨w.heap.size + 1, 9, none⟩ (.bool r.hq)).setCell ⟨w.heap.size + 1, 10, none⟩ (.string r.qu)).setCell ⟨w.heap.size + 1, 11, none⟩ (.bool r.hf)).setCell ⟨w.heap.size + 1, 12, none⟩ (.string r.fr)) := ⟨_, rfl⟩
   rw [← hU] at HFIN ⊢
   clear hU
   obtain ⟨z0, z1, z2, z3, z4, z5, z6, z7, z8, z9, z10, z11, z12⟩ := Blk.cells13a HFIN.out.2.2.drew
   clear k0 k1 k2 k3 k4 k5 k6 k7 k8 k9 k10 k11 k12 j0 j1 j2 j3 j4 j5 j6 j7 j8 j9 j10 j11 j12
   go_wp2
   refine bodyPost_ret (v := .tuple #[.agg #[(.string r.sc), (.string r.us), (.string r.pw), (.int .i64 r.hk), (.string r.hn), (.int .i64 r.ha), (.int .i64 r.po), (.slice a2 n2 c2), (.string r.op), (.bool r.hq), (.string r.qu), (.bool r.hf), (.string r.fr)], .bool false]) (by simp [results, Tryz.results81, go_sem, z0, z1, z2, z3, z4, z5, z6, z7, z8, z9, z10, z11, z12]) rfl ?_
   exact ⟨_, by rw [HF.out], HFIN.out.1, HFIN.out.2.1.drew⟩
 | true => exact absurd HOK.out (by decide)
theorem urlAgain (q : P) (a : Option Addr) (n c : Nat) (w : World) (hL : Lean1 w) (hS : StrsOf a n q.ps w) (hs : q.tot ≤ 1048576) (hpo : q.po ≤ 9223372036854775807) (b : Bool) (hb : b = true ↔ okP q) :
  Calls Tryz.prog 81 #[.agg (q.cells (.slice a n c))] w fun e w' => ∃ v, e = .returned (.tuple #[.agg ((getP (writL q)).cells v), .bool b]) ∧ OwnS w.heap.size v (getP (writL q)).ps w' ∧ Below w.heap.size w w' := by
 by_cases hno : getB (writL q) = false
 ·exact urlAgainNo q a n c w hL hS hs hpo b hb hno
 ·have hy : getB (writL q) = true := by simpa using hno
  have hn : n = q.ps.length := hS.1
  have hsl : (mk (writL q)).size ≤ 1000000000 := by rw [mk_size]; have := writL_len q hpo; omega
  refine urlAgainX q (getP (writL q)) (mk (writL q)) a n c w (getP_pl _) b (fun W d => ?_) (fun W d => ?_) (fun a1 n1 c1 W h1 hr d => ?_)
  ·rw [hn]
   exact urlWrite q a c W (hL.below d).base (by rw [← hn]; exact hS.later d) (by omega) hpo
  ·have := implUrlGetL (mk (writL q)) W (hL.below d) hsl
   rw [list_mk, hy] at this
   exact this
  ·exact urlEqual (getP (writL q)) q a1 a n1 n c1 c W hr (hS.later d) (by omega) (by have : q.ps.length ≤ q.tot := (by unfold P.tot; omega); omega) b (by rw [hb]; unfold okP; rw [hy]; simp)
theorem implUrlOk (q : P) (a : Option Addr) (n c : Nat) (w : World) (hL : Lean1 w) (hS : StrsOf a n q.ps w) (hs : q.tot ≤ 1048576) (hpo : q.po ≤ 9223372036854775807) (b : Bool) (hb : b = true ↔ okP q) :
  Calls Tryz.prog 43 #[.agg (q.cells (.slice a n c))] w fun e w' => e = .returned (.bool b) ∧ Below w.heap.size w w' := by
 obtain ⟨r, hr⟩ : ∃ r, r = getP (writL q) := ⟨_, rfl⟩
 have CA : Hid (∀ A : Obj, Calls Tryz.prog 81 #[.agg #[(.string q.sc), (.string q.us), (.string q.pw), (.int .i64 q.hk), (.string q.hn), (.int .i64 q.ha), (.int .i64 q.po), (.slice a n c), (.string q.op), (.bool q.hq), (.string q.qu), (.bool q.hf), (.string q.fr)]] (w.alloc A) fun e w' => ∃ a2 n2 c2, e = .returned (.tuple #[.agg #[(.string r.sc), (.string r.us), (.string r.pw), (.int .i64 r.hk), (.string r.hn), (.int .i64 r.ha), (.int .i64 r.po), (.slice a2 n2 c2), (.string r.op), (.bool r.hq), (.string r.qu), (.bool r.hf), (.string r.fr)], .bool b]) ∧ Below w.heap.size w w') := fun A => by
  have d : Below w.heap.size w (w.alloc A) := (Below.refl _ w).alloc (Nat.le_refl _) A
  refine (urlAgain q a n c (w.alloc A) (hL.below d) (hS.later d) hs hpo b hb).mono ?_
  rintro e w' ⟨v, rfl, o, d2⟩
  rw [← hr] at o ⊢
  obtain ⟨a2, c2, hv2, hc2, s2⟩ := o.strs
  subst hv2
  exact ⟨a2, _, c2, rfl, d.trans (d2.mono d.size)⟩
 clear hL hS hs hpo hb hr
 unfold P.cells
 go_enter Tryz.func43, Tryz.ntmps43
 go_wp2_with fail
 refine (CA.out _).mono ?_
 rintro e W1 ⟨a2, n2, c2, rfl, d1⟩
 have HB : Hid (∀ A : Obj, Below w.heap.size w (W1.alloc A)) := fun A => d1.alloc d1.size A
 clear CA d1
 go_wp2
 go_ret
 exact ⟨rfl, HB.out _⟩
end Go.Proofs.YtnfhajhdpdidlaaGreatDoor
end
section
namespace Go.Proofs.YtnfhajhdpdidlaaGreatDoor
open Go.RowKit Go.Shelf
theorem implPortOf (q : P) (a : Option Addr) (n c : Nat) (w : World) (hL : Lean1 w) (hS : StrsOf a n q.ps w) (hs : q.tot ≤ 1048576) (hpo : q.po ≤ 9223372036854775807) (b : Bool) (hb : b = true ↔ okP q) :
  Calls Tryz.prog 15 #[.agg (q.cells (.slice a n c))] w fun e w' => e = .returned (.int .i64 (if b = true then (if q.po < 0 then ownZ q.sc else q.po) else -1)) ∧ Below w.heap.size w w' := by
 have hn : n = q.ps.length := hS.1
 have H0 : Hid (Wp w q (.slice a n c) (w.alloc (.cells #[(.string q.sc), (.string q.us), (.string q.pw), (.int .i64 q.hk), (.string q.hn), (.int .i64 q.ha), (.int .i64 q.po), (.slice a n c), (.string q.op), (.bool q.hq), (.string q.qu), (.bool q.hf), (.string q.fr)] 31))) := Wp.start w q _
 have CO : Hid (∀ W, Below w.heap.size w W → Calls Tryz.prog 43 #[.agg #[(.string q.sc), (.string q.us), (.string q.pw), (.int .i64 q.hk), (.string q.hn), (.int .i64 q.ha), (.int .i64 q.po), (.slice a n c), (.string q.op), (.bool q.hq), (.string q.qu), (.bool q.hf), (.string q.fr)]] W fun e w' => e = .returned (.bool b) ∧ Below W.heap.size W w') := fun W d => implUrlOk q a n c W (hL.below d) (hS.later d) hs hpo b hb
 have CP : Hid (∀ W, Calls Tryz.prog 44 #[.string q.sc] W fun e w' => e = .returned (.int .i64 (ownZ q.sc)) ∧ w' = W) := fun W => schemePort q.sc W
 clear hS hs hpo hb hn hL
 unfold P.cells
 cases b with
 | false =>
  rw [if_neg (by decide)]
  go_enter Tryz.func15, Tryz.ntmps15
  go_wp2_with fail
  refine (CO.out _ H0.out.bw).mono ?_
  rintro e W1 ⟨rfl, d1⟩
  have HX1 : Hid (Wp w q (.slice a n c) W1) := H0.out.later d1
  go_wp2
  go_ret
  exact ⟨rfl, HX1.out.bw⟩
 | true =>
  rw [if_pos rfl]
  by_cases hp : q.po < 0
  ·rw [if_pos hp]
   go_enter Tryz.func15, Tryz.ntmps15
   go_wp2_with fail
   refine (CO.out _ H0.out.bw).mono ?_
   rintro e W1 ⟨rfl, d1⟩
   have HX1 : Hid (Wp w q (.slice a n c) W1) := H0.out.later d1
   clear d1 H0 CO
   obtain ⟨k0, k1, k2, k3, k4, k5, k6, k7, k8, k9, k10, k11, k12⟩ := Blk.cells13 (q := q) HX1.out.bx
   go_wp2_with fail
   refine (CP.out _).mono ?_
   rintro e W2 ⟨rfl, hW⟩
   have hW2 := hW.symm
   subst hW2
   go_wp2
   go_ret
   exact ⟨rfl, HX1.out.bw⟩
  ·rw [if_neg hp]
   go_enter Tryz.func15, Tryz.ntmps15
   go_wp2_with fail
   refine (CO.out _ H0.out.bw).mono ?_
   rintro e W1 ⟨rfl, d1⟩
   have HX1 : Hid (Wp w q (.slice a n c) W1) := H0.out.later d1
   clear d1 H0 CO
   obtain ⟨k0, k1, k2, k3, k4, k5, k6, k7, k8, k9, k10, k11, k12⟩ := Blk.cells13 (q := q) HX1.out.bx
   go_wp2
   go_ret
   exact ⟨rfl, HX1.out.bw⟩
end Go.Proofs.YtnfhajhdpdidlaaGreatDoor
end

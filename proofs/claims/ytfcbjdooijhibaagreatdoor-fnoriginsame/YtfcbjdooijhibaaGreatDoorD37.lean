/- spec.UrlOk: whether an address is ok. impl.urlAgain: an address, read of what is written of it; impl.UrlOk. -/
import Derived.Test.YtfcbjdooijhibaaGreatDoorD32
import Derived.Test.YtfcbjdooijhibaaGreatDoorD36
import Derived.Test.YtfcbjdooijhibaaGreatDoorD21
set_option linter.unusedVariables false
set_option linter.unusedSimpArgs false
set_option maxHeartbeats 4000000
set_option maxRecDepth 100000
section
namespace Go.Proofs.YtfcbjdooijhibaaGreatDoor
open Go.RowKit Go.Shelf
def okP (q : P) : Prop := getB (writL q) = true ∧ getP (writL q) = q
theorem getP_pl (l : List UInt8) : (getP l).ps.length ≤ 1000 := by
 unfold getP getO
 split
 ·cases schP P.zero (trimL l) with
  | none => exact Nat.zero_le _
  | some r =>
   show ((if _ then some r else none : Option P).getD P.zero).ps.length ≤ 1000
   split
   ·rename_i h1; show r.ps.length ≤ 1000; omega
   ·exact Nat.zero_le _
 ·exact Nat.zero_le _
theorem list_mk (l : List UInt8) : (mk l).data.toList = l := by simp [mk]
theorem specUrlOk (q : P) (a : Option Addr) (n c : Nat) (w : World) (hS : StrsOf a n q.ps w) (hs : q.tot ≤ 1048576) (hpo : q.po ≤ 9223372036854775807) (b : Bool) (hb : b = true ↔ okP q) :
  Calls Tryz.prog 12 #[.agg (q.cells (.slice a n c))] w fun e w' => e = .returned (.bool b) ∧ Below w.heap.size w w' := by
 have hn : n = q.ps.length := hS.1
 obtain ⟨s, hsx⟩ : ∃ s, s = mk (writL q) := ⟨_, rfl⟩
 have hsl : s.size ≤ 1000000000 := by rw [hsx, mk_size]; have := writL_len q hpo; omega
 obtain ⟨r, hr⟩ : ∃ r, r = getP (writL q) := ⟨_, rfl⟩
 obtain ⟨ok, hok⟩ : ∃ ok, ok = getB (writL q) := ⟨_, rfl⟩
 have hrl : r.ps.length ≤ 1000 := by rw [hr]; exact getP_pl _
 have HB : Hid (b = true ↔ ok = true ∧ r = q) := by show _ ↔ _; rw [hb, hok, hr]; rfl
 have CP : Hid (∀ W, Below w.heap.size w W → Calls Tryz.prog 36 #[.agg #[(.string q.sc), (.string q.us), (.string q.pw), (.int .i64 q.hk), (.string q.hn), (.int .i64 q.ha), (.int .i64 q.po), (.slice a n c), (.string q.op), (.bool q.hq), (.string q.qu), (.bool q.hf), (.string q.fr)]] W fun e w' => e = .returned (.string s) ∧ Below W.heap.size W w') := fun W d => by
  rw [hsx, hn]
  exact l3Put q a c W (by rw [← hn]; exact hS.later d) (by omega) hpo (fun h W => l1DecL q.po W h hpo)
 have CG : Hid (∀ W, Calls Tryz.prog 35 #[.string s] W fun e w' => ∃ v, e = .returned (.tuple #[.agg (r.cells v), .bool ok]) ∧ OwnS W.heap.size v r.ps w' ∧ Below W.heap.size W w') := fun W => by
  have := specUrlGetL s W hsl
  rw [hsx, list_mk, ← hr, ← hok, ← hsx] at this
  exact this
 have CE : Hid (∀ a1 n1 c1 W (x : Bool), (x = true ↔ r = q) → n1 ≤ 1000 → StrsOf a1 n1 r.ps W → Below w.heap.size w W → Calls Tryz.prog 33 #[.agg #[(.string r.sc), (.string r.us), (.string r.pw), (.int .i64 r.hk), (.string r.hn), (.int .i64 r.ha), (.int .i64 r.po), (.slice a1 n1 c1), (.string r.op), (.bool r.hq), (.string r.qu), (.bool r.hf), (.string r.fr)], .agg #[(.string q.sc), (.string q.us), (.string q.pw), (.int .i64 q.hk), (.string q.hn), (.int .i64 q.ha), (.int .i64 q.po), (.slice a n c), (.string q.op), (.bool q.hq), (.string q.qu), (.bool q.hf), (.string q.fr)]] W fun e w' => e = .returned (.bool x) ∧ Below W.heap.size W w') := fun a1 n1 c1 W x hx h1 hr d => l3Equal r q a1 a n1 n c1 c W hr (hS.later d) (by omega) (by have : q.ps.length ≤ q.tot := (by unfold P.tot; omega); omega) x hx
 have H0 : Hid (Wp w q (.slice a n c) (w.alloc (.cells #[(.string q.sc), (.string q.us), (.string q.pw), (.int .i64 q.hk), (.string q.hn), (.int .i64 q.ha), (.int .i64 q.po), (.slice a n c), (.string q.op), (.bool q.hq), (.string q.qu), (.bool q.hf), (.string q.fr)] 27))) := Wp.start w q _
 clear hS hs hpo hb hn hsx hr hok hsl
 unfold P.cells
 go_enter Tryz.func12, Tryz.ntmps12
 go_wp2_with fail
 refine (CP.out _ H0.out.bw).mono ?_
 rintro e W1 ⟨rfl, d1⟩
 have HX1 : Hid (Wp w q (.slice a n c) W1) := H0.out.later d1
 clear d1 H0 CP
 go_wp2_with fail
 refine (CG.out _).mono ?_
 rintro e W2 ⟨v2, rfl, o2, d2⟩
 obtain ⟨a2, c2, hv2, hc2, s2⟩ := o2.strs
 obtain ⟨n2, hn2⟩ : ∃ n2, n2 = r.ps.length := ⟨_, rfl⟩
 rw [← hn2] at hv2 s2 hrl
 subst hv2
 have HX2 : Hid (Wp w q (.slice a n c) W2) := HX1.out.later d2
 have HS2 : Hid (StrsOf a2 n2 r.ps W2) := s2
 clear o2 d2 s2 hc2 HX1 CG hn2
 unfold P.cells
 obtain ⟨V, hV⟩ : ∃ V, V = W2.alloc (.cells #[(.string r.sc), (.string r.us), (.string r.pw), (.int .i64 r.hk), (.string r.hn), (.int .i64 r.ha), (.int .i64 r.po), (.slice a2 n2 c2), (.string r.op), (.bool r.hq), (.string r.qu), (.bool r.hf), (.string r.fr)] 27) := ⟨_, rfl⟩
 have HBV : Hid (Below W2.heap.size W2 V) := by show Below _ _ _; rw [hV]; exact (Below.refl _ _).alloc (Nat.le_refl _) _
 have HXV : Hid (Wp w q (.slice a n c) V) := HX2.out.later HBV.out
 have HRV : Hid (Blk W2.heap.size #[(.string r.sc), (.string r.us), (.string r.pw), (.int .i64 r.hk), (.string r.hn), (.int .i64 r.ha), (.int .i64 r.po), (.slice a2 n2 c2), (.string r.op), (.bool r.hq), (.string r.qu), (.bool r.hf), (.string r.fr)] 27 V) := by show Blk _ _ _ _; rw [hV]; exact Blk.new W2 _ _
 cases ok with
 | false =>
  have HF : Hid (b = false) := by
   show b = false
   cases b with
   | false => rfl
   | true => exact absurd (HB.out.1 rfl).1 (by decide)
  clear CE HB HS2
  have HV : Hid (Below w.heap.size w (W2.alloc (.cells #[(.string r.sc), (.string r.us), (.string r.pw), (.int .i64 r.hk), (.string r.hn), (.int .i64 r.ha), (.int .i64 r.po), (.slice a2 n2 c2), (.string r.op), (.bool r.hq), (.string r.qu), (.bool r.hf), (.string r.fr)] 27))) := by have := HXV.out.bw; rw [hV] at this; exact this
  clear HXV HRV HBV hV
  go_wp2
  go_ret
  exact ⟨by rw [HF.out]; rfl, HV.out⟩
 | true =>
  obtain ⟨x, hx⟩ : ∃ x : Bool, (x = true ↔ r = q) := by
   by_cases h : r = q
   ·exact ⟨true, by simp [h]⟩
   ·exact ⟨false, by simp [h]⟩
  have HF : Hid (b = x) := by
   show b = x
   rw [Bool.eq_iff_iff, HB.out, hx]; simp
  have CE2 : Hid (Calls Tryz.prog 33 #[.agg #[(.string r.sc), (.string r.us), (.string r.pw), (.int .i64 r.hk), (.string r.hn), (.int .i64 r.ha), (.int .i64 r.po), (.slice a2 n2 c2), (.string r.op), (.bool r.hq), (.string r.qu), (.bool r.hf), (.string r.fr)], .agg #[(.string q.sc), (.string q.us), (.string q.pw), (.int .i64 q.hk), (.string q.hn), (.int .i64 q.ha), (.int .i64 q.po), (.slice a n c), (.string q.op), (.bool q.hq), (.string q.qu), (.bool q.hf), (.string q.fr)]] V fun e w' => e = .returned (.bool x) ∧ Below V.heap.size V w') := CE.out a2 n2 c2 V x hx hrl (HS2.out.later HBV.out) HXV.out.bw
  clear CE HB hx HS2 hrl HX2
  have HXB : Hid (Below w.heap.size w V) := HXV.out.bw
  obtain ⟨k0, k1, k2, k3, k4, k5, k6, k7, k8, k9, k10, k11, k12⟩ := HXV.out.cells
  obtain ⟨j0, j1, j2, j3, j4, j5, j6, j7, j8, j9, j10, j11, j12⟩ := Blk.cells13a HRV.out
  rw [hV] at CE2 HXB k0 k1 k2 k3 k4 k5 k6 k7 k8 k9 k10 k11 k12 j0 j1 j2 j3 j4 j5 j6 j7 j8 j9 j10 j11 j12
  clear HXV HRV HBV hV
  go_wp2_with fail
  refine CE2.out.mono ?_
  rintro e W3 ⟨rfl, d3⟩
  have HB3 : Hid (Below w.heap.size w W3) := HXB.out.trans (d3.mono HXB.out.size)
  clear d3 HXB CE2 k0 k1 k2 k3 k4 k5 k6 k7 k8 k9 k10 k11 k12 j0 j1 j2 j3 j4 j5 j6 j7 j8 j9 j10 j11 j12
  go_wp2
  go_ret
  exact ⟨by rw [HF.out]; rfl, HB3.out⟩
end Go.Proofs.YtfcbjdooijhibaaGreatDoor
end
section
namespace Go.Proofs.YtfcbjdooijhibaaGreatDoor
open Go.RowKit Go.Shelf
theorem urlAgainNo (q : P) (a : Option Addr) (n c : Nat) (w : World) (hL : Lean1 w) (hS : StrsOf a n q.ps w) (hs : q.tot ≤ 1048576) (hpo : q.po ≤ 9223372036854775807) (b : Bool) (hb : b = true ↔ okP q) (hno : getB (writL q) = false) :
  Calls Tryz.prog 38 #[.agg (q.cells (.slice a n c))] w fun e w' => ∃ v, e = .returned (.tuple #[.agg ((getP (writL q)).cells v), .bool b]) ∧ OwnS w.heap.size v (getP (writL q)).ps w' ∧ Below w.heap.size w w' := by
 have hn : n = q.ps.length := hS.1
 obtain ⟨s, hsx⟩ : ∃ s, s = mk (writL q) := ⟨_, rfl⟩
 have hsl : s.size ≤ 1000000000 := by rw [hsx, mk_size]; have := writL_len q hpo; omega
 obtain ⟨r, hr⟩ : ∃ r, r = getP (writL q) := ⟨_, rfl⟩
 obtain ⟨ok, hok⟩ : ∃ ok, ok = getB (writL q) := ⟨_, rfl⟩
 have hrl : r.ps.length ≤ 1000 := by rw [hr]; exact getP_pl _
 have HOK : Hid (ok = false) := by show ok = false; rw [hok]; exact hno
 clear hno
 have HB : Hid (b = true ↔ ok = true ∧ r = q) := by show _ ↔ _; rw [hb, hok, hr]; rfl
 have CP : Hid (∀ W, Below w.heap.size w W → Calls Tryz.prog 39 #[.agg #[(.string q.sc), (.string q.us), (.string q.pw), (.int .i64 q.hk), (.string q.hn), (.int .i64 q.ha), (.int .i64 q.po), (.slice a n c), (.string q.op), (.bool q.hq), (.string q.qu), (.bool q.hf), (.string q.fr)]] W fun e w' => e = .returned (.string s) ∧ Below W.heap.size W w') := fun W d => by
  rw [hsx, hn]
  exact urlWrite q a c W (hL.below d).base (by rw [← hn]; exact hS.later d) (by omega) hpo
 have CG : Hid (∀ W, Below w.heap.size w W → Calls Tryz.prog 67 #[.string s] W fun e w' => ∃ v, e = .returned (.tuple #[.agg (r.cells v), .bool ok]) ∧ OwnS W.heap.size v r.ps w' ∧ Below W.heap.size W w') := fun W d => by
  have := implUrlGetL s W (hL.below d) hsl
  rw [hsx, list_mk, ← hr, ← hok, ← hsx] at this
  exact this
 have CE : Hid (∀ a1 n1 c1 W (x : Bool), (x = true ↔ r = q) → n1 ≤ 1000 → StrsOf a1 n1 r.ps W → Below w.heap.size w W → Calls Tryz.prog 32 #[.agg #[(.string r.sc), (.string r.us), (.string r.pw), (.int .i64 r.hk), (.string r.hn), (.int .i64 r.ha), (.int .i64 r.po), (.slice a1 n1 c1), (.string r.op), (.bool r.hq), (.string r.qu), (.bool r.hf), (.string r.fr)], .agg #[(.string q.sc), (.string q.us), (.string q.pw), (.int .i64 q.hk), (.string q.hn), (.int .i64 q.ha), (.int .i64 q.po), (.slice a n c), (.string q.op), (.bool q.hq), (.string q.qu), (.bool q.hf), (.string q.fr)]] W fun e w' => e = .returned (.bool x) ∧ Below W.heap.size W w') := fun a1 n1 c1 W x hx h1 hr d => urlEqual r q a1 a n1 n c1 c W hr (hS.later d) (by omega) (by have : q.ps.length ≤ q.tot := (by unfold P.tot; omega); omega) x hx
 have H0 : Hid (Tw w #[(.string q.sc), (.string q.us), (.string q.pw), (.int .i64 q.hk), (.string q.hn), (.int .i64 q.ha), (.int .i64 q.po), (.slice a n c), (.string q.op), (.bool q.hq), (.string q.qu), (.bool q.hf), (.string q.fr)] #[(.string ⟨#[]⟩), (.string ⟨#[]⟩), (.string ⟨#[]⟩), (.int .i64 0), (.string ⟨#[]⟩), (.int .i64 0), (.int .i64 0), (.slice none 0 0), (.string ⟨#[]⟩), (.bool false), (.string ⟨#[]⟩), (.bool false), (.string ⟨#[]⟩)] ((w.alloc (.cells #[(.string q.sc), (.string q.us), (.string q.pw), (.int .i64 q.hk), (.string q.hn), (.int .i64 q.ha), (.int .i64 q.po), (.slice a n c), (.string q.op), (.bool q.hq), (.string q.qu), (.bool q.hf), (.string q.fr)] 27)).alloc (.cells #[(.string ⟨#[]⟩), (.string ⟨#[]⟩), (.string ⟨#[]⟩), (.int .i64 0), (.string ⟨#[]⟩), (.int .i64 0), (.int .i64 0), (.slice none 0 0), (.string ⟨#[]⟩), (.bool false), (.string ⟨#[]⟩), (.bool false), (.string ⟨#[]⟩)] 27))) := Tw.start w _ _
 rw [← hr]
 clear hS hs hpo hb hn hsx hr hok hsl hL
 unfold P.cells
 go_enter Tryz.func38, Tryz.ntmps38
 go_wp2_with fail
 refine (CP.out _ H0.out.bw).mono ?_
 rintro e W1 ⟨rfl, d1⟩
 have HX1 : Hid (Tw w #[(.string q.sc), (.string q.us), (.string q.pw), (.int .i64 q.hk), (.string q.hn), (.int .i64 q.ha), (.int .i64 q.po), (.slice a n c), (.string q.op), (.bool q.hq), (.string q.qu), (.bool q.hf), (.string q.fr)] #[(.string ⟨#[]⟩), (.string ⟨#[]⟩), (.string ⟨#[]⟩), (.int .i64 0), (.string ⟨#[]⟩), (.int .i64 0), (.int .i64 0), (.slice none 0 0), (.string ⟨#[]⟩), (.bool false), (.string ⟨#[]⟩), (.bool false), (.string ⟨#[]⟩)] W1) := H0.out.later d1
 clear d1 H0 CP
 go_wp2_with fail
 refine (CG.out _ HX1.out.bw).mono ?_
 rintro e W2 ⟨v2, rfl, o2, d2⟩
 obtain ⟨a2, c2, hv2, hc2, s2⟩ := o2.strs
 obtain ⟨n2, hn2⟩ : ∃ n2, n2 = r.ps.length := ⟨_, rfl⟩
 rw [← hn2] at hv2 s2 hrl
 subst hv2
 have HX2 : Hid (Tw w #[(.string q.sc), (.string q.us), (.string q.pw), (.int .i64 q.hk), (.string q.hn), (.int .i64 q.ha), (.int .i64 q.po), (.slice a n c), (.string q.op), (.bool q.hq), (.string q.qu), (.bool q.hf), (.string q.fr)] #[(.string ⟨#[]⟩), (.string ⟨#[]⟩), (.string ⟨#[]⟩), (.int .i64 0), (.string ⟨#[]⟩), (.int .i64 0), (.int .i64 0), (.slice none 0 0), (.string ⟨#[]⟩), (.bool false), (.string ⟨#[]⟩), (.bool false), (.string ⟨#[]⟩)] W2) := HX1.out.later d2
 have HO2 : Hid (OwnS W1.heap.size (.slice a2 n2 c2) r.ps W2) := o2
 have HS2 : Hid (StrsOf a2 n2 r.ps W2) := s2
 have HW1 : Hid (w.heap.size + 1 < W1.heap.size) := HX1.out.b2.lt
 clear o2 d2 s2 hc2 HX1 CG hn2
 unfold P.cells
 obtain ⟨V, hV⟩ : ∃ V, V = W2.alloc (.cells #[(.string r.sc), (.string r.us), (.string r.pw), (.int .i64 r.hk), (.string r.hn), (.int .i64 r.ha), (.int .i64 r.po), (.slice a2 n2 c2), (.string r.op), (.bool r.hq), (.string r.qu), (.bool r.hf), (.string r.fr)] 27) := ⟨_, rfl⟩
 have HBV : Hid (Below W2.heap.size W2 V) := by show Below _ _ _; rw [hV]; exact (Below.refl _ _).alloc (Nat.le_refl _) _
 have HXV : Hid (Tw w #[(.string q.sc), (.string q.us), (.string q.pw), (.int .i64 q.hk), (.string q.hn), (.int .i64 q.ha), (.int .i64 q.po), (.slice a n c), (.string q.op), (.bool q.hq), (.string q.qu), (.bool q.hf), (.string q.fr)] #[(.string ⟨#[]⟩), (.string ⟨#[]⟩), (.string ⟨#[]⟩), (.int .i64 0), (.string ⟨#[]⟩), (.int .i64 0), (.int .i64 0), (.slice none 0 0), (.string ⟨#[]⟩), (.bool false), (.string ⟨#[]⟩), (.bool false), (.string ⟨#[]⟩)] V) := HX2.out.later HBV.out
 have HRV : Hid (Blk W2.heap.size #[(.string r.sc), (.string r.us), (.string r.pw), (.int .i64 r.hk), (.string r.hn), (.int .i64 r.ha), (.int .i64 r.po), (.slice a2 n2 c2), (.string r.op), (.bool r.hq), (.string r.qu), (.bool r.hf), (.string r.fr)] 27 V) := by show Blk _ _ _ _; rw [hV]; exact Blk.new W2 _ _
 have HOV : Hid (OwnS W1.heap.size (.slice a2 n2 c2) r.ps V) := HO2.out.later HBV.out
 cases ok with
 | false =>
  have HF : Hid (b = false) := by
   show b = false
   cases b with
   | false => rfl
   | true => exact absurd (HB.out.1 rfl).1 (by decide)
  clear CE HB HS2 HX2 HO2 hrl
  obtain ⟨k0, k1, k2, k3, k4, k5, k6, k7, k8, k9, k10, k11, k12⟩ := Blk.cells13a HXV.out.b2
  obtain ⟨j0, j1, j2, j3, j4, j5, j6, j7, j8, j9, j10, j11, j12⟩ := Blk.cells13a HRV.out
  have f0 := HXV.out.b2.free
  have HFIN : Hid (OwnS w.heap.size (.slice a2 n2 c2) r.ps (((((((((((((V.setCell ⟨w.heap.size + 1, 0, none⟩ (.string r.sc)).setCell ⟨w.heap.size + 1, 1, none⟩ (.string r.us)).setCell ⟨w.heap.size + 1, 2, none⟩ (.string r.pw)).setCell ⟨w.heap.size + 1, 3, none⟩ (.int .i64 r.hk)).setCell ⟨w.heap.size + 1, 4, none⟩ (.string r.hn)).setCell ⟨w.heap.size + 1, 5, none⟩ (.int .i64 r.ha)).setCell ⟨w.heap.size + 1, 6, none⟩ (.int .i64 r.po)).setCell ⟨w.heap.size + 1, 7, none⟩ (.slice a2 n2 c2)).setCell ⟨w.heap.size + 1, 8, none⟩ (.string r.op)).setCell ⟨w.heap.size + 1, 9, none⟩ (.bool r.hq)).setCell ⟨w.heap.size + 1, 10, none⟩ (.string r.qu)).setCell ⟨w.heap.size + 1, 11, none⟩ (.bool r.hf)).setCell ⟨w.heap.size + 1, 12, none⟩ (.string r.fr)) ∧ Below w.heap.size w (((((((((((((V.setCell ⟨w.heap.size + 1, 0, none⟩ (.string r.sc)).setCell ⟨w.heap.size + 1, 1, none⟩ (.string r.us)).setCell ⟨w.heap.size + 1, 2, none⟩ (.string r.pw)).setCell ⟨w.heap.size + 1, 3, none⟩ (.int .i64 r.hk)).setCell ⟨w.heap.size + 1, 4, none⟩ (.string r.hn)).setCell ⟨w.heap.size + 1, 5, none⟩ (.int .i64 r.ha)).setCell ⟨w.heap.size + 1, 6, none⟩ (.int .i64 r.po)).setCell ⟨w.heap.size + 1, 7, none⟩ (.slice a2 n2 c2)).setCell ⟨w.heap.size + 1, 8, none⟩ (.string r.op)).setCell ⟨w.heap.size + 1, 9, none⟩ (.bool r.hq)).setCell ⟨w.heap.size + 1, 10, none⟩ (.string r.qu)).setCell ⟨w.heap.size + 1, 11, none⟩ (.bool r.hf)).setCell ⟨w.heap.size + 1, 12, none⟩ (.string r.fr)) ∧ Blk (w.heap.size + 1) #[(.string r.sc), (.string r.us), (.string r.pw), (.int .i64 r.hk), (.string r.hn), (.int .i64 r.ha), (.int .i64 r.po), (.slice a2 n2 c2), (.string r.op), (.bool r.hq), (.string r.qu), (.bool r.hf), (.string r.fr)] 27 (((((((((((((V.setCell ⟨w.heap.size + 1, 0, none⟩ (.string r.sc)).setCell ⟨w.heap.size + 1, 1, none⟩ (.string r.us)).setCell ⟨w.heap.size + 1, 2, none⟩ (.string r.pw)).setCell ⟨w.heap.size + 1, 3, none⟩ (.int .i64 r.hk)).setCell ⟨w.heap.size + 1, 4, none⟩ (.string r.hn)).setCell ⟨w.heap.size + 1, 5, none⟩ (.int .i64 r.ha)).setCell ⟨w.heap.size + 1, 6, none⟩ (.int .i64 r.po)).setCell ⟨w.heap.size + 1, 7, none⟩ (.slice a2 n2 c2)).setCell ⟨w.heap.size + 1, 8, none⟩ (.string r.op)).setCell ⟨w.heap.size + 1, 9, none⟩ (.bool r.hq)).setCell ⟨w.heap.size + 1, 10, none⟩ (.string r.qu)).setCell ⟨w.heap.size + 1, 11, none⟩ (.bool r.hf)).setCell ⟨w.heap.size + 1, 12, none⟩ (.string r.fr))) :=
   ⟨((OwnS.put13 HOV.out HW1.out).mono (by have := HW1.out; omega)), below_put13 HXV.out.bw (by omega) _ _ _ _ _ _ _ _ _ _ _ _ _, Blk.put13 HXV.out.b2 _ _ _ _ _ _ _ _ _ _ _ _ _⟩
  go_upto_region 3 with fail
  rw [← hV]
  clear hV HBV HXV HRV HOV
  go_region_with fail
  all_goals
   obtain ⟨U, hU⟩ : ∃ U, U = (((((((((((((V.setCell ⟨w.heap.size + 1, 0, none⟩ (.string r.sc)).setCell ⟨w.heap.size + 1, 1, none⟩ (.string r.us)).setCell ⟨w.heap.size + 1, 2, none⟩ (.string r.pw)).setCell ⟨w.heap.size + 1, 3, none⟩ (.int .i64 r.hk)).setCell ⟨w.heap.size + 1, 4, none⟩ (.string r.hn)).setCell ⟨w.heap.size + 1, 5, none⟩ (.int .i64 r.ha)).setCell ⟨w.heap.size + 1, 6, none⟩ (.int .i64 r.po)).setCell ⟨w.heap.size + 1, 7, none⟩ (.slice a2 n2 c2)).setCell ⟨w.heap.size + 1, 8, none⟩ (.string r.op)).setCell ⟨w.heap.size + 1, 9, none⟩ (.bool r.hq)).setCell ⟨w.heap.size + 1, 10, none⟩ (.string r.qu)).setCell ⟨w.heap.size + 1, 11, none⟩ (.bool r.hf)).setCell ⟨w.heap.size + 1, 12, none⟩ (.string r.fr)) := ⟨_, rfl⟩
   rw [← hU] at HFIN ⊢
   clear hU
   obtain ⟨z0, z1, z2, z3, z4, z5, z6, z7, z8, z9, z10, z11, z12⟩ := Blk.cells13a HFIN.out.2.2.drew
   clear k0 k1 k2 k3 k4 k5 k6 k7 k8 k9 k10 k11 k12 j0 j1 j2 j3 j4 j5 j6 j7 j8 j9 j10 j11 j12
   go_wp2
   refine bodyPost_ret (v := .tuple #[.agg #[(.string r.sc), (.string r.us), (.string r.pw), (.int .i64 r.hk), (.string r.hn), (.int .i64 r.ha), (.int .i64 r.po), (.slice a2 n2 c2), (.string r.op), (.bool r.hq), (.string r.qu), (.bool r.hf), (.string r.fr)], .bool false]) (by simp [results, Tryz.results38, go_sem, z0, z1, z2, z3, z4, z5, z6, z7, z8, z9, z10, z11, z12]) rfl ?_
   exact ⟨_, by rw [HF.out], HFIN.out.1, HFIN.out.2.1.drew⟩
 | true => exact absurd HOK.out (by decide)
theorem urlAgain (q : P) (a : Option Addr) (n c : Nat) (w : World) (hL : Lean1 w) (hS : StrsOf a n q.ps w) (hs : q.tot ≤ 1048576) (hpo : q.po ≤ 9223372036854775807) (b : Bool) (hb : b = true ↔ okP q) :
  Calls Tryz.prog 38 #[.agg (q.cells (.slice a n c))] w fun e w' => ∃ v, e = .returned (.tuple #[.agg ((getP (writL q)).cells v), .bool b]) ∧ OwnS w.heap.size v (getP (writL q)).ps w' ∧ Below w.heap.size w w' := by
 by_cases hno : getB (writL q) = false
 ·exact urlAgainNo q a n c w hL hS hs hpo b hb hno
 ·have hy : getB (writL q) = true := by simpa using hno
  have hn : n = q.ps.length := hS.1
  have hsl : (mk (writL q)).size ≤ 1000000000 := by rw [mk_size]; have := writL_len q hpo; omega
  refine urlAgainX q (getP (writL q)) (mk (writL q)) a n c w (getP_pl _) b (fun W d => ?_) (fun W d => ?_) (fun a1 n1 c1 W h1 hr d => ?_)
  ·rw [hn]
   exact urlWrite q a c W (hL.below d).base (by rw [← hn]; exact hS.later d) (by omega) hpo
  ·have := implUrlGetL (mk (writL q)) W (hL.below d) hsl
   rw [list_mk, hy] at this
   exact this
  ·exact urlEqual (getP (writL q)) q a1 a n1 n c1 c W hr (hS.later d) (by omega) (by have : q.ps.length ≤ q.tot := (by unfold P.tot; omega); omega) b (by rw [hb]; unfold okP; rw [hy]; simp)
theorem implUrlOk (q : P) (a : Option Addr) (n c : Nat) (w : World) (hL : Lean1 w) (hS : StrsOf a n q.ps w) (hs : q.tot ≤ 1048576) (hpo : q.po ≤ 9223372036854775807) (b : Bool) (hb : b = true ↔ okP q) :
  Calls Tryz.prog 27 #[.agg (q.cells (.slice a n c))] w fun e w' => e = .returned (.bool b) ∧ Below w.heap.size w w' := by
 obtain ⟨r, hr⟩ : ∃ r, r = getP (writL q) := ⟨_, rfl⟩
 have CA : Hid (∀ A : Obj, Calls Tryz.prog 38 #[.agg #[(.string q.sc), (.string q.us), (.string q.pw), (.int .i64 q.hk), (.string q.hn), (.int .i64 q.ha), (.int .i64 q.po), (.slice a n c), (.string q.op), (.bool q.hq), (.string q.qu), (.bool q.hf), (.string q.fr)]] (w.alloc A) fun e w' => ∃ a2 n2 c2, e = .returned (.tuple #[.agg #[(.string r.sc), (.string r.us), (.string r.pw), (.int .i64 r.hk), (.string r.hn), (.int .i64 r.ha), (.int .i64 r.po), (.slice a2 n2 c2), (.string r.op), (.bool r.hq), (.string r.qu), (.bool r.hf), (.string r.fr)], .bool b]) ∧ Below w.heap.size w w') := fun A => by
  have d : Below w.heap.size w (w.alloc A) := (Below.refl _ w).alloc (Nat.le_refl _) A
  refine (urlAgain q a n c (w.alloc A) (hL.below d) (hS.later d) hs hpo b hb).mono ?_
  rintro e w' ⟨v, rfl, o, d2⟩
  rw [← hr] at o ⊢
  obtain ⟨a2, c2, hv2, hc2, s2⟩ := o.strs
  subst hv2
  exact ⟨a2, _, c2, rfl, d.trans (d2.mono d.size)⟩
 clear hL hS hs hpo hb hr
 unfold P.cells
 go_enter Tryz.func27, Tryz.ntmps27
 go_wp2_with fail
 refine (CA.out _).mono ?_
 rintro e W1 ⟨a2, n2, c2, rfl, d1⟩
 have HB : Hid (∀ A : Obj, Below w.heap.size w (W1.alloc A)) := fun A => d1.alloc d1.size A
 clear CA d1
 go_wp2
 go_ret
 exact ⟨rfl, HB.out _⟩
end Go.Proofs.YtfcbjdooijhibaaGreatDoor
end

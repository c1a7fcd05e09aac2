/- spec.l11Url: an address that is ok is drawn. spec.l11Near: one of a few addresses is drawn. impl.UrlBase: an address that is ok, without its end. spec.l3Copy: an address with a path of its own. -/
import Derived.Test.YtfcbjdooijhibaaGreatDoorCFnOriginSame06
import Derived.Test.YtfcbjdooijhibaaGreatDoorCFnOriginSame02
set_option linter.unusedVariables false
set_option linter.unusedSimpArgs false
set_option maxHeartbeats 8000000
set_option maxRecDepth 100000
section
namespace Go.Proofs.YtfcbjdooijhibaaGreatDoor
open Go.RowKit Go.Shelf
theorem fit_get (l : List UInt8) : Fit (getP l) := by
 unfold getP
 cases h : getO l with
 | none => exact fit_zero
 | some q =>
  unfold getO at h
  split at h
  ·rename_i hl
   rw [Option.bind_eq_some_iff] at h
   obtain ⟨r, hr, h⟩ := h
   split at h
   ·have e : r = q := by simpa using h
    subst e
    exact fit_sch _ _ _ (by have := trim_len l; omega) fit_zero hr
   ·cases h
  ·cases h
theorem rd_put13 {B r p g : Nat} {W : World} (h : Rd B r p W) (hg : r < g) (v0 v1 v2 v3 v4 v5 v6 v7 v8 v9 v10 v11 v12 : Value) : Rd B r p (((((((((((((W.setCell ⟨g, 0, none⟩ v0).setCell ⟨g, 1, none⟩ v1).setCell ⟨g, 2, none⟩ v2).setCell ⟨g, 3, none⟩ v3).setCell ⟨g, 4, none⟩ v4).setCell ⟨g, 5, none⟩ v5).setCell ⟨g, 6, none⟩ v6).setCell ⟨g, 7, none⟩ v7).setCell ⟨g, 8, none⟩ v8).setCell ⟨g, 9, none⟩ v9).setCell ⟨g, 10, none⟩ v10).setCell ⟨g, 11, none⟩ v11).setCell ⟨g, 12, none⟩ v12) :=
 (((((((((((((h.new 0 v0 hg).new 1 v1 hg).new 2 v2 hg).new 3 v3 hg).new 4 v4 hg).new 5 v5 hg).new 6 v6 hg).new 7 v7 hg).new 8 v8 hg).new 9 v9 hg).new 10 v10 hg).new 11 v11 hg).new 12 v12 hg)
theorem grown_put13 {w W : World} {r g : Nat} (h : w.grownBy W (some r)) (hg : w.heap.size ≤ g) (v0 v1 v2 v3 v4 v5 v6 v7 v8 v9 v10 v11 v12 : Value) : w.grownBy (((((((((((((W.setCell ⟨g, 0, none⟩ v0).setCell ⟨g, 1, none⟩ v1).setCell ⟨g, 2, none⟩ v2).setCell ⟨g, 3, none⟩ v3).setCell ⟨g, 4, none⟩ v4).setCell ⟨g, 5, none⟩ v5).setCell ⟨g, 6, none⟩ v6).setCell ⟨g, 7, none⟩ v7).setCell ⟨g, 8, none⟩ v8).setCell ⟨g, 9, none⟩ v9).setCell ⟨g, 10, none⟩ v10).setCell ⟨g, 11, none⟩ v11).setCell ⟨g, 12, none⟩ v12) (some r) :=
 (grown_new (grown_new (grown_new (grown_new (grown_new (grown_new (grown_new (grown_new (grown_new (grown_new (grown_new (grown_new (grown_new h g 0 v0 hg) g 1 v1 hg) g 2 v2 hg) g 3 v3 hg) g 4 v4 hg) g 5 v5 hg) g 6 v6 hg) g 7 v7 hg) g 8 v8 hg) g 9 v9 hg) g 10 v10 hg) g 11 v11 hg) g 12 v12 hg)
def homesL : List ByteArray := [⟨#[104, 116, 116, 112, 58, 47, 47, 97, 46, 99, 111, 109, 47]⟩, ⟨#[104, 116, 116, 112, 58, 47, 47, 97, 46, 99, 111, 109, 47, 120, 35, 102]⟩, ⟨#[104, 116, 116, 112, 115, 58, 47, 47, 98, 46, 97, 46, 99, 111, 109, 47, 121, 63, 113]⟩, ⟨#[97, 98, 111, 117, 116, 58, 98, 108, 97, 110, 107]⟩]
theorem homesL_size (x : ByteArray) (h : x ∈ homesL) : x.size ≤ 200 := by
 simp only [homesL, List.mem_cons, List.not_mem_nil, or_false] at h
 rcases h with rfl | rfl | rfl | rfl <;> decide
theorem getSome (x : ByteArray) (W : World) (hx : x.size ≤ 200) :
  Calls Tryz.prog 35 #[.string x] W fun e w' => ∃ (q : P) (ok : Bool) (a : Option Addr) (n c : Nat), e = .returned (.tuple #[.agg #[(.string q.sc), (.string q.us), (.string q.pw), (.int .i64 q.hk), (.string q.hn), (.int .i64 q.ha), (.int .i64 q.po), (.slice a n c), (.string q.op), (.bool q.hq), (.string q.qu), (.bool q.hf), (.string q.fr)], .bool ok]) ∧ Hid (Fit q ∧ n = q.ps.length) ∧ OwnS W.heap.size (.slice a n c) q.ps w' ∧ Below W.heap.size W w' := by
 refine (specUrlGet x W (by omega)).mono ?_
 rintro e w' ⟨v, rfl, o, d⟩
 obtain ⟨a, c, hv, hc, s⟩ := o.strs
 subst hv
 exact ⟨getP x.data.toList, _, a, _, c, rfl, ⟨fit_get _, rfl⟩, o, d⟩
theorem okSome (q : P) (a : Option Addr) (n c : Nat) (W : World) (hf : Fit q ∧ n = q.ps.length) (o : StrsOf a n q.ps W) :
  Calls Tryz.prog 12 #[.agg #[(.string q.sc), (.string q.us), (.string q.pw), (.int .i64 q.hk), (.string q.hn), (.int .i64 q.ha), (.int .i64 q.po), (.slice a n c), (.string q.op), (.bool q.hq), (.string q.qu), (.bool q.hf), (.string q.fr)]] W fun e w' => ∃ b : Bool, e = .returned (.bool b) ∧ Below W.heap.size W w' := by
 obtain ⟨b, hb⟩ : ∃ b : Bool, b = true ↔ okP q := by
  by_cases h : okP q
  ·exact ⟨true, by simp [h]⟩
  ·exact ⟨false, by simp [h]⟩
 refine (specUrlOk q a n c W o (by have := hf.1.tot; omega) (by have := hf.1.p1; omega) b hb).mono ?_
 rintro e w' ⟨rfl, d⟩
 exact ⟨b, rfl, d⟩
theorem l11Url (B r p : Nat) (w : World) (hp : p ≤ 1000) (h : Rd B r p w) :
  Calls Tryz.prog 78 #[.pointer (some ⟨r, 0, none⟩)] w fun e w' => ∃ (q : P) (a : Option Addr) (n c p' : Nat), e = .returned (.agg #[(.string q.sc), (.string q.us), (.string q.pw), (.int .i64 q.hk), (.string q.hn), (.int .i64 q.ha), (.int .i64 q.po), (.slice a n c), (.string q.op), (.bool q.hq), (.string q.qu), (.bool q.hf), (.string q.fr)]) ∧ OwnS w.heap.size (.slice a n c) q.ps w' ∧ Hid (Fit q ∧ n = q.ps.length) ∧ p' ≤ p + 200 ∧ Rd B r p' w' ∧ w.grownBy w' (some r) := by
 have hrl := h.lt
 obtain ⟨V0, hV0⟩ : ∃ V, V = w.alloc (.cells #[(.string ⟨#[]⟩), (.string ⟨#[]⟩), (.string ⟨#[]⟩), (.int .i64 0), (.string ⟨#[]⟩), (.int .i64 0), (.int .i64 0), (.slice none 0 0), (.string ⟨#[]⟩), (.bool false), (.string ⟨#[]⟩), (.bool false), (.string ⟨#[]⟩)] 27) := ⟨_, rfl⟩
 have HK0 : Hid (Blk w.heap.size (P.zero.cells (.slice none 0 0)) 27 V0) := by show Blk _ _ _ _; rw [hV0]; exact Blk.new w _ _
 have HR0 : Hid (Rd B r p V0) := by rw [hV0]; exact rd_more h _
 have HG0 : Hid (w.grownBy V0 (some r)) := by rw [hV0]; exact World.grownBy_alloc w _ _
 clear h
 go_enter Tryz.func78, Tryz.ntmps78
 go_upto_region 1 with fail
 rw [← hV0]
 clear hV0
 go_wp2_with fail
 go_loopw [3] (fun i wr => ∃ (j p' : Nat), j ≤ 4 ∧ i = .int .i64 j ∧ p' ≤ p + 30 * j ∧ Hid (Blk w.heap.size (P.zero.cells (.slice none 0 0)) 27 wr) ∧ Hid (Rd B r p' wr) ∧ Hid (w.grownBy wr (some r))) (fun i wr => 4 - (intOf i).toNat)
 case atStart => exact ⟨0, p, by decide, rfl, by omega, HK0, HR0, HG0⟩
 case round =>
  clear HK0 HR0 HG0
  obtain ⟨j, p', hj, rfl, hp', HK, HR, HG⟩ := hrel
  by_cases hjj : j < 4
  ·have hji : (j : Int) < 4 := by omega
   go_wp2_with fail
   refine (l11Text B r p' _ (by omega) HR.out).mono ?_
   rintro e w1 ⟨x, p1, rfl, hx, hp1, r1, g1⟩
   have HK1 : Hid (Blk w.heap.size (P.zero.cells (.slice none 0 0)) 27 w1) := (g1.block _ HK.out.lt (by simp; omega)).trans HK.out
   have HG1 : Hid (w.grownBy w1 (some r)) := grown_trans HG.out g1
   have HR1 : Hid (Rd B r p1 w1) := r1
   clear r1 g1 HK HR HG
   go_wp2_with fail
   refine (getSome x _ (by omega)).mono ?_
   rintro e W2 ⟨q, ok, a, n, c, rfl, hF, o2, d2⟩
   have hsz : w.heap.size < w1.heap.size := HK1.out.lt
   obtain ⟨V, hV⟩ : ∃ V, V = W2.alloc (.cells #[(.string q.sc), (.string q.us), (.string q.pw), (.int .i64 q.hk), (.string q.hn), (.int .i64 q.ha), (.int .i64 q.po), (.slice a n c), (.string q.op), (.bool q.hq), (.string q.qu), (.bool q.hf), (.string q.fr)] 27) := ⟨_, rfl⟩
   have HDV : Hid (Below w1.heap.size w1 V) := by show Below _ _ _; rw [hV]; exact d2.alloc d2.size _
   have HKV : Hid (Blk w.heap.size (P.zero.cells (.slice none 0 0)) 27 V) := HK1.out.below HDV.out HK1.out.lt
   have HRV : Hid (Rd B r p1 V) := HR1.out.below HDV.out HR1.out.lt
   have HGV : Hid (w.grownBy V (some r)) := grown_below HG1.out (HDV.out.mono (by have := HG1.out.size; omega))
   have HOV : Hid (OwnS w1.heap.size (.slice a n c) q.ps V) := by rw [hV]; exact o2.later ((Below.refl _ W2).alloc (Nat.le_refl _) _)
   have HUV : Hid (Blk W2.heap.size (q.cells (.slice a n c)) 27 V) := by show Blk _ _ _ _; rw [hV]; exact Blk.new W2 _ _
   clear o2 d2 HK1 HR1 HG1 HDV
   go_upto_region 5 with fail
   rw [← hV]
   clear hV
   generalize W2.heap.size = gu at *
   cases ok with
   | false =>
    go_wp2
    go_roundw
    case rel => exact ⟨j + 1, p1, by omega, by go_num, by omega, HKV, HRV, HGV⟩
    case measure => simp [intOf]; omega
   | true =>
    obtain ⟨k0, k1, k2, k3, k4, k5, k6, k7, k8, k9, k10, k11, k12⟩ := Blk.cells13a HUV.out
    go_wp2_with fail
    refine (okSome q a n c _ hF.out (by
     obtain ⟨a1, c1, h1, h2, s1⟩ := HOV.out.strs
     rw [← hF.out.2] at h1 s1
     injection h1 with e1 e2 e3
     rw [← e1] at s1
     exact s1)).mono ?_
    rintro e W3 ⟨b, rfl, d3⟩
    have HK3 : Hid (Blk w.heap.size (P.zero.cells (.slice none 0 0)) 27 W3) := HKV.out.below d3 HKV.out.lt
    have HR3 : Hid (Rd B r p1 W3) := HRV.out.below d3 HRV.out.lt
    have HG3 : Hid (w.grownBy W3 (some r)) := grown_below HGV.out (d3.mono (by have := HGV.out.size; omega))
    have HO3 : Hid (OwnS w1.heap.size (.slice a n c) q.ps W3) := HOV.out.later d3
    have HU3 : Hid (Blk gu (q.cells (.slice a n c)) 27 W3) := HUV.out.below d3 HUV.out.lt
    clear d3 HKV HRV HGV HOV HUV k0 k1 k2 k3 k4 k5 k6 k7 k8 k9 k10 k11 k12
    cases b with
    | false =>
     go_wp2
     go_roundw
     case rel => exact ⟨j + 1, p1, by omega, by go_num, by omega, HK3, HR3, HG3⟩
     case measure => simp [intOf]; omega
    | true =>
     obtain ⟨k0, k1, k2, k3, k4, k5, k6, k7, k8, k9, k10, k11, k12⟩ := Blk.cells13a HU3.out
     obtain ⟨e0, e1, e2, e3, e4, e5, e6, e7, e8, e9, e10, e11, e12⟩ := Blk.cells13a HK3.out
     have fr := HK3.out.free
     have HFIN : Hid (OwnS w.heap.size (.slice a n c) q.ps (((((((((((((W3.setCell ⟨w.heap.size, 0, none⟩ (.string q.sc)).setCell ⟨w.heap.size, 1, none⟩ (.string q.us)).setCell ⟨w.heap.size, 2, none⟩ (.string q.pw)).setCell ⟨w.heap.size, 3, none⟩ (.int .i64 q.hk)).setCell ⟨w.heap.size, 4, none⟩ (.string q.hn)).setCell ⟨w.heap.size, 5, none⟩ (.int .i64 q.ha)).setCell ⟨w.heap.size, 6, none⟩ (.int .i64 q.po)).setCell ⟨w.heap.size, 7, none⟩ (.slice a n c)).setCell ⟨w.heap.size, 8, none⟩ (.string q.op)).setCell ⟨w.heap.size, 9, none⟩ (.bool q.hq)).setCell ⟨w.heap.size, 10, none⟩ (.string q.qu)).setCell ⟨w.heap.size, 11, none⟩ (.bool q.hf)).setCell ⟨w.heap.size, 12, none⟩ (.string q.fr)) ∧ Rd B r p1 (((((((((((((W3.setCell ⟨w.heap.size, 0, none⟩ (.string q.sc)).setCell ⟨w.heap.size, 1, none⟩ (.string q.us)).setCell ⟨w.heap.size, 2, none⟩ (.string q.pw)).setCell ⟨w.heap.size, 3, none⟩ (.int .i64 q.hk)).setCell ⟨w.heap.size, 4, none⟩ (.string q.hn)).setCell ⟨w.heap.size, 5, none⟩ (.int .i64 q.ha)).setCell ⟨w.heap.size, 6, none⟩ (.int .i64 q.po)).setCell ⟨w.heap.size, 7, none⟩ (.slice a n c)).setCell ⟨w.heap.size, 8, none⟩ (.string q.op)).setCell ⟨w.heap.size, 9, none⟩ (.bool q.hq)).setCell ⟨w.heap.size, 10, none⟩ (.string q.qu)).setCell ⟨w.heap.size, 11, none⟩ (.bool q.hf)).setCell ⟨w.heap.size, 12, none⟩ (.string q.fr)) ∧ w.grownBy (((((((((((((W3.setCell ⟨w.heap.size, 0, none⟩ (.string q.sc)).setCell ⟨w.heap.size, 1, none⟩ (.string q.us)).setCell ⟨w.heap.size, 2, none⟩ (.string q.pw)).setCell ⟨w.heap.size, 3, none⟩ (.int .i64 q.hk)).setCell ⟨w.heap.size, 4, none⟩ (.string q.hn)).setCell ⟨w.heap.size, 5, none⟩ (.int .i64 q.ha)).setCell ⟨w.heap.size, 6, none⟩ (.int .i64 q.po)).setCell ⟨w.heap.size, 7, none⟩ (.slice a n c)).setCell ⟨w.heap.size, 8, none⟩ (.string q.op)).setCell ⟨w.heap.size, 9, none⟩ (.bool q.hq)).setCell ⟨w.heap.size, 10, none⟩ (.string q.qu)).setCell ⟨w.heap.size, 11, none⟩ (.bool q.hf)).setCell ⟨w.heap.size, 12, none⟩ (.string q.fr)) (some r)) := ⟨(OwnS.put13 HO3.out (by omega)).mono (by omega), rd_put13 HR3.out hrl _ _ _ _ _ _ _ _ _ _ _ _ _, grown_put13 HG3.out (Nat.le_refl _) _ _ _ _ _ _ _ _ _ _ _ _ _⟩
     clear HK3 HR3 HG3 HO3 HU3
     go_wp2
     refine bodyPost_ret (v := .agg #[(.string q.sc), (.string q.us), (.string q.pw), (.int .i64 q.hk), (.string q.hn), (.int .i64 q.ha), (.int .i64 q.po), (.slice a n c), (.string q.op), (.bool q.hq), (.string q.qu), (.bool q.hf), (.string q.fr)]) (by simp [results, Tryz.results78, go_sem, e0, e1, e2, e3, e4, e5, e6, e7, e8, e9, e10, e11, e12]) rfl ⟨q, a, n, c, p1, rfl, HFIN.out.1, hF, by omega, HFIN.out.2.1, HFIN.out.2.2⟩
  ·have hji : ¬ ((j : Int) < 4) := by omega
   have hrw := HR.out.lt
   go_wp2_with fail
   refine (rdOf B r p' wr.heap.size 4 homesL 9 (0, 0) _ _ rfl (heap_alloc_new wr _) (by omega) (by simp [homesL]) (by simp [homesL]) (by omega) (rd_more HR.out _)).mono ?_
   rintro e w1 ⟨x, hx, rfl, r1, g1⟩
   have hxs := homesL_size x hx
   have HK1 : Hid (Blk w.heap.size (P.zero.cells (.slice none 0 0)) 27 w1) := by
    have h1 := HK.out.alloc (.cells (homesL.map Value.string).toArray 9)
    exact (g1.block _ h1.lt (by simp; omega)).trans h1
   have HG1 : Hid (w.grownBy w1 (some r)) := grown_trans (grown_alloc HG.out _) g1
   have HR1 : Hid (Rd B r (p' + 1) w1) := r1
   clear r1 g1 HK HR HG hx
   go_wp2_with fail
   refine (getSome x _ hxs).mono ?_
   rintro e W2 ⟨q, ok, a, n, c, rfl, hF, o2, d2⟩
   have hsz : w.heap.size < w1.heap.size := HK1.out.lt
   obtain ⟨V, hV⟩ : ∃ V, V = W2.alloc (.cells #[(.string q.sc), (.string q.us), (.string q.pw), (.int .i64 q.hk), (.string q.hn), (.int .i64 q.ha), (.int .i64 q.po), (.slice a n c), (.string q.op), (.bool q.hq), (.string q.qu), (.bool q.hf), (.string q.fr)] 27) := ⟨_, rfl⟩
   have HDV : Hid (Below w1.heap.size w1 V) := by show Below _ _ _; rw [hV]; exact d2.alloc d2.size _
   have HK3 : Hid (Blk w.heap.size (P.zero.cells (.slice none 0 0)) 27 V) := HK1.out.below HDV.out HK1.out.lt
   have HR3 : Hid (Rd B r (p' + 1) V) := HR1.out.below HDV.out HR1.out.lt
   have HG3 : Hid (w.grownBy V (some r)) := grown_below HG1.out (HDV.out.mono (by have := HG1.out.size; omega))
   have HO3 : Hid (OwnS w1.heap.size (.slice a n c) q.ps V) := by rw [hV]; exact o2.later ((Below.refl _ W2).alloc (Nat.le_refl _) _)
   have HU3 : Hid (Blk W2.heap.size (q.cells (.slice a n c)) 27 V) := by show Blk _ _ _ _; rw [hV]; exact Blk.new W2 _ _
   clear o2 d2 HK1 HR1 HG1 HDV
   go_upto_region 8 with fail
   rw [← hV]
   clear hV
   generalize W2.heap.size = gu at *
   obtain ⟨k0, k1, k2, k3, k4, k5, k6, k7, k8, k9, k10, k11, k12⟩ := Blk.cells13a HU3.out
   obtain ⟨e0, e1, e2, e3, e4, e5, e6, e7, e8, e9, e10, e11, e12⟩ := Blk.cells13a HK3.out
   have fr := HK3.out.free
   have HFIN : Hid (OwnS w.heap.size (.slice a n c) q.ps (((((((((((((V.setCell ⟨w.heap.size, 0, none⟩ (.string q.sc)).setCell ⟨w.heap.size, 1, none⟩ (.string q.us)).setCell ⟨w.heap.size, 2, none⟩ (.string q.pw)).setCell ⟨w.heap.size, 3, none⟩ (.int .i64 q.hk)).setCell ⟨w.heap.size, 4, none⟩ (.string q.hn)).setCell ⟨w.heap.size, 5, none⟩ (.int .i64 q.ha)).setCell ⟨w.heap.size, 6, none⟩ (.int .i64 q.po)).setCell ⟨w.heap.size, 7, none⟩ (.slice a n c)).setCell ⟨w.heap.size, 8, none⟩ (.string q.op)).setCell ⟨w.heap.size, 9, none⟩ (.bool q.hq)).setCell ⟨w.heap.size, 10, none⟩ (.string q.qu)).setCell ⟨w.heap.size, 11, none⟩ (.bool q.hf)).setCell ⟨w.heap.size, 12, none⟩ (.string q.fr)) ∧ Rd B r (p' + 1) (((((((((((((V.setCell ⟨w.heap.size, 0, none⟩ (.string q.sc)).setCell ⟨w.heap.size, 1, none⟩ (.string q.us)).setCell ⟨w.heap.size, 2, none⟩ (.string q.pw)).setCell ⟨w.heap.size, 3, none⟩ (.int .i64 q.hk)).setCell ⟨w.heap.size, 4, none⟩ (.string q.hn)).setCell ⟨w.heap.size, 5, none⟩ (.int .i64 q.ha)).setCell ⟨w.heap.size, 6, none⟩ (.int .i64 q.po)).setCell ⟨w.heap.size, 7, none⟩ (.slice a n c)).setCell ⟨w.heap.size, 8, none⟩ (.string q.op)).setCell ⟨w.heap.size, 9, none⟩ (.bool q.hq)).setCell ⟨w.heap.size, 10, none⟩ (.string q.qu)).setCell ⟨w.heap.size, 11, none⟩ (.bool q.hf)).setCell ⟨w.heap.size, 12, none⟩ (.string q.fr)) ∧ w.grownBy (((((((((((((V.setCell ⟨w.heap.size, 0, none⟩ (.string q.sc)).setCell ⟨w.heap.size, 1, none⟩ (.string q.us)).setCell ⟨w.heap.size, 2, none⟩ (.string q.pw)).setCell ⟨w.heap.size, 3, none⟩ (.int .i64 q.hk)).setCell ⟨w.heap.size, 4, none⟩ (.string q.hn)).setCell ⟨w.heap.size, 5, none⟩ (.int .i64 q.ha)).setCell ⟨w.heap.size, 6, none⟩ (.int .i64 q.po)).setCell ⟨w.heap.size, 7, none⟩ (.slice a n c)).setCell ⟨w.heap.size, 8, none⟩ (.string q.op)).setCell ⟨w.heap.size, 9, none⟩ (.bool q.hq)).setCell ⟨w.heap.size, 10, none⟩ (.string q.qu)).setCell ⟨w.heap.size, 11, none⟩ (.bool q.hf)).setCell ⟨w.heap.size, 12, none⟩ (.string q.fr)) (some r)) := ⟨(OwnS.put13 HO3.out (by omega)).mono (by omega), rd_put13 HR3.out hrl _ _ _ _ _ _ _ _ _ _ _ _ _, grown_put13 HG3.out (Nat.le_refl _) _ _ _ _ _ _ _ _ _ _ _ _ _⟩
   clear HK3 HR3 HG3 HO3 HU3
   go_wp2
   refine bodyPost_ret (v := .agg #[(.string q.sc), (.string q.us), (.string q.pw), (.int .i64 q.hk), (.string q.hn), (.int .i64 q.ha), (.int .i64 q.po), (.slice a n c), (.string q.op), (.bool q.hq), (.string q.qu), (.bool q.hf), (.string q.fr)]) (by simp [results, Tryz.results78, go_sem, e0, e1, e2, e3, e4, e5, e6, e7, e8, e9, e10, e11, e12]) rfl ⟨q, a, n, c, p' + 1, rfl, HFIN.out.1, hF, by omega, HFIN.out.2.1, HFIN.out.2.2⟩
end Go.Proofs.YtfcbjdooijhibaaGreatDoor
end
section
namespace Go.Proofs.YtfcbjdooijhibaaGreatDoor
open Go.RowKit Go.Shelf
def nearL : List ByteArray := [⟨#[104, 116, 116, 112, 58, 47, 47, 97, 46, 99, 111, 109, 47]⟩, ⟨#[104, 116, 116, 112, 58, 47, 47, 97, 46, 99, 111, 109, 47, 120]⟩, ⟨#[104, 116, 116, 112, 58, 47, 47, 97, 46, 99, 111, 109, 47, 120, 35, 102]⟩, ⟨#[104, 116, 116, 112, 58, 47, 47, 97, 46, 99, 111, 109, 47, 120, 35, 103]⟩, ⟨#[104, 116, 116, 112, 58, 47, 47, 97, 46, 99, 111, 109, 47, 121, 63, 113]⟩, ⟨#[104, 116, 116, 112, 58, 47, 47, 98, 46, 99, 111, 109, 47]⟩, ⟨#[104, 116, 116, 112, 115, 58, 47, 47, 97, 46, 99, 111, 109, 47]⟩, ⟨#[97, 98, 111, 117, 116, 58, 98, 108, 97, 110, 107]⟩, ⟨#[104, 116, 116, 112, 58, 47, 47, 97, 46, 99, 111, 109, 58, 56, 49, 47]⟩]
theorem nearL_size (x : ByteArray) (h : x ∈ nearL) : x.size ≤ 200 := by
 simp only [nearL, List.mem_cons, List.not_mem_nil, or_false] at h
 rcases h with rfl | rfl | rfl | rfl | rfl | rfl | rfl | rfl | rfl <;> decide
theorem l11Near (B r p : Nat) (w : World) (hp : p ≤ 1000) (h : Rd B r p w) :
  Calls Tryz.prog 55 #[.pointer (some ⟨r, 0, none⟩)] w fun e w' => ∃ (q : P) (a : Option Addr) (n c p' : Nat), e = .returned (.agg #[(.string q.sc), (.string q.us), (.string q.pw), (.int .i64 q.hk), (.string q.hn), (.int .i64 q.ha), (.int .i64 q.po), (.slice a n c), (.string q.op), (.bool q.hq), (.string q.qu), (.bool q.hf), (.string q.fr)]) ∧ OwnS w.heap.size (.slice a n c) q.ps w' ∧ Hid (Fit q ∧ n = q.ps.length) ∧ p' ≤ p + 200 ∧ Rd B r p' w' ∧ w.grownBy w' (some r) := by
 have hrl := h.lt
 obtain ⟨V0, hV0⟩ : ∃ V, V = w.alloc (.cells #[(.string ⟨#[]⟩), (.string ⟨#[]⟩), (.string ⟨#[]⟩), (.int .i64 0), (.string ⟨#[]⟩), (.int .i64 0), (.int .i64 0), (.slice none 0 0), (.string ⟨#[]⟩), (.bool false), (.string ⟨#[]⟩), (.bool false), (.string ⟨#[]⟩)] 27) := ⟨_, rfl⟩
 have HK0 : Hid (Blk w.heap.size (P.zero.cells (.slice none 0 0)) 27 V0) := by show Blk _ _ _ _; rw [hV0]; exact Blk.new w _ _
 have HR0 : Hid (Rd B r p V0) := by rw [hV0]; exact rd_more h _
 have HG0 : Hid (w.grownBy V0 (some r)) := by rw [hV0]; exact World.grownBy_alloc w _ _
 clear h
 go_enter Tryz.func55, Tryz.ntmps55
 go_upto_region 1 with fail
 rw [← hV0]
 clear hV0
 have hrw := HR0.out.lt
 go_wp2_with fail
 refine (rdOf B r p V0.heap.size 9 nearL 9 (0, 0) _ _ rfl (heap_alloc_new V0 _) (by omega) (by simp [nearL]) (by simp [nearL]) (by omega) (rd_more HR0.out _)).mono ?_
 rintro e w1 ⟨x, hx, rfl, r1, g1⟩
 have hxs := nearL_size x hx
 have HK1 : Hid (Blk w.heap.size (P.zero.cells (.slice none 0 0)) 27 w1) := by
  have h1 := HK0.out.alloc (.cells (nearL.map Value.string).toArray 9)
  exact (g1.block _ h1.lt (by simp; omega)).trans h1
 have HG1 : Hid (w.grownBy w1 (some r)) := grown_trans (grown_alloc HG0.out _) g1
 have HR1 : Hid (Rd B r (p + 1) w1) := r1
 clear r1 g1 HK0 HR0 HG0 hx
 go_wp2_with fail
 refine (getSome x _ hxs).mono ?_
 rintro e W2 ⟨q, ok, a, n, c, rfl, hF, o2, d2⟩
 have hsz : w.heap.size < w1.heap.size := HK1.out.lt
 obtain ⟨V, hV⟩ : ∃ V, V = W2.alloc (.cells #[(.string q.sc), (.string q.us), (.string q.pw), (.int .i64 q.hk), (.string q.hn), (.int .i64 q.ha), (.int .i64 q.po), (.slice a n c), (.string q.op), (.bool q.hq), (.string q.qu), (.bool q.hf), (.string q.fr)] 27) := ⟨_, rfl⟩
 have HDV : Hid (Below w1.heap.size w1 V) := by show Below _ _ _; rw [hV]; exact d2.alloc d2.size _
 have HK3 : Hid (Blk w.heap.size (P.zero.cells (.slice none 0 0)) 27 V) := HK1.out.below HDV.out HK1.out.lt
 have HR3 : Hid (Rd B r (p + 1) V) := HR1.out.below HDV.out HR1.out.lt
 have HG3 : Hid (w.grownBy V (some r)) := grown_below HG1.out (HDV.out.mono (by have := HG1.out.size; omega))
 have HO3 : Hid (OwnS w1.heap.size (.slice a n c) q.ps V) := by rw [hV]; exact o2.later ((Below.refl _ W2).alloc (Nat.le_refl _) _)
 have HU3 : Hid (Blk W2.heap.size (q.cells (.slice a n c)) 27 V) := by show Blk _ _ _ _; rw [hV]; exact Blk.new W2 _ _
 clear o2 d2 HK1 HR1 HG1 HDV
 go_upto_region 2 with fail
 rw [← hV]
 clear hV
 generalize W2.heap.size = gu at *
 obtain ⟨k0, k1, k2, k3, k4, k5, k6, k7, k8, k9, k10, k11, k12⟩ := Blk.cells13a HU3.out
 obtain ⟨e0, e1, e2, e3, e4, e5, e6, e7, e8, e9, e10, e11, e12⟩ := Blk.cells13a HK3.out
 have fr := HK3.out.free
 have HFIN : Hid (OwnS w.heap.size (.slice a n c) q.ps (((((((((((((V.setCell ⟨w.heap.size, 0, none⟩ (.string q.sc)).setCell ⟨w.heap.size, 1, none⟩ (.string q.us)).setCell ⟨w.heap.size, 2, none⟩ (.string q.pw)).setCell ⟨w.heap.size, 3, none⟩ (.int .i64 q.hk)).setCell ⟨w.heap.size, 4, none⟩ (.string q.hn)).setCell ⟨w.heap.size, 5, none⟩ (.int .i64 q.ha)).setCell ⟨w.heap.size, 6, none⟩ (.int .i64 q.po)).setCell ⟨w.heap.size, 7, none⟩ (.slice a n c)).setCell ⟨w.heap.size, 8, none⟩ (.string q.op)).setCell ⟨w.heap.size, 9, none⟩ (.bool q.hq)).setCell ⟨w.heap.size, 10, none⟩ (.string q.qu)).setCell ⟨w.heap.size, 11, none⟩ (.bool q.hf)).setCell ⟨w.heap.size, 12, none⟩ (.string q.fr)) ∧ Rd B r (p + 1) (((((((((((((V.setCell ⟨w.heap.size, 0, none⟩ (.string q.sc)).setCell ⟨w.heap.size, 1, none⟩ (.string q.us)).setCell ⟨w.heap.size, 2, none⟩ (.string q.pw)).setCell ⟨w.heap.size, 3, none⟩ (.int .i64 q.hk)).setCell ⟨w.heap.size, 4, none⟩ (.string q.hn)).setCell ⟨w.heap.size, 5, none⟩ (.int .i64 q.ha)).setCell ⟨w.heap.size, 6, none⟩ (.int .i64 q.po)).setCell ⟨w.heap.size, 7, none⟩ (.slice a n c)).setCell ⟨w.heap.size, 8, none⟩ (.string q.op)).setCell ⟨w.heap.size, 9, none⟩ (.bool q.hq)).setCell ⟨w.heap.size, 10, none⟩ (.string q.qu)).setCell ⟨w.heap.size, 11, none⟩ (.bool q.hf)).setCell ⟨w.heap.size, 12, none⟩ (.string q.fr)) ∧ w.grownBy (((((((((((((V.setCell ⟨w.heap.size, 0, none⟩ (.string q.sc)).setCell ⟨w.heap.size, 1, none⟩ (.string q.us)).setCell ⟨w.heap.size, 2, none⟩ (.string q.pw)).setCell ⟨w.heap.size, 3, none⟩ (.int .i64 q.hk)).setCell ⟨w.heap.size, 4, none⟩ (.string q.hn)).setCell ⟨w.heap.size, 5, none⟩ (.int .i64 q.ha)).setCell ⟨w.heap.size, 6, none⟩ (.int .i64 q.po)).setCell ⟨w.heap.size, 7, none⟩ (.slice a n c)).setCell ⟨w.heap.size, 8, none⟩ (.string q.op)).setCell ⟨w.heap.size, 9, none⟩ (.bool q.hq)).setCell ⟨w.heap.size, 10, none⟩ (.string q.qu)).setCell ⟨w.heap.size, 11, none⟩ (.bool q.hf)).setCell ⟨w.heap.size, 12, none⟩ (.string q.fr)) (some r)) := ⟨(OwnS.put13 HO3.out (by omega)).mono (by omega), rd_put13 HR3.out hrl _ _ _ _ _ _ _ _ _ _ _ _ _, grown_put13 HG3.out (Nat.le_refl _) _ _ _ _ _ _ _ _ _ _ _ _ _⟩
 clear HK3 HR3 HG3 HO3 HU3
 go_wp2
 refine bodyPost_ret (v := .agg #[(.string q.sc), (.string q.us), (.string q.pw), (.int .i64 q.hk), (.string q.hn), (.int .i64 q.ha), (.int .i64 q.po), (.slice a n c), (.string q.op), (.bool q.hq), (.string q.qu), (.bool q.hf), (.string q.fr)]) (by simp [results, Tryz.results55, go_sem, e0, e1, e2, e3, e4, e5, e6, e7, e8, e9, e10, e11, e12]) rfl ⟨q, a, n, c, p + 1, rfl, HFIN.out.1, hF, by omega, HFIN.out.2.1, HFIN.out.2.2⟩
end Go.Proofs.YtfcbjdooijhibaaGreatDoor
end
section
namespace Go.Proofs.YtfcbjdooijhibaaGreatDoor
open Go.RowKit Go.Shelf
theorem OwnS.off {B k : Nat} {v : Value} {ps : List (List UInt8)} {A : Array Value} {t : TypeId} {w : World} (h : OwnS B v ps w) (hK : Blk k A t w) (ht : t ≠ 9) (j : Nat) (x : Value) : OwnS B v ps (w.setCell ⟨k, j, none⟩ x) := by
 have h0 := h
 refine ⟨h.1, ?_⟩
 rcases h.2 with h1 | ⟨g, cap, cur, hv, hb, hg, rest⟩
 ·exact .inl h1
 ·refine .inr ⟨g, cap, cur, hv, hb, ?_, rest⟩
  have hne : k ≠ g := by rw [hv] at h0; exact h0.ne hK ht
  rw [← hg]
  simp [World.setCell, Array.getElem?_modify]
  intro e
  exact absurd e hne
end Go.Proofs.YtfcbjdooijhibaaGreatDoor
end
section
namespace Go.Proofs.YtfcbjdooijhibaaGreatDoor
open Go.RowKit Go.Shelf
theorem l3Copy (q : P) (a : Option Addr) (n c : Nat) (w : World) (hS : StrsOf a n q.ps w) (hl : n ≤ 1048576) :
  Calls Tryz.prog 57 #[.agg (q.cells (.slice a n c))] w fun e w' => ∃ a2 c2, e = .returned (.agg (q.cells (.slice a2 n c2))) ∧ OwnS w.heap.size (.slice a2 n c2) q.ps w' ∧ Below w.heap.size w w' := by
 have hn : n = q.ps.length := hS.1
 obtain ⟨V, hV⟩ : ∃ V, V = ((w.alloc (.cells #[(.string q.sc), (.string q.us), (.string q.pw), (.int .i64 q.hk), (.string q.hn), (.int .i64 q.ha), (.int .i64 q.po), (.slice a n c), (.string q.op), (.bool q.hq), (.string q.qu), (.bool q.hf), (.string q.fr)] 27)).alloc (.cells #[(.string ⟨#[]⟩), (.string ⟨#[]⟩), (.string ⟨#[]⟩), (.int .i64 0), (.string ⟨#[]⟩), (.int .i64 0), (.int .i64 0), (.slice none 0 0), (.string ⟨#[]⟩), (.bool false), (.string ⟨#[]⟩), (.bool false), (.string ⟨#[]⟩)] 27)) := ⟨_, rfl⟩
 have HX : Hid (Tw w #[(.string q.sc), (.string q.us), (.string q.pw), (.int .i64 q.hk), (.string q.hn), (.int .i64 q.ha), (.int .i64 q.po), (.slice a n c), (.string q.op), (.bool q.hq), (.string q.qu), (.bool q.hf), (.string q.fr)] #[(.string ⟨#[]⟩), (.string ⟨#[]⟩), (.string ⟨#[]⟩), (.int .i64 0), (.string ⟨#[]⟩), (.int .i64 0), (.int .i64 0), (.slice none 0 0), (.string ⟨#[]⟩), (.bool false), (.string ⟨#[]⟩), (.bool false), (.string ⟨#[]⟩)] V) := by rw [hV]; exact Tw.start w _ _
 have HZ : Hid (V.heap.size = w.heap.size + 1 + 1) := by show _ = _; rw [hV]; simp
 by_cases h0 : n = 0
 ·have HE : Hid (q.ps = []) := List.eq_nil_of_length_eq_zero (by omega)
  subst h0
  clear hS hl hn HZ
  unfold P.cells
  go_enter Tryz.func57, Tryz.ntmps57
  go_upto_region 1 with fail
  rw [← hV]
  clear hV
  obtain ⟨k0, k1, k2, k3, k4, k5, k6, k7, k8, k9, k10, k11, k12⟩ := Blk.cells13a HX.out.b1
  have fk := HX.out.b1.free
  go_upto_region 4 with fail
  obtain ⟨U, hU⟩ : ∃ U, U = V.setCell ⟨w.heap.size, 7, none⟩ (.slice none 0 0) := ⟨_, rfl⟩
  have HY : Hid (Tw w #[(.string q.sc), (.string q.us), (.string q.pw), (.int .i64 q.hk), (.string q.hn), (.int .i64 q.ha), (.int .i64 q.po), (.slice none 0 0), (.string q.op), (.bool q.hq), (.string q.qu), (.bool q.hf), (.string q.fr)] #[(.string ⟨#[]⟩), (.string ⟨#[]⟩), (.string ⟨#[]⟩), (.int .i64 0), (.string ⟨#[]⟩), (.int .i64 0), (.int .i64 0), (.slice none 0 0), (.string ⟨#[]⟩), (.bool false), (.string ⟨#[]⟩), (.bool false), (.string ⟨#[]⟩)] U) := by
   rw [hU]
   refine ⟨?_, HX.out.b2.other _ 7 _ (by omega), HX.out.bw.setCell (p := ⟨w.heap.size, 7, none⟩) (Nat.le_refl _) _⟩
   have := HX.out.b1.set 7 (.slice none 0 0)
   simpa using this
  rw [← hU]
  clear hU HX k0 k1 k2 k3 k4 k5 k6 k7 k8 k9 k10 k11 k12 fk
  obtain ⟨k0, k1, k2, k3, k4, k5, k6, k7, k8, k9, k10, k11, k12⟩ := Blk.cells13a HY.out.b1
  obtain ⟨e0, e1, e2, e3, e4, e5, e6, e7, e8, e9, e10, e11, e12⟩ := Blk.cells13a HY.out.b2
  have fr := HY.out.b2.free
  have HFIN : Hid (Below w.heap.size w (((((((((((((U.setCell ⟨w.heap.size + 1, 0, none⟩ (.string q.sc)).setCell ⟨w.heap.size + 1, 1, none⟩ (.string q.us)).setCell ⟨w.heap.size + 1, 2, none⟩ (.string q.pw)).setCell ⟨w.heap.size + 1, 3, none⟩ (.int .i64 q.hk)).setCell ⟨w.heap.size + 1, 4, none⟩ (.string q.hn)).setCell ⟨w.heap.size + 1, 5, none⟩ (.int .i64 q.ha)).setCell ⟨w.heap.size + 1, 6, none⟩ (.int .i64 q.po)).setCell ⟨w.heap.size + 1, 7, none⟩ (.slice none 0 0)).setCell ⟨w.heap.size + 1, 8, none⟩ (.string q.op)).setCell ⟨w.heap.size + 1, 9, none⟩ (.bool q.hq)).setCell ⟨w.heap.size + 1, 10, none⟩ (.string q.qu)).setCell ⟨w.heap.size + 1, 11, none⟩ (.bool q.hf)).setCell ⟨w.heap.size + 1, 12, none⟩ (.string q.fr))) := below_put13 HY.out.bw (by omega) _ _ _ _ _ _ _ _ _ _ _ _ _
  clear HY
  go_wp2
  refine bodyPost_ret (v := .agg #[(.string q.sc), (.string q.us), (.string q.pw), (.int .i64 q.hk), (.string q.hn), (.int .i64 q.ha), (.int .i64 q.po), (.slice none 0 0), (.string q.op), (.bool q.hq), (.string q.qu), (.bool q.hf), (.string q.fr)]) (by simp [results, Tryz.results57, go_sem, e0, e1, e2, e3, e4, e5, e6, e7, e8, e9, e10, e11, e12]) rfl ⟨none, 0, rfl, ?_, HFIN.out⟩
  rw [HE.out]
  exact ownS_nil _ _
 ·have hne : q.ps ≠ [] := by intro e; rw [e] at hn; exact h0 hn
  have hni : (0 : Int) < (n : Int) := by omega
  obtain ⟨b, off, rfl, hcl⟩ := hS.2.resolve_left hne
  have h0' := ownS_new V (w.heap.size + 1 + 1) (by rw [HZ.out]; exact Nat.le_refl _)
  have HQ : Hid (∀ j (h : j < q.ps.length), (V.alloc (.cells #[] 9)).cell? ⟨b, off + j, none⟩ = some (.string (mk q.ps[j]))) := by
   intro j hj
   have d : Below w.heap.size w (V.alloc (.cells #[] 9)) := HX.out.bw.alloc (by rw [HZ.out]; omega) _
   exact (d.cell (cell_in (hcl j hj))).trans (hcl j hj)
  have HBA : Hid (Below (w.heap.size + 1 + 1) V (V.alloc (.cells #[] 9))) := (Below.refl _ _).alloc (by rw [HZ.out]; exact Nat.le_refl _) _
  have HSZ : Hid (w.heap.size + 1 + 1 ≤ (V.alloc (.cells #[] 9)).heap.size) := by show _ ≤ _; simp; rw [HZ.out]; omega
  have HLN : Hid (([] : List (List UInt8)).length + q.ps.length ≤ 1000000000000) := by show _ ≤ _; simp; omega
  subst hn
  clear hS hl hcl h0 hne HZ
  unfold P.cells
  go_enter Tryz.func57, Tryz.ntmps57
  go_upto_region 1 with fail
  rw [← hV]
  clear hV
  obtain ⟨k0, k1, k2, k3, k4, k5, k6, k7, k8, k9, k10, k11, k12⟩ := Blk.cells13a HX.out.b1
  have fk := HX.out.b1.free
  have m7 : (V.alloc (.cells #[] 9)).cell? ⟨w.heap.size, 7, none⟩ = some (.slice (some ⟨b, off, none⟩) q.ps.length c) := (HX.out.b1.alloc _).cell 7
  go_upto_region 4 with (at_builtin; refine wpAppendStrs (V.alloc (.cells #[] 9)) rfl _ _ rfl (w.heap.size + 1 + 1) _ [] q.ps h0' rfl b off c rfl HQ.out HLN.out HSZ.out ?_; intro v1 w1 R b1; rw [List.nil_append] at R; obtain ⟨a2, c2, hv2, hc2⟩ := R.shape; subst hv2; have HD1 : Hid (Below (w.heap.size + 1 + 1) V w1) := HBA.out.trans b1; have HR : Hid (OwnS (w.heap.size + 1 + 1) (.slice a2 q.ps.length c2) q.ps w1) := R; clear R b1 HBA m7 k0 k1 k2 k3 k4 k5 k6 k7 k8 k9 k10 k11 k12 fk; obtain ⟨k0, k1, k2, k3, k4, k5, k6, k7, k8, k9, k10, k11, k12⟩ := Blk.cells13a (HX.out.b1.below HD1.out (by omega)); have fk := (HX.out.b1.below HD1.out (by omega)).free)
  obtain ⟨U, hU⟩ : ∃ U, U = w1.setCell ⟨w.heap.size, 7, none⟩ (.slice a2 q.ps.length c2) := ⟨_, rfl⟩
  have HY : Hid (Tw w #[(.string q.sc), (.string q.us), (.string q.pw), (.int .i64 q.hk), (.string q.hn), (.int .i64 q.ha), (.int .i64 q.po), (.slice a2 q.ps.length c2), (.string q.op), (.bool q.hq), (.string q.qu), (.bool q.hf), (.string q.fr)] #[(.string ⟨#[]⟩), (.string ⟨#[]⟩), (.string ⟨#[]⟩), (.int .i64 0), (.string ⟨#[]⟩), (.int .i64 0), (.int .i64 0), (.slice none 0 0), (.string ⟨#[]⟩), (.bool false), (.string ⟨#[]⟩), (.bool false), (.string ⟨#[]⟩)] U) := by
   have d1 : Below w.heap.size w w1 := HX.out.bw.trans (HD1.out.mono (by omega))
   rw [hU]
   refine ⟨?_, (HX.out.b2.below HD1.out (by omega)).other _ 7 _ (by omega), d1.setCell (p := ⟨w.heap.size, 7, none⟩) (Nat.le_refl _) _⟩
   have := (HX.out.b1.below HD1.out (by omega)).set 7 (.slice a2 q.ps.length c2)
   simpa using this
  have HO : Hid (OwnS (w.heap.size + 1 + 1) (.slice a2 q.ps.length c2) q.ps U) := by rw [hU]; exact HR.out.low (by omega) 7 _
  rw [← hU]
  clear hU HX HR HD1 k0 k1 k2 k3 k4 k5 k6 k7 k8 k9 k10 k11 k12 fk h0' HQ HSZ HLN
  obtain ⟨k0, k1, k2, k3, k4, k5, k6, k7, k8, k9, k10, k11, k12⟩ := Blk.cells13a HY.out.b1
  obtain ⟨e0, e1, e2, e3, e4, e5, e6, e7, e8, e9, e10, e11, e12⟩ := Blk.cells13a HY.out.b2
  have fr := HY.out.b2.free
  have HFIN : Hid (OwnS w.heap.size (.slice a2 q.ps.length c2) q.ps (((((((((((((U.setCell ⟨w.heap.size + 1, 0, none⟩ (.string q.sc)).setCell ⟨w.heap.size + 1, 1, none⟩ (.string q.us)).setCell ⟨w.heap.size + 1, 2, none⟩ (.string q.pw)).setCell ⟨w.heap.size + 1, 3, none⟩ (.int .i64 q.hk)).setCell ⟨w.heap.size + 1, 4, none⟩ (.string q.hn)).setCell ⟨w.heap.size + 1, 5, none⟩ (.int .i64 q.ha)).setCell ⟨w.heap.size + 1, 6, none⟩ (.int .i64 q.po)).setCell ⟨w.heap.size + 1, 7, none⟩ (.slice a2 q.ps.length c2)).setCell ⟨w.heap.size + 1, 8, none⟩ (.string q.op)).setCell ⟨w.heap.size + 1, 9, none⟩ (.bool q.hq)).setCell ⟨w.heap.size + 1, 10, none⟩ (.string q.qu)).setCell ⟨w.heap.size + 1, 11, none⟩ (.bool q.hf)).setCell ⟨w.heap.size + 1, 12, none⟩ (.string q.fr)) ∧ Below w.heap.size w (((((((((((((U.setCell ⟨w.heap.size + 1, 0, none⟩ (.string q.sc)).setCell ⟨w.heap.size + 1, 1, none⟩ (.string q.us)).setCell ⟨w.heap.size + 1, 2, none⟩ (.string q.pw)).setCell ⟨w.heap.size + 1, 3, none⟩ (.int .i64 q.hk)).setCell ⟨w.heap.size + 1, 4, none⟩ (.string q.hn)).setCell ⟨w.heap.size + 1, 5, none⟩ (.int .i64 q.ha)).setCell ⟨w.heap.size + 1, 6, none⟩ (.int .i64 q.po)).setCell ⟨w.heap.size + 1, 7, none⟩ (.slice a2 q.ps.length c2)).setCell ⟨w.heap.size + 1, 8, none⟩ (.string q.op)).setCell ⟨w.heap.size + 1, 9, none⟩ (.bool q.hq)).setCell ⟨w.heap.size + 1, 10, none⟩ (.string q.qu)).setCell ⟨w.heap.size + 1, 11, none⟩ (.bool q.hf)).setCell ⟨w.heap.size + 1, 12, none⟩ (.string q.fr))) := ⟨(OwnS.put13 HO.out (by omega)).mono (by omega), below_put13 HY.out.bw (by omega) _ _ _ _ _ _ _ _ _ _ _ _ _⟩
  clear HY HO
  go_wp2
  refine bodyPost_ret (v := .agg #[(.string q.sc), (.string q.us), (.string q.pw), (.int .i64 q.hk), (.string q.hn), (.int .i64 q.ha), (.int .i64 q.po), (.slice a2 q.ps.length c2), (.string q.op), (.bool q.hq), (.string q.qu), (.bool q.hf), (.string q.fr)]) (by simp [results, Tryz.results57, go_sem, e0, e1, e2, e3, e4, e5, e6, e7, e8, e9, e10, e11, e12]) rfl ⟨a2, c2, rfl, HFIN.out⟩
end Go.Proofs.YtfcbjdooijhibaaGreatDoor
end

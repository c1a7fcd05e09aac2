/- spec.UrlGet: an address of a text. -/
import Derived.Test.YtnfhajhdpdidlaaGreatDoorB34
import Derived.Test.YtnfhajhdpdidlaaGreatDoorB15
set_option linter.unusedVariables false
set_option linter.unusedSimpArgs false
set_option maxHeartbeats 4000000
set_option maxRecDepth 100000
section
namespace Go.Proofs.YtnfhajhdpdidlaaGreatDoor
open Go.RowKit Go.Shelf
structure RZ (w W : World) : Prop where
 make ::
 rs : Blk w.heap.size zeroC 31 W
 bw : Below w.heap.size w W
theorem RZ.start (w : World) : RZ w (w.alloc (.cells zeroC 31)) := ⟨Blk.new w _ _, (Below.refl _ w).alloc (Nat.le_refl _) _⟩
theorem RZ.later {w W W' : World} (h : RZ w W) (b : Below W.heap.size W W') : RZ w W' := ⟨h.rs.below b h.rs.lt, h.bw.trans (b.mono h.bw.size)⟩
theorem RZ.zeros {w W : World} (h : RZ w W) :
  W.cell? ⟨w.heap.size, 0, none⟩ = some (.string ⟨#[]⟩) ∧ W.cell? ⟨w.heap.size, 1, none⟩ = some (.string ⟨#[]⟩) ∧ W.cell? ⟨w.heap.size, 2, none⟩ = some (.string ⟨#[]⟩) ∧ W.cell? ⟨w.heap.size, 3, none⟩ = some (.int .i64 0) ∧ W.cell? ⟨w.heap.size, 4, none⟩ = some (.string ⟨#[]⟩) ∧ W.cell? ⟨w.heap.size, 5, none⟩ = some (.int .i64 0) ∧ W.cell? ⟨w.heap.size, 6, none⟩ = some (.int .i64 0) ∧ W.cell? ⟨w.heap.size, 7, none⟩ = some (.slice none 0 0) ∧ W.cell? ⟨w.heap.size, 8, none⟩ = some (.string ⟨#[]⟩) ∧ W.cell? ⟨w.heap.size, 9, none⟩ = some (.bool false) ∧ W.cell? ⟨w.heap.size, 10, none⟩ = some (.string ⟨#[]⟩) ∧ W.cell? ⟨w.heap.size, 11, none⟩ = some (.bool false) ∧ W.cell? ⟨w.heap.size, 12, none⟩ = some (.string ⟨#[]⟩) :=
 ⟨h.rs.cell 0, h.rs.cell 1, h.rs.cell 2, h.rs.cell 3, h.rs.cell 4, h.rs.cell 5, h.rs.cell 6, h.rs.cell 7, h.rs.cell 8, h.rs.cell 9, h.rs.cell 10, h.rs.cell 11, h.rs.cell 12⟩
theorem RZ.free {w W : World} (h : RZ w W) :
  W.frozen? ⟨w.heap.size, 0, none⟩ = false ∧ W.frozen? ⟨w.heap.size, 1, none⟩ = false ∧ W.frozen? ⟨w.heap.size, 2, none⟩ = false ∧ W.frozen? ⟨w.heap.size, 3, none⟩ = false ∧ W.frozen? ⟨w.heap.size, 4, none⟩ = false ∧ W.frozen? ⟨w.heap.size, 5, none⟩ = false ∧ W.frozen? ⟨w.heap.size, 6, none⟩ = false ∧ W.frozen? ⟨w.heap.size, 7, none⟩ = false ∧ W.frozen? ⟨w.heap.size, 8, none⟩ = false ∧ W.frozen? ⟨w.heap.size, 9, none⟩ = false ∧ W.frozen? ⟨w.heap.size, 10, none⟩ = false ∧ W.frozen? ⟨w.heap.size, 11, none⟩ = false ∧ W.frozen? ⟨w.heap.size, 12, none⟩ = false :=
 ⟨h.rs.free 0, h.rs.free 1, h.rs.free 2, h.rs.free 3, h.rs.free 4, h.rs.free 5, h.rs.free 6, h.rs.free 7, h.rs.free 8, h.rs.free 9, h.rs.free 10, h.rs.free 11, h.rs.free 12⟩
theorem RZ.fin {w W : World} (h : RZ w W) (v0 v1 v2 v3 v4 v5 v6 v7 v8 v9 v10 v11 v12 : Value) :
  Blk w.heap.size #[v0, v1, v2, v3, v4, v5, v6, v7, v8, v9, v10, v11, v12] 31 ((((((((((((((W.setCell ⟨w.heap.size, 0, none⟩ v0).setCell ⟨w.heap.size, 1, none⟩ v1).setCell ⟨w.heap.size, 2, none⟩ v2).setCell ⟨w.heap.size, 3, none⟩ v3).setCell ⟨w.heap.size, 4, none⟩ v4).setCell ⟨w.heap.size, 5, none⟩ v5).setCell ⟨w.heap.size, 6, none⟩ v6).setCell ⟨w.heap.size, 7, none⟩ v7).setCell ⟨w.heap.size, 8, none⟩ v8).setCell ⟨w.heap.size, 9, none⟩ v9).setCell ⟨w.heap.size, 10, none⟩ v10).setCell ⟨w.heap.size, 11, none⟩ v11).setCell ⟨w.heap.size, 12, none⟩ v12)) ∧ Below w.heap.size w ((((((((((((((W.setCell ⟨w.heap.size, 0, none⟩ v0).setCell ⟨w.heap.size, 1, none⟩ v1).setCell ⟨w.heap.size, 2, none⟩ v2).setCell ⟨w.heap.size, 3, none⟩ v3).setCell ⟨w.heap.size, 4, none⟩ v4).setCell ⟨w.heap.size, 5, none⟩ v5).setCell ⟨w.heap.size, 6, none⟩ v6).setCell ⟨w.heap.size, 7, none⟩ v7).setCell ⟨w.heap.size, 8, none⟩ v8).setCell ⟨w.heap.size, 9, none⟩ v9).setCell ⟨w.heap.size, 10, none⟩ v10).setCell ⟨w.heap.size, 11, none⟩ v11).setCell ⟨w.heap.size, 12, none⟩ v12)) ∧ W.grownBy ((((((((((((((W.setCell ⟨w.heap.size, 0, none⟩ v0).setCell ⟨w.heap.size, 1, none⟩ v1).setCell ⟨w.heap.size, 2, none⟩ v2).setCell ⟨w.heap.size, 3, none⟩ v3).setCell ⟨w.heap.size, 4, none⟩ v4).setCell ⟨w.heap.size, 5, none⟩ v5).setCell ⟨w.heap.size, 6, none⟩ v6).setCell ⟨w.heap.size, 7, none⟩ v7).setCell ⟨w.heap.size, 8, none⟩ v8).setCell ⟨w.heap.size, 9, none⟩ v9).setCell ⟨w.heap.size, 10, none⟩ v10).setCell ⟨w.heap.size, 11, none⟩ v11).setCell ⟨w.heap.size, 12, none⟩ v12)) (some w.heap.size) :=
 ⟨Blk.put13 h.rs _ _ _ _ _ _ _ _ _ _ _ _ _, below_put13 h.bw (Nat.le_refl _) _ _ _ _ _ _ _ _ _ _ _ _ _, grown13 _ _ _ _ _ _ _ _ _ _ _ _ _ _ _⟩
theorem Blk.cells13 {g : Nat} {q : P} {v : Value} {W : World} (h : Blk g (q.cells v) 31 W) :
  W.cell? ⟨g, 0, none⟩ = some (.string q.sc) ∧ W.cell? ⟨g, 1, none⟩ = some (.string q.us) ∧ W.cell? ⟨g, 2, none⟩ = some (.string q.pw) ∧ W.cell? ⟨g, 3, none⟩ = some (.int .i64 q.hk) ∧ W.cell? ⟨g, 4, none⟩ = some (.string q.hn) ∧ W.cell? ⟨g, 5, none⟩ = some (.int .i64 q.ha) ∧ W.cell? ⟨g, 6, none⟩ = some (.int .i64 q.po) ∧ W.cell? ⟨g, 7, none⟩ = some v ∧ W.cell? ⟨g, 8, none⟩ = some (.string q.op) ∧ W.cell? ⟨g, 9, none⟩ = some (.bool q.hq) ∧ W.cell? ⟨g, 10, none⟩ = some (.string q.qu) ∧ W.cell? ⟨g, 11, none⟩ = some (.bool q.hf) ∧ W.cell? ⟨g, 12, none⟩ = some (.string q.fr) :=
 ⟨h.cell 0, h.cell 1, h.cell 2, h.cell 3, h.cell 4, h.cell 5, h.cell 6, h.cell 7, h.cell 8, h.cell 9, h.cell 10, h.cell 11, h.cell 12⟩
theorem specUrlGet (s : ByteArray) (w : World) (hs : s.size ≤ 1048576) :
  Calls Tryz.prog 83 #[.string s] w fun e w' => ∃ v, e = .returned (.tuple #[.agg ((getP s.data.toList).cells v), .bool (getB s.data.toList)]) ∧ OwnS w.heap.size v (getP s.data.toList).ps w' ∧ Below w.heap.size w w' := by
 have hln : s.data.toList.length = s.size := by simp
 have H0 : Hid (RZ w (w.alloc (.cells zeroC 31))) := RZ.start w
 unfold zeroC at H0
 have HG0 : Hid (getO s.data.toList = none → getP s.data.toList = P.zero ∧ getB s.data.toList = false) := fun h => by unfold getP getB; rw [h]; exact ⟨rfl, rfl⟩
 by_cases hb : s.size ≤ 200
 ·have hbi : (s.size : Int) ≤ 200 := by omega
  obtain ⟨t, ht⟩ : ∃ t, t = mk (trimL s.data.toList) := ⟨_, rfl⟩
  have htl : t.size ≤ 200 := by rw [ht, mk_size]; have := trim_len s.data.toList; omega
  have htd : t.data.toList = trimL s.data.toList := by rw [ht]; rfl
  have CT : Hid (∀ W, Calls Tryz.prog 111 #[.string s] W fun e w' => e = .returned (.string t) ∧ Below W.heap.size W w') := fun W => by rw [ht]; exact l3Trim s W (by omega)
  have HGO : Hid (getO s.data.toList = ((sch3 t.data.toList).bind fun q => reS (mk q.1) q.2).bind fun q => if q.ps.length ≤ 12 ∧ (writL q).length ≤ 600 then some q else none) := by
   show _ = _
   unfold getO
   rw [if_pos (by omega), ← htd, sch_both]
  have HFT : Hid (∀ q, ((sch3 t.data.toList).bind fun q => reS (mk q.1) q.2) = some q → Fit q) := by
   intro q h
   rw [← sch_both] at h
   exact fit_sch P.zero q t.data.toList (by rw [tl_size]; omega) fit_zero h
  cases hsc : sch3 t.data.toList with
  | none =>
   obtain ⟨sa, hsa⟩ : ∃ sa, sa = sch3a t.data.toList := ⟨_, rfl⟩
   obtain ⟨sb, hsb⟩ : ∃ sb, sb = sch3b t.data.toList := ⟨_, rfl⟩
   have CS : Hid (∀ W, Calls Tryz.prog 110 #[.string t] W fun e w' => e = .returned (.tuple #[.string sa, .string sb, .bool false]) ∧ Below W.heap.size W w') := fun W => by
    have := l3Scheme t W (by omega)
    rw [hsc, ← hsa, ← hsb] at this
    exact this
   obtain ⟨hgp, hgb⟩ := HG0.out (by rw [HGO.out, hsc]; rfl)
   have HGP : Hid (getP s.data.toList = P.zero) := hgp
   have HGB : Hid (getB s.data.toList = false) := hgb
   clear hln ht htd hsc hsa hsb hgp hgb HG0 HGO HFT
   go_enter Tryz.func83, Tryz.ntmps83
   go_wp2_with fail
   refine (CT.out _).mono ?_
   rintro e W1 ⟨rfl, d1⟩
   have HX1 : Hid (RZ w W1) := H0.out.later d1
   clear d1 H0 CT
   go_wp2_with fail
   refine (CS.out _).mono ?_
   rintro e W2 ⟨rfl, d2⟩
   have HX2 : Hid (RZ w W2) := HX1.out.later d2
   clear d2 HX1 CS
   obtain ⟨z0, z1, z2, z3, z4, z5, z6, z7, z8, z9, z10, z11, z12⟩ := HX2.out.zeros
   obtain ⟨y0, y1, y2, y3, y4, y5, y6, y7, y8, y9, y10, y11, y12⟩ := HX2.out.free
   obtain ⟨hf1, hf2, hf3⟩ := HX2.out.fin (.string ⟨#[]⟩) (.string ⟨#[]⟩) (.string ⟨#[]⟩) (.int .i64 0) (.string ⟨#[]⟩) (.int .i64 0) (.int .i64 0) (.slice none 0 0) (.string ⟨#[]⟩) (.bool false) (.string ⟨#[]⟩) (.bool false) (.string ⟨#[]⟩)
   have HRB : Hid (Blk w.heap.size #[(.string ⟨#[]⟩), (.string ⟨#[]⟩), (.string ⟨#[]⟩), (.int .i64 0), (.string ⟨#[]⟩), (.int .i64 0), (.int .i64 0), (.slice none 0 0), (.string ⟨#[]⟩), (.bool false), (.string ⟨#[]⟩), (.bool false), (.string ⟨#[]⟩)] 31 ((((((((((((((W2.setCell ⟨w.heap.size, 0, none⟩ (.string ⟨#[]⟩)).setCell ⟨w.heap.size, 1, none⟩ (.string ⟨#[]⟩)).setCell ⟨w.heap.size, 2, none⟩ (.string ⟨#[]⟩)).setCell ⟨w.heap.size, 3, none⟩ (.int .i64 0)).setCell ⟨w.heap.size, 4, none⟩ (.string ⟨#[]⟩)).setCell ⟨w.heap.size, 5, none⟩ (.int .i64 0)).setCell ⟨w.heap.size, 6, none⟩ (.int .i64 0)).setCell ⟨w.heap.size, 7, none⟩ (.slice none 0 0)).setCell ⟨w.heap.size, 8, none⟩ (.string ⟨#[]⟩)).setCell ⟨w.heap.size, 9, none⟩ (.bool false)).setCell ⟨w.heap.size, 10, none⟩ (.string ⟨#[]⟩)).setCell ⟨w.heap.size, 11, none⟩ (.bool false)).setCell ⟨w.heap.size, 12, none⟩ (.string ⟨#[]⟩)))) := hf1
   have HBB : Hid (Below w.heap.size w ((((((((((((((W2.setCell ⟨w.heap.size, 0, none⟩ (.string ⟨#[]⟩)).setCell ⟨w.heap.size, 1, none⟩ (.string ⟨#[]⟩)).setCell ⟨w.heap.size, 2, none⟩ (.string ⟨#[]⟩)).setCell ⟨w.heap.size, 3, none⟩ (.int .i64 0)).setCell ⟨w.heap.size, 4, none⟩ (.string ⟨#[]⟩)).setCell ⟨w.heap.size, 5, none⟩ (.int .i64 0)).setCell ⟨w.heap.size, 6, none⟩ (.int .i64 0)).setCell ⟨w.heap.size, 7, none⟩ (.slice none 0 0)).setCell ⟨w.heap.size, 8, none⟩ (.string ⟨#[]⟩)).setCell ⟨w.heap.size, 9, none⟩ (.bool false)).setCell ⟨w.heap.size, 10, none⟩ (.string ⟨#[]⟩)).setCell ⟨w.heap.size, 11, none⟩ (.bool false)).setCell ⟨w.heap.size, 12, none⟩ (.string ⟨#[]⟩)))) := hf2
   clear hf1 hf2 hf3 HX2
   go_wp2
   generalize ((((((((((((((W2.setCell ⟨w.heap.size, 0, none⟩ (.string ⟨#[]⟩)).setCell ⟨w.heap.size, 1, none⟩ (.string ⟨#[]⟩)).setCell ⟨w.heap.size, 2, none⟩ (.string ⟨#[]⟩)).setCell ⟨w.heap.size, 3, none⟩ (.int .i64 0)).setCell ⟨w.heap.size, 4, none⟩ (.string ⟨#[]⟩)).setCell ⟨w.heap.size, 5, none⟩ (.int .i64 0)).setCell ⟨w.heap.size, 6, none⟩ (.int .i64 0)).setCell ⟨w.heap.size, 7, none⟩ (.slice none 0 0)).setCell ⟨w.heap.size, 8, none⟩ (.string ⟨#[]⟩)).setCell ⟨w.heap.size, 9, none⟩ (.bool false)).setCell ⟨w.heap.size, 10, none⟩ (.string ⟨#[]⟩)).setCell ⟨w.heap.size, 11, none⟩ (.bool false)).setCell ⟨w.heap.size, 12, none⟩ (.string ⟨#[]⟩))) = W9 at *
   clear z0 z1 z2 z3 z4 z5 z6 z7 z8 z9 z10 z11 z12 y0 y1 y2 y3 y4 y5 y6 y7 y8 y9 y10 y11 y12
   have z0 : W9.cell? ⟨w.heap.size, 0, none⟩ = some (.string ⟨#[]⟩) := HRB.out.cell 0
   have z1 : W9.cell? ⟨w.heap.size, 1, none⟩ = some (.string ⟨#[]⟩) := HRB.out.cell 1
   have z2 : W9.cell? ⟨w.heap.size, 2, none⟩ = some (.string ⟨#[]⟩) := HRB.out.cell 2
   have z3 : W9.cell? ⟨w.heap.size, 3, none⟩ = some (.int .i64 0) := HRB.out.cell 3
   have z4 : W9.cell? ⟨w.heap.size, 4, none⟩ = some (.string ⟨#[]⟩) := HRB.out.cell 4
   have z5 : W9.cell? ⟨w.heap.size, 5, none⟩ = some (.int .i64 0) := HRB.out.cell 5
   have z6 : W9.cell? ⟨w.heap.size, 6, none⟩ = some (.int .i64 0) := HRB.out.cell 6
   have z7 : W9.cell? ⟨w.heap.size, 7, none⟩ = some (.slice none 0 0) := HRB.out.cell 7
   have z8 : W9.cell? ⟨w.heap.size, 8, none⟩ = some (.string ⟨#[]⟩) := HRB.out.cell 8
   have z9 : W9.cell? ⟨w.heap.size, 9, none⟩ = some (.bool false) := HRB.out.cell 9
   have z10 : W9.cell? ⟨w.heap.size, 10, none⟩ = some (.string ⟨#[]⟩) := HRB.out.cell 10
   have z11 : W9.cell? ⟨w.heap.size, 11, none⟩ = some (.bool false) := HRB.out.cell 11
   have z12 : W9.cell? ⟨w.heap.size, 12, none⟩ = some (.string ⟨#[]⟩) := HRB.out.cell 12
   refine bodyPost_ret (v := .tuple #[.agg #[(.string ⟨#[]⟩), (.string ⟨#[]⟩), (.string ⟨#[]⟩), (.int .i64 0), (.string ⟨#[]⟩), (.int .i64 0), (.int .i64 0), (.slice none 0 0), (.string ⟨#[]⟩), (.bool false), (.string ⟨#[]⟩), (.bool false), (.string ⟨#[]⟩)], .bool false]) (by simp [results, Tryz.results83, go_sem, z0, z1, z2, z3, z4, z5, z6, z7, z8, z9, z10, z11, z12]) rfl ?_
   exact ⟨.slice none 0 0, by rw [HGP.out, HGB.out]; rfl, by rw [HGP.out]; exact ownS_nil _ _, HBB.out⟩
  | some ab =>
   obtain ⟨sa, sb⟩ := ab
   have hsbl : sb.length ≤ 1000 := by
    have h : sch3 t.data.toList = some (sa, sb) := hsc
    unfold sch3 at h
    split at h
    ·simp only [Option.some.injEq, Prod.mk.injEq] at h
     rw [← h.2, List.length_drop, tl_size]; omega
    ·cases h
   obtain ⟨xa, hxa⟩ : ∃ xa, xa = mk sa := ⟨_, rfl⟩
   obtain ⟨xb, hxb⟩ : ∃ xb, xb = mk sb := ⟨_, rfl⟩
   have CS : Hid (∀ W, Calls Tryz.prog 110 #[.string t] W fun e w' => e = .returned (.tuple #[.string xa, .string xb, .bool true]) ∧ Below W.heap.size W w') := fun W => by
    have := l3Scheme t W (by omega)
    unfold sch3a sch3b at this
    rw [hsc] at this
    rw [hxa, hxb]
    exact this
   obtain ⟨R, hR⟩ : ∃ R, R = reS (mk sa) sb := ⟨_, rfl⟩
   have CR : Hid (∀ W, Calls Tryz.prog 112 #[.string xa, .string xb] W fun e w' => ∃ v, e = .returned (.tuple #[.agg ((R.getD P.zero).cells v), .bool R.isSome]) ∧ OwnS W.heap.size v (R.getD P.zero).ps w' ∧ Below W.heap.size W w') := fun W => by
    rw [hxa, hxb, hR]; exact l3Read (mk sa) sb W hsbl
   have HGR : Hid (getO s.data.toList = R.bind fun q => if q.ps.length ≤ 12 ∧ (writL q).length ≤ 600 then some q else none) := by
    show _ = _
    rw [HGO.out, hsc, hR]; rfl
   have HFR : Hid (∀ q, R = some q → Fit q) := fun q h => HFT.out q (by rw [hsc, ← h, hR]; rfl)
   clear hln ht htd hsc hxa hxb hR HGO HFT hsbl
   cases R with
   | none =>
    obtain ⟨hgp, hgb⟩ := HG0.out (by rw [HGR.out]; rfl)
    have HGP : Hid (getP s.data.toList = P.zero) := hgp
    have HGB : Hid (getB s.data.toList = false) := hgb
    have CR2 : Hid (∀ W, Calls Tryz.prog 112 #[.string xa, .string xb] W fun e w' => ∃ v, e = .returned (.tuple #[.agg (P.zero.cells v), .bool false]) ∧ OwnS W.heap.size v [] w' ∧ Below W.heap.size W w') := fun W => CR.out W
    clear hgp hgb HG0 HGR HFR CR
    go_enter Tryz.func83, Tryz.ntmps83
    go_wp2_with fail
    refine (CT.out _).mono ?_
    rintro e W1 ⟨rfl, d1⟩
    have HX1 : Hid (RZ w W1) := H0.out.later d1
    clear d1 H0 CT
    go_wp2_with fail
    refine (CS.out _).mono ?_
    rintro e W2 ⟨rfl, d2⟩
    have HX2 : Hid (RZ w W2) := HX1.out.later d2
    clear d2 HX1 CS
    go_wp2_with fail
    refine (CR2.out _).mono ?_
    rintro e W3 ⟨v3, rfl, hO3, d3⟩
    have hX3 : RZ w W3 := HX2.out.later d3
    obtain ⟨a', c', hv3, _⟩ := hO3.shape
    obtain ⟨n', hn'⟩ : ∃ n', n' = ([] : List (List UInt8)).length := ⟨_, rfl⟩
    rw [← hn'] at hv3
    subst hv3
    have HX4 : Hid (RZ w (W3.alloc (.cells #[(.string ⟨#[]⟩), (.string ⟨#[]⟩), (.string ⟨#[]⟩), (.int .i64 0), (.string ⟨#[]⟩), (.int .i64 0), (.int .i64 0), (.slice a' n' c'), (.string ⟨#[]⟩), (.bool false), (.string ⟨#[]⟩), (.bool false), (.string ⟨#[]⟩)] 31))) := hX3.later ((Below.refl _ W3).alloc (Nat.le_refl _) _)
    clear hX3 hO3 d3 HX2 CR2 hn'
    unfold P.cells P.zero
    obtain ⟨z0, z1, z2, z3, z4, z5, z6, z7, z8, z9, z10, z11, z12⟩ := HX4.out.zeros
    obtain ⟨y0, y1, y2, y3, y4, y5, y6, y7, y8, y9, y10, y11, y12⟩ := HX4.out.free
    obtain ⟨hf1, hf2, hf3⟩ := HX4.out.fin (.string ⟨#[]⟩) (.string ⟨#[]⟩) (.string ⟨#[]⟩) (.int .i64 0) (.string ⟨#[]⟩) (.int .i64 0) (.int .i64 0) (.slice none 0 0) (.string ⟨#[]⟩) (.bool false) (.string ⟨#[]⟩) (.bool false) (.string ⟨#[]⟩)
    have HRB : Hid (Blk w.heap.size #[(.string ⟨#[]⟩), (.string ⟨#[]⟩), (.string ⟨#[]⟩), (.int .i64 0), (.string ⟨#[]⟩), (.int .i64 0), (.int .i64 0), (.slice none 0 0), (.string ⟨#[]⟩), (.bool false), (.string ⟨#[]⟩), (.bool false), (.string ⟨#[]⟩)] 31 (((((((((((((((W3.alloc (.cells #[(.string ⟨#[]⟩), (.string ⟨#[]⟩), (.string ⟨#[]⟩), (.int .i64 0), (.string ⟨#[]⟩), (.int .i64 0), (.int .i64 0), (.slice a' n' c'), (.string ⟨#[]⟩), (.bool false), (.string ⟨#[]⟩), (.bool false), (.string ⟨#[]⟩)] 31)).setCell ⟨w.heap.size, 0, none⟩ (.string ⟨#[]⟩)).setCell ⟨w.heap.size, 1, none⟩ (.string ⟨#[]⟩)).setCell ⟨w.heap.size, 2, none⟩ (.string ⟨#[]⟩)).setCell ⟨w.heap.size, 3, none⟩ (.int .i64 0)).setCell ⟨w.heap.size, 4, none⟩ (.string ⟨#[]⟩)).setCell ⟨w.heap.size, 5, none⟩ (.int .i64 0)).setCell ⟨w.heap.size, 6, none⟩ (.int .i64 0)).setCell ⟨w.heap.size, 7, none⟩ (.slice none 0 0)).setCell ⟨w.heap.size, 8, none⟩ (.string ⟨#[]⟩)).setCell ⟨w.heap.size, 9, none⟩ (.bool false)).setCell ⟨w.heap.size, 10, none⟩ (.string ⟨#[]⟩)).setCell ⟨w.heap.size, 11, none⟩ (.bool false)).setCell ⟨w.heap.size, 12, none⟩ (.string ⟨#[]⟩)))) := hf1
    have HBB : Hid (Below w.heap.size w (((((((((((((((W3.alloc (.cells #[(.string ⟨#[]⟩), (.string ⟨#[]⟩), (.string ⟨#[]⟩), (.int .i64 0), (.string ⟨#[]⟩), (.int .i64 0), (.int .i64 0), (.slice a' n' c'), (.string ⟨#[]⟩), (.bool false), (.string ⟨#[]⟩), (.bool false), (.string ⟨#[]⟩)] 31)).setCell ⟨w.heap.size, 0, none⟩ (.string ⟨#[]⟩)).setCell ⟨w.heap.size, 1, none⟩ (.string ⟨#[]⟩)).setCell ⟨w.heap.size, 2, none⟩ (.string ⟨#[]⟩)).setCell ⟨w.heap.size, 3, none⟩ (.int .i64 0)).setCell ⟨w.heap.size, 4, none⟩ (.string ⟨#[]⟩)).setCell ⟨w.heap.size, 5, none⟩ (.int .i64 0)).setCell ⟨w.heap.size, 6, none⟩ (.int .i64 0)).setCell ⟨w.heap.size, 7, none⟩ (.slice none 0 0)).setCell ⟨w.heap.size, 8, none⟩ (.string ⟨#[]⟩)).setCell ⟨w.heap.size, 9, none⟩ (.bool false)).setCell ⟨w.heap.size, 10, none⟩ (.string ⟨#[]⟩)).setCell ⟨w.heap.size, 11, none⟩ (.bool false)).setCell ⟨w.heap.size, 12, none⟩ (.string ⟨#[]⟩)))) := hf2
    clear hf1 hf2 hf3 HX4
    go_wp2
    generalize (((((((((((((((W3.alloc (.cells #[(.string ⟨#[]⟩), (.string ⟨#[]⟩), (.string ⟨#[]⟩), (.int .i64 0), (.string ⟨#[]⟩), (.int .i64 0), (.int .i64 0), (.slice a' n' c'), (.string ⟨#[]⟩), (.bool false), (.string ⟨#[]⟩), (.bool false), (.string ⟨#[]⟩)] 31)).setCell ⟨w.heap.size, 0, none⟩ (.string ⟨#[]⟩)).setCell ⟨w.heap.size, 1, none⟩ (.string ⟨#[]⟩)).setCell ⟨w.heap.size, 2, none⟩ (.string ⟨#[]⟩)).setCell ⟨w.heap.size, 3, none⟩ (.int .i64 0)).setCell ⟨w.heap.size, 4, none⟩ (.string ⟨#[]⟩)).setCell ⟨w.heap.size, 5, none⟩ (.int .i64 0)).setCell ⟨w.heap.size, 6, none⟩ (.int .i64 0)).setCell ⟨w.heap.size, 7, none⟩ (.slice none 0 0)).setCell ⟨w.heap.size, 8, none⟩ (.string ⟨#[]⟩)).setCell ⟨w.heap.size, 9, none⟩ (.bool false)).setCell ⟨w.heap.size, 10, none⟩ (.string ⟨#[]⟩)).setCell ⟨w.heap.size, 11, none⟩ (.bool false)).setCell ⟨w.heap.size, 12, none⟩ (.string ⟨#[]⟩))) = W9 at *
    clear z0 z1 z2 z3 z4 z5 z6 z7 z8 z9 z10 z11 z12 y0 y1 y2 y3 y4 y5 y6 y7 y8 y9 y10 y11 y12
    have z0 : W9.cell? ⟨w.heap.size, 0, none⟩ = some (.string ⟨#[]⟩) := HRB.out.cell 0
    have z1 : W9.cell? ⟨w.heap.size, 1, none⟩ = some (.string ⟨#[]⟩) := HRB.out.cell 1
    have z2 : W9.cell? ⟨w.heap.size, 2, none⟩ = some (.string ⟨#[]⟩) := HRB.out.cell 2
    have z3 : W9.cell? ⟨w.heap.size, 3, none⟩ = some (.int .i64 0) := HRB.out.cell 3
    have z4 : W9.cell? ⟨w.heap.size, 4, none⟩ = some (.string ⟨#[]⟩) := HRB.out.cell 4
    have z5 : W9.cell? ⟨w.heap.size, 5, none⟩ = some (.int .i64 0) := HRB.out.cell 5
    have z6 : W9.cell? ⟨w.heap.size, 6, none⟩ = some (.int .i64 0) := HRB.out.cell 6
    have z7 : W9.cell? ⟨w.heap.size, 7, none⟩ = some (.slice none 0 0) := HRB.out.cell 7
    have z8 : W9.cell? ⟨w.heap.size, 8, none⟩ = some (.string ⟨#[]⟩) := HRB.out.cell 8
    have z9 : W9.cell? ⟨w.heap.size, 9, none⟩ = some (.bool false) := HRB.out.cell 9
    have z10 : W9.cell? ⟨w.heap.size, 10, none⟩ = some (.string ⟨#[]⟩) := HRB.out.cell 10
    have z11 : W9.cell? ⟨w.heap.size, 11, none⟩ = some (.bool false) := HRB.out.cell 11
    have z12 : W9.cell? ⟨w.heap.size, 12, none⟩ = some (.string ⟨#[]⟩) := HRB.out.cell 12
    refine bodyPost_ret (v := .tuple #[.agg #[(.string ⟨#[]⟩), (.string ⟨#[]⟩), (.string ⟨#[]⟩), (.int .i64 0), (.string ⟨#[]⟩), (.int .i64 0), (.int .i64 0), (.slice none 0 0), (.string ⟨#[]⟩), (.bool false), (.string ⟨#[]⟩), (.bool false), (.string ⟨#[]⟩)], .bool false]) (by simp [results, Tryz.results83, go_sem, z0, z1, z2, z3, z4, z5, z6, z7, z8, z9, z10, z11, z12]) rfl ?_
    exact ⟨.slice none 0 0, by rw [HGP.out, HGB.out]; rfl, by rw [HGP.out]; exact ownS_nil _ _, HBB.out⟩
   | some q =>
    have hF : Fit q := HFR.out q rfl
    have hft : q.tot ≤ 10000 := hF.tot
    obtain ⟨ft, hfe⟩ : ∃ ft, ft = decide (q.ps.length ≤ 12 ∧ (writL q).length ≤ 600) := ⟨_, rfl⟩
    have HGN : Hid (ft = false → getP s.data.toList = P.zero ∧ getB s.data.toList = false) := fun h => by
     have hn : ¬ (q.ps.length ≤ 12 ∧ (writL q).length ≤ 600) := by rw [h] at hfe; exact of_decide_eq_false hfe.symm
     exact HG0.out (by rw [HGR.out]; show (if _ then _ else _) = _; rw [if_neg hn])
    have HGY : Hid (ft = true → getP s.data.toList = q ∧ getB s.data.toList = true) := fun h => by
     have hy : q.ps.length ≤ 12 ∧ (writL q).length ≤ 600 := by rw [h] at hfe; exact of_decide_eq_true hfe.symm
     have : getO s.data.toList = some q := by rw [HGR.out]; show (if _ then _ else _) = _; rw [if_pos hy]
     unfold getP getB; rw [this]; exact ⟨rfl, rfl⟩
    have CFF : Hid (∀ (a : Option Addr) (c : Nat) W, StrsOf a q.ps.length q.ps W → Calls Tryz.prog 113 #[.agg (q.cells (.slice a q.ps.length c))] W fun e w' => e = .returned (.bool ft) ∧ Below W.heap.size W w') := fun a c W h => by
     rw [hfe]
     exact l3Fits q a c W h (by omega) (by have := hF.p1; omega) (fun h0 W => l1DecM q.po W h0 (by have := hF.p1; omega))
    have CR2 : Hid (∀ W, Calls Tryz.prog 112 #[.string xa, .string xb] W fun e w' => ∃ v, e = .returned (.tuple #[.agg (q.cells v), .bool true]) ∧ OwnS W.heap.size v q.ps w' ∧ Below W.heap.size W w') := fun W => CR.out W
    clear HG0 HGR HFR CR hF hft hfe
    go_enter Tryz.func83, Tryz.ntmps83
    go_wp2_with fail
    refine (CT.out _).mono ?_
    rintro e W1 ⟨rfl, d1⟩
    have HX1 : Hid (RZ w W1) := H0.out.later d1
    clear d1 H0 CT
    go_wp2_with fail
    refine (CS.out _).mono ?_
    rintro e W2 ⟨rfl, d2⟩
    have HX2 : Hid (RZ w W2) := HX1.out.later d2
    clear d2 HX1 CS
    go_wp2_with fail
    refine (CR2.out _).mono ?_
    rintro e W3 ⟨v3, rfl, hO3, d3⟩
    have hX3 : RZ w W3 := HX2.out.later d3
    have hlt2 : w.heap.size < W2.heap.size := HX2.out.rs.lt
    obtain ⟨a', c', hv3, _, hS3⟩ := hO3.strs
    have CF3 : Hid (∀ W, Below W3.heap.size W3 W → Calls Tryz.prog 113 #[.agg (q.cells (.slice a' q.ps.length c'))] W fun e w' => e = .returned (.bool ft) ∧ Below W.heap.size W w') := fun W b => CFF.out a' c' W (hS3.later b)
    obtain ⟨n', hn'⟩ : ∃ n', n' = q.ps.length := ⟨_, rfl⟩
    rw [← hn'] at hv3 CF3
    subst hv3
    have HX4 : Hid (RZ w (W3.alloc (.cells #[(.string q.sc), (.string q.us), (.string q.pw), (.int .i64 q.hk), (.string q.hn), (.int .i64 q.ha), (.int .i64 q.po), (.slice a' n' c'), (.string q.op), (.bool q.hq), (.string q.qu), (.bool q.hf), (.string q.fr)] 31))) := hX3.later ((Below.refl _ W3).alloc (Nat.le_refl _) _)
    have HB4 : Hid (Below W3.heap.size W3 (W3.alloc (.cells #[(.string q.sc), (.string q.us), (.string q.pw), (.int .i64 q.hk), (.string q.hn), (.int .i64 q.ha), (.int .i64 q.po), (.slice a' n' c'), (.string q.op), (.bool q.hq), (.string q.qu), (.bool q.hf), (.string q.fr)] 31))) := (Below.refl _ W3).alloc (Nat.le_refl _) _
    have HK4 : Hid (Blk W3.heap.size #[(.string q.sc), (.string q.us), (.string q.pw), (.int .i64 q.hk), (.string q.hn), (.int .i64 q.ha), (.int .i64 q.po), (.slice a' n' c'), (.string q.op), (.bool q.hq), (.string q.qu), (.bool q.hf), (.string q.fr)] 31 (W3.alloc (.cells #[(.string q.sc), (.string q.us), (.string q.pw), (.int .i64 q.hk), (.string q.hn), (.int .i64 q.ha), (.int .i64 q.po), (.slice a' n' c'), (.string q.op), (.bool q.hq), (.string q.qu), (.bool q.hf), (.string q.fr)] 31))) := Blk.new W3 _ _
    have HO4 : Hid (OwnS W2.heap.size (.slice a' n' c') q.ps (W3.alloc (.cells #[(.string q.sc), (.string q.us), (.string q.pw), (.int .i64 q.hk), (.string q.hn), (.int .i64 q.ha), (.int .i64 q.po), (.slice a' n' c'), (.string q.op), (.bool q.hq), (.string q.qu), (.bool q.hf), (.string q.fr)] 31))) := hO3.later HB4.out
    clear hX3 hO3 d3 HX2 CR2 hn' CFF hS3
    unfold P.cells at CF3 ⊢
    go_wp2_with fail
    refine (CF3.out _ HB4.out).mono ?_
    rintro e W5 ⟨rfl, d5⟩
    have HX5 : Hid (RZ w W5) := HX4.out.later d5
    have HK5 : Hid (Blk W3.heap.size #[(.string q.sc), (.string q.us), (.string q.pw), (.int .i64 q.hk), (.string q.hn), (.int .i64 q.ha), (.int .i64 q.po), (.slice a' n' c'), (.string q.op), (.bool q.hq), (.string q.qu), (.bool q.hf), (.string q.fr)] 31 W5) := HK4.out.below d5 HK4.out.lt
    have HO5 : Hid (OwnS W2.heap.size (.slice a' n' c') q.ps W5) := HO4.out.later d5
    clear d5 HX4 HB4 HK4 HO4 CF3
    cases ft with
    | false =>
     obtain ⟨hgp, hgb⟩ := HGN.out rfl
     have HGP : Hid (getP s.data.toList = P.zero) := hgp
     have HGB : Hid (getB s.data.toList = false) := hgb
     clear hgp hgb HGN HGY HK5 HO5
     obtain ⟨z0, z1, z2, z3, z4, z5, z6, z7, z8, z9, z10, z11, z12⟩ := HX5.out.zeros
     obtain ⟨y0, y1, y2, y3, y4, y5, y6, y7, y8, y9, y10, y11, y12⟩ := HX5.out.free
     obtain ⟨hf1, hf2, hf3⟩ := HX5.out.fin (.string ⟨#[]⟩) (.string ⟨#[]⟩) (.string ⟨#[]⟩) (.int .i64 0) (.string ⟨#[]⟩) (.int .i64 0) (.int .i64 0) (.slice none 0 0) (.string ⟨#[]⟩) (.bool false) (.string ⟨#[]⟩) (.bool false) (.string ⟨#[]⟩)
     have HRB : Hid (Blk w.heap.size #[(.string ⟨#[]⟩), (.string ⟨#[]⟩), (.string ⟨#[]⟩), (.int .i64 0), (.string ⟨#[]⟩), (.int .i64 0), (.int .i64 0), (.slice none 0 0), (.string ⟨#[]⟩), (.bool false), (.string ⟨#[]⟩), (.bool false), (.string ⟨#[]⟩)] 31 ((((((((((((((W5.setCell ⟨w.heap.size, 0, none⟩ (.string ⟨#[]⟩)).setCell ⟨w.heap.size, 1, none⟩ (.string ⟨#[]⟩)).setCell ⟨w.heap.size, 2, none⟩ (.string ⟨#[]⟩)).setCell ⟨w.heap.size, 3, none⟩ (.int .i64 0)).setCell ⟨w.heap.size, 4, none⟩ (.string ⟨#[]⟩)).setCell ⟨w.heap.size, 5, none⟩ (.int .i64 0)).setCell ⟨w.heap.size, 6, none⟩ (.int .i64 0)).setCell ⟨w.heap.size, 7, none⟩ (.slice none 0 0)).setCell ⟨w.heap.size, 8, none⟩ (.string ⟨#[]⟩)).setCell ⟨w.heap.size, 9, none⟩ (.bool false)).setCell ⟨w.heap.size, 10, none⟩ (.string ⟨#[]⟩)).setCell ⟨w.heap.size, 11, none⟩ (.bool false)).setCell ⟨w.heap.size, 12, none⟩ (.string ⟨#[]⟩)))) := hf1
     have HBB : Hid (Below w.heap.size w ((((((((((((((W5.setCell ⟨w.heap.size, 0, none⟩ (.string ⟨#[]⟩)).setCell ⟨w.heap.size, 1, none⟩ (.string ⟨#[]⟩)).setCell ⟨w.heap.size, 2, none⟩ (.string ⟨#[]⟩)).setCell ⟨w.heap.size, 3, none⟩ (.int .i64 0)).setCell ⟨w.heap.size, 4, none⟩ (.string ⟨#[]⟩)).setCell ⟨w.heap.size, 5, none⟩ (.int .i64 0)).setCell ⟨w.heap.size, 6, none⟩ (.int .i64 0)).setCell ⟨w.heap.size, 7, none⟩ (.slice none 0 0)).setCell ⟨w.heap.size, 8, none⟩ (.string ⟨#[]⟩)).setCell ⟨w.heap.size, 9, none⟩ (.bool false)).setCell ⟨w.heap.size, 10, none⟩ (.string ⟨#[]⟩)).setCell ⟨w.heap.size, 11, none⟩ (.bool false)).setCell ⟨w.heap.size, 12, none⟩ (.string ⟨#[]⟩)))) := hf2
     clear hf1 hf2 hf3 HX5
     go_wp2
     generalize ((((((((((((((W5.setCell ⟨w.heap.size, 0, none⟩ (.string ⟨#[]⟩)).setCell ⟨w.heap.size, 1, none⟩ (.string ⟨#[]⟩)).setCell ⟨w.heap.size, 2, none⟩ (.string ⟨#[]⟩)).setCell ⟨w.heap.size, 3, none⟩ (.int .i64 0)).setCell ⟨w.heap.size, 4, none⟩ (.string ⟨#[]⟩)).setCell ⟨w.heap.size, 5, none⟩ (.int .i64 0)).setCell ⟨w.heap.size, 6, none⟩ (.int .i64 0)).setCell ⟨w.heap.size, 7, none⟩ (.slice none 0 0)).setCell ⟨w.heap.size, 8, none⟩ (.string ⟨#[]⟩)).setCell ⟨w.heap.size, 9, none⟩ (.bool false)).setCell ⟨w.heap.size, 10, none⟩ (.string ⟨#[]⟩)).setCell ⟨w.heap.size, 11, none⟩ (.bool false)).setCell ⟨w.heap.size, 12, none⟩ (.string ⟨#[]⟩))) = W9 at *
     clear z0 z1 z2 z3 z4 z5 z6 z7 z8 z9 z10 z11 z12 y0 y1 y2 y3 y4 y5 y6 y7 y8 y9 y10 y11 y12
     have z0 : W9.cell? ⟨w.heap.size, 0, none⟩ = some (.string ⟨#[]⟩) := HRB.out.cell 0
     have z1 : W9.cell? ⟨w.heap.size, 1, none⟩ = some (.string ⟨#[]⟩) := HRB.out.cell 1
     have z2 : W9.cell? ⟨w.heap.size, 2, none⟩ = some (.string ⟨#[]⟩) := HRB.out.cell 2
     have z3 : W9.cell? ⟨w.heap.size, 3, none⟩ = some (.int .i64 0) := HRB.out.cell 3
     have z4 : W9.cell? ⟨w.heap.size, 4, none⟩ = some (.string ⟨#[]⟩) := HRB.out.cell 4
     have z5 : W9.cell? ⟨w.heap.size, 5, none⟩ = some (.int .i64 0) := HRB.out.cell 5
     have z6 : W9.cell? ⟨w.heap.size, 6, none⟩ = some (.int .i64 0) := HRB.out.cell 6
     have z7 : W9.cell? ⟨w.heap.size, 7, none⟩ = some (.slice none 0 0) := HRB.out.cell 7
     have z8 : W9.cell? ⟨w.heap.size, 8, none⟩ = some (.string ⟨#[]⟩) := HRB.out.cell 8
     have z9 : W9.cell? ⟨w.heap.size, 9, none⟩ = some (.bool false) := HRB.out.cell 9
     have z10 : W9.cell? ⟨w.heap.size, 10, none⟩ = some (.string ⟨#[]⟩) := HRB.out.cell 10
     have z11 : W9.cell? ⟨w.heap.size, 11, none⟩ = some (.bool false) := HRB.out.cell 11
     have z12 : W9.cell? ⟨w.heap.size, 12, none⟩ = some (.string ⟨#[]⟩) := HRB.out.cell 12
     refine bodyPost_ret (v := .tuple #[.agg #[(.string ⟨#[]⟩), (.string ⟨#[]⟩), (.string ⟨#[]⟩), (.int .i64 0), (.string ⟨#[]⟩), (.int .i64 0), (.int .i64 0), (.slice none 0 0), (.string ⟨#[]⟩), (.bool false), (.string ⟨#[]⟩), (.bool false), (.string ⟨#[]⟩)], .bool false]) (by simp [results, Tryz.results83, go_sem, z0, z1, z2, z3, z4, z5, z6, z7, z8, z9, z10, z11, z12]) rfl ?_
     exact ⟨.slice none 0 0, by rw [HGP.out, HGB.out]; rfl, by rw [HGP.out]; exact ownS_nil _ _, HBB.out⟩
    | true =>
     obtain ⟨hgp, hgb⟩ := HGY.out rfl
     have HGP : Hid (getP s.data.toList = q) := hgp
     have HGB : Hid (getB s.data.toList = true) := hgb
     clear hgp hgb HGN HGY
     obtain ⟨k0, k1, k2, k3, k4, k5, k6, k7, k8, k9, k10, k11, k12⟩ := Blk.cells13 (q := q) HK5.out
     obtain ⟨z0, z1, z2, z3, z4, z5, z6, z7, z8, z9, z10, z11, z12⟩ := HX5.out.zeros
     obtain ⟨y0, y1, y2, y3, y4, y5, y6, y7, y8, y9, y10, y11, y12⟩ := HX5.out.free
     obtain ⟨hf1, hf2, hf3⟩ := HX5.out.fin (.string q.sc) (.string q.us) (.string q.pw) (.int .i64 q.hk) (.string q.hn) (.int .i64 q.ha) (.int .i64 q.po) (.slice a' n' c') (.string q.op) (.bool q.hq) (.string q.qu) (.bool q.hf) (.string q.fr)
     have HRB : Hid (Blk w.heap.size #[(.string q.sc), (.string q.us), (.string q.pw), (.int .i64 q.hk), (.string q.hn), (.int .i64 q.ha), (.int .i64 q.po), (.slice a' n' c'), (.string q.op), (.bool q.hq), (.string q.qu), (.bool q.hf), (.string q.fr)] 31 ((((((((((((((W5.setCell ⟨w.heap.size, 0, none⟩ (.string q.sc)).setCell ⟨w.heap.size, 1, none⟩ (.string q.us)).setCell ⟨w.heap.size, 2, none⟩ (.string q.pw)).setCell ⟨w.heap.size, 3, none⟩ (.int .i64 q.hk)).setCell ⟨w.heap.size, 4, none⟩ (.string q.hn)).setCell ⟨w.heap.size, 5, none⟩ (.int .i64 q.ha)).setCell ⟨w.heap.size, 6, none⟩ (.int .i64 q.po)).setCell ⟨w.heap.size, 7, none⟩ (.slice a' n' c')).setCell ⟨w.heap.size, 8, none⟩ (.string q.op)).setCell ⟨w.heap.size, 9, none⟩ (.bool q.hq)).setCell ⟨w.heap.size, 10, none⟩ (.string q.qu)).setCell ⟨w.heap.size, 11, none⟩ (.bool q.hf)).setCell ⟨w.heap.size, 12, none⟩ (.string q.fr)))) := hf1
     have HBB : Hid (Below w.heap.size w ((((((((((((((W5.setCell ⟨w.heap.size, 0, none⟩ (.string q.sc)).setCell ⟨w.heap.size, 1, none⟩ (.string q.us)).setCell ⟨w.heap.size, 2, none⟩ (.string q.pw)).setCell ⟨w.heap.size, 3, none⟩ (.int .i64 q.hk)).setCell ⟨w.heap.size, 4, none⟩ (.string q.hn)).setCell ⟨w.heap.size, 5, none⟩ (.int .i64 q.ha)).setCell ⟨w.heap.size, 6, none⟩ (.int .i64 q.po)).setCell ⟨w.heap.size, 7, none⟩ (.slice a' n' c')).setCell ⟨w.heap.size, 8, none⟩ (.string q.op)).setCell ⟨w.heap.size, 9, none⟩ (.bool q.hq)).setCell ⟨w.heap.size, 10, none⟩ (.string q.qu)).setCell ⟨w.heap.size, 11, none⟩ (.bool q.hf)).setCell ⟨w.heap.size, 12, none⟩ (.string q.fr)))) := hf2
     have HOO : Hid (OwnS w.heap.size (.slice a' n' c') q.ps ((((((((((((((W5.setCell ⟨w.heap.size, 0, none⟩ (.string q.sc)).setCell ⟨w.heap.size, 1, none⟩ (.string q.us)).setCell ⟨w.heap.size, 2, none⟩ (.string q.pw)).setCell ⟨w.heap.size, 3, none⟩ (.int .i64 q.hk)).setCell ⟨w.heap.size, 4, none⟩ (.string q.hn)).setCell ⟨w.heap.size, 5, none⟩ (.int .i64 q.ha)).setCell ⟨w.heap.size, 6, none⟩ (.int .i64 q.po)).setCell ⟨w.heap.size, 7, none⟩ (.slice a' n' c')).setCell ⟨w.heap.size, 8, none⟩ (.string q.op)).setCell ⟨w.heap.size, 9, none⟩ (.bool q.hq)).setCell ⟨w.heap.size, 10, none⟩ (.string q.qu)).setCell ⟨w.heap.size, 11, none⟩ (.bool q.hf)).setCell ⟨w.heap.size, 12, none⟩ (.string q.fr)))) := (HO5.out.keptG hf3 hlt2).base (by omega)
     clear hf1 hf2 hf3 HX5 HK5 HO5
     go_wp2
     generalize ((((((((((((((W5.setCell ⟨w.heap.size, 0, none⟩ (.string q.sc)).setCell ⟨w.heap.size, 1, none⟩ (.string q.us)).setCell ⟨w.heap.size, 2, none⟩ (.string q.pw)).setCell ⟨w.heap.size, 3, none⟩ (.int .i64 q.hk)).setCell ⟨w.heap.size, 4, none⟩ (.string q.hn)).setCell ⟨w.heap.size, 5, none⟩ (.int .i64 q.ha)).setCell ⟨w.heap.size, 6, none⟩ (.int .i64 q.po)).setCell ⟨w.heap.size, 7, none⟩ (.slice a' n' c')).setCell ⟨w.heap.size, 8, none⟩ (.string q.op)).setCell ⟨w.heap.size, 9, none⟩ (.bool q.hq)).setCell ⟨w.heap.size, 10, none⟩ (.string q.qu)).setCell ⟨w.heap.size, 11, none⟩ (.bool q.hf)).setCell ⟨w.heap.size, 12, none⟩ (.string q.fr))) = W9 at *
     clear z0 z1 z2 z3 z4 z5 z6 z7 z8 z9 z10 z11 z12 y0 y1 y2 y3 y4 y5 y6 y7 y8 y9 y10 y11 y12 k0 k1 k2 k3 k4 k5 k6 k7 k8 k9 k10 k11 k12
     have z0 : W9.cell? ⟨w.heap.size, 0, none⟩ = some (.string q.sc) := HRB.out.cell 0
     have z1 : W9.cell? ⟨w.heap.size, 1, none⟩ = some (.string q.us) := HRB.out.cell 1
     have z2 : W9.cell? ⟨w.heap.size, 2, none⟩ = some (.string q.pw) := HRB.out.cell 2
     have z3 : W9.cell? ⟨w.heap.size, 3, none⟩ = some (.int .i64 q.hk) := HRB.out.cell 3
     have z4 : W9.cell? ⟨w.heap.size, 4, none⟩ = some (.string q.hn) := HRB.out.cell 4
     have z5 : W9.cell? ⟨w.heap.size, 5, none⟩ = some (.int .i64 q.ha) := HRB.out.cell 5
     have z6 : W9.cell? ⟨w.heap.size, 6, none⟩ = some (.int .i64 q.po) := HRB.out.cell 6
     have z7 : W9.cell? ⟨w.heap.size, 7, none⟩ = some (.slice a' n' c') := HRB.out.cell 7
     have z8 : W9.cell? ⟨w.heap.size, 8, none⟩ = some (.string q.op) := HRB.out.cell 8
     have z9 : W9.cell? ⟨w.heap.size, 9, none⟩ = some (.bool q.hq) := HRB.out.cell 9
     have z10 : W9.cell? ⟨w.heap.size, 10, none⟩ = some (.string q.qu) := HRB.out.cell 10
     have z11 : W9.cell? ⟨w.heap.size, 11, none⟩ = some (.bool q.hf) := HRB.out.cell 11
     have z12 : W9.cell? ⟨w.heap.size, 12, none⟩ = some (.string q.fr) := HRB.out.cell 12
     refine bodyPost_ret (v := .tuple #[.agg #[(.string q.sc), (.string q.us), (.string q.pw), (.int .i64 q.hk), (.string q.hn), (.int .i64 q.ha), (.int .i64 q.po), (.slice a' n' c'), (.string q.op), (.bool q.hq), (.string q.qu), (.bool q.hf), (.string q.fr)], .bool true]) (by simp [results, Tryz.results83, go_sem, z0, z1, z2, z3, z4, z5, z6, z7, z8, z9, z10, z11, z12]) rfl ?_
     exact ⟨.slice a' n' c', by rw [HGP.out, HGB.out]; rfl, by rw [HGP.out]; exact HOO.out, HBB.out⟩
 ·obtain ⟨hgp, hgb⟩ := HG0.out (by unfold getO; rw [if_neg (by omega)])
  have HGP : Hid (getP s.data.toList = P.zero) := hgp
  have HGB : Hid (getB s.data.toList = false) := hgb
  clear hln hgp hgb HG0
  have hbi : ¬ ((s.size : Int) ≤ 200) := by omega
  go_enter Tryz.func83, Tryz.ntmps83
  have HRB : Hid (Blk w.heap.size #[(.string ⟨#[]⟩), (.string ⟨#[]⟩), (.string ⟨#[]⟩), (.int .i64 0), (.string ⟨#[]⟩), (.int .i64 0), (.int .i64 0), (.slice none 0 0), (.string ⟨#[]⟩), (.bool false), (.string ⟨#[]⟩), (.bool false), (.string ⟨#[]⟩)] 31 (w.alloc (.cells #[(.string ⟨#[]⟩), (.string ⟨#[]⟩), (.string ⟨#[]⟩), (.int .i64 0), (.string ⟨#[]⟩), (.int .i64 0), (.int .i64 0), (.slice none 0 0), (.string ⟨#[]⟩), (.bool false), (.string ⟨#[]⟩), (.bool false), (.string ⟨#[]⟩)] 31))) := H0.out.rs
  have HBB : Hid (Below w.heap.size w (w.alloc (.cells #[(.string ⟨#[]⟩), (.string ⟨#[]⟩), (.string ⟨#[]⟩), (.int .i64 0), (.string ⟨#[]⟩), (.int .i64 0), (.int .i64 0), (.slice none 0 0), (.string ⟨#[]⟩), (.bool false), (.string ⟨#[]⟩), (.bool false), (.string ⟨#[]⟩)] 31))) := H0.out.bw
  clear H0
  go_wp2
  generalize w.alloc (.cells #[(.string ⟨#[]⟩), (.string ⟨#[]⟩), (.string ⟨#[]⟩), (.int .i64 0), (.string ⟨#[]⟩), (.int .i64 0), (.int .i64 0), (.slice none 0 0), (.string ⟨#[]⟩), (.bool false), (.string ⟨#[]⟩), (.bool false), (.string ⟨#[]⟩)] 31) = W9 at *
  have z0 : W9.cell? ⟨w.heap.size, 0, none⟩ = some (.string ⟨#[]⟩) := HRB.out.cell 0
  have z1 : W9.cell? ⟨w.heap.size, 1, none⟩ = some (.string ⟨#[]⟩) := HRB.out.cell 1
  have z2 : W9.cell? ⟨w.heap.size, 2, none⟩ = some (.string ⟨#[]⟩) := HRB.out.cell 2
  have z3 : W9.cell? ⟨w.heap.size, 3, none⟩ = some (.int .i64 0) := HRB.out.cell 3
  have z4 : W9.cell? ⟨w.heap.size, 4, none⟩ = some (.string ⟨#[]⟩) := HRB.out.cell 4
  have z5 : W9.cell? ⟨w.heap.size, 5, none⟩ = some (.int .i64 0) := HRB.out.cell 5
  have z6 : W9.cell? ⟨w.heap.size, 6, none⟩ = some (.int .i64 0) := HRB.out.cell 6
  have z7 : W9.cell? ⟨w.heap.size, 7, none⟩ = some (.slice none 0 0) := HRB.out.cell 7
  have z8 : W9.cell? ⟨w.heap.size, 8, none⟩ = some (.string ⟨#[]⟩) := HRB.out.cell 8
  have z9 : W9.cell? ⟨w.heap.size, 9, none⟩ = some (.bool false) := HRB.out.cell 9
  have z10 : W9.cell? ⟨w.heap.size, 10, none⟩ = some (.string ⟨#[]⟩) := HRB.out.cell 10
  have z11 : W9.cell? ⟨w.heap.size, 11, none⟩ = some (.bool false) := HRB.out.cell 11
  have z12 : W9.cell? ⟨w.heap.size, 12, none⟩ = some (.string ⟨#[]⟩) := HRB.out.cell 12
  refine bodyPost_ret (v := .tuple #[.agg #[(.string ⟨#[]⟩), (.string ⟨#[]⟩), (.string ⟨#[]⟩), (.int .i64 0), (.string ⟨#[]⟩), (.int .i64 0), (.int .i64 0), (.slice none 0 0), (.string ⟨#[]⟩), (.bool false), (.string ⟨#[]⟩), (.bool false), (.string ⟨#[]⟩)], .bool false]) (by simp [results, Tryz.results83, go_sem, z0, z1, z2, z3, z4, z5, z6, z7, z8, z9, z10, z11, z12]) rfl ?_
  exact ⟨.slice none 0 0, by rw [HGP.out, HGB.out]; rfl, by rw [HGP.out]; exact ownS_nil _ _, HBB.out⟩
end Go.Proofs.YtnfhajhdpdidlaaGreatDoor
end

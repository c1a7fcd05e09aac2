/- spec.l3Authority. -/
import Derived.Test.YtnfhajhdpdidlaaGreatDoorB27
import Derived.Test.YtnfhajhdpdidlaaGreatDoorB29
set_option linter.unusedVariables false
set_option linter.unusedSimpArgs false
set_option maxHeartbeats 4000000
set_option maxRecDepth 100000
section
namespace Go.Proofs.YtnfhajhdpdidlaaGreatDoor
open Go.RowKit Go.Shelf
theorem BX.box {w W : World} {p : P} {v : Value} (h : BX w p v W) (q : P) (v' : Value) : BX w q v' (((((((((((((W.setCell ⟨w.heap.size, 0, none⟩ (.string q.sc)).setCell ⟨w.heap.size, 1, none⟩ (.string q.us)).setCell ⟨w.heap.size, 2, none⟩ (.string q.pw)).setCell ⟨w.heap.size, 3, none⟩ (.int .i64 q.hk)).setCell ⟨w.heap.size, 4, none⟩ (.string q.hn)).setCell ⟨w.heap.size, 5, none⟩ (.int .i64 q.ha)).setCell ⟨w.heap.size, 6, none⟩ (.int .i64 q.po)).setCell ⟨w.heap.size, 7, none⟩ v').setCell ⟨w.heap.size, 8, none⟩ (.string q.op)).setCell ⟨w.heap.size, 9, none⟩ (.bool q.hq)).setCell ⟨w.heap.size, 10, none⟩ (.string q.qu)).setCell ⟨w.heap.size, 11, none⟩ (.bool q.hf)).setCell ⟨w.heap.size, 12, none⟩ (.string q.fr)) := by
 have hb : Blk w.heap.size (q.cells v') 31 (((((((((((((W.setCell ⟨w.heap.size, 0, none⟩ (.string q.sc)).setCell ⟨w.heap.size, 1, none⟩ (.string q.us)).setCell ⟨w.heap.size, 2, none⟩ (.string q.pw)).setCell ⟨w.heap.size, 3, none⟩ (.int .i64 q.hk)).setCell ⟨w.heap.size, 4, none⟩ (.string q.hn)).setCell ⟨w.heap.size, 5, none⟩ (.int .i64 q.ha)).setCell ⟨w.heap.size, 6, none⟩ (.int .i64 q.po)).setCell ⟨w.heap.size, 7, none⟩ v').setCell ⟨w.heap.size, 8, none⟩ (.string q.op)).setCell ⟨w.heap.size, 9, none⟩ (.bool q.hq)).setCell ⟨w.heap.size, 10, none⟩ (.string q.qu)).setCell ⟨w.heap.size, 11, none⟩ (.bool q.hf)).setCell ⟨w.heap.size, 12, none⟩ (.string q.fr)) := Blk.put13 (show Blk w.heap.size #[.string p.sc, .string p.us, .string p.pw, .int .i64 p.hk, .string p.hn, .int .i64 p.ha, .int .i64 p.po, v, .string p.op, .bool p.hq, .string p.qu, .bool p.hf, .string p.fr] 31 W from h.bx) _ _ _ _ _ _ _ _ _ _ _ _ _
 have hg := grown13 w.heap.size W (.string q.sc) (.string q.us) (.string q.pw) (.int .i64 q.hk) (.string q.hn) (.int .i64 q.ha) (.int .i64 q.po) v' (.string q.op) (.bool q.hq) (.string q.qu) (.bool q.hf) (.string q.fr)
 exact ⟨hb, (hg.block _ h.rs.lt (by simp)).trans h.rs, below_put13 h.bw (Nat.le_refl _) _ _ _ _ _ _ _ _ _ _ _ _ _⟩
theorem BX.frb {w W : World} {q : P} {v : Value} (h : BX w q v W) :
  W.frozen? ⟨w.heap.size, 0, none⟩ = false ∧ W.frozen? ⟨w.heap.size, 1, none⟩ = false ∧ W.frozen? ⟨w.heap.size, 2, none⟩ = false ∧ W.frozen? ⟨w.heap.size, 3, none⟩ = false ∧ W.frozen? ⟨w.heap.size, 4, none⟩ = false ∧ W.frozen? ⟨w.heap.size, 5, none⟩ = false ∧ W.frozen? ⟨w.heap.size, 6, none⟩ = false ∧ W.frozen? ⟨w.heap.size, 7, none⟩ = false ∧ W.frozen? ⟨w.heap.size, 8, none⟩ = false ∧ W.frozen? ⟨w.heap.size, 9, none⟩ = false ∧ W.frozen? ⟨w.heap.size, 10, none⟩ = false ∧ W.frozen? ⟨w.heap.size, 11, none⟩ = false ∧ W.frozen? ⟨w.heap.size, 12, none⟩ = false :=
 ⟨h.bx.free 0, h.bx.free 1, h.bx.free 2, h.bx.free 3, h.bx.free 4, h.bx.free 5, h.bx.free 6, h.bx.free 7, h.bx.free 8, h.bx.free 9, h.bx.free 10, h.bx.free 11, h.bx.free 12⟩
def au1 (p : P) (l : List UInt8) : P := match atSplit l with
 | some (x, _) => whoS p x
 | none => p
def auPo (p : P) (l : List UInt8) : Int := if (upL [58] (whereL l)).length < (whereL l).length then portS ((whereL l).drop ((upL [58] (whereL l)).length + 1)) (ownZ p.sc) else -1
def auS (p : P) (l : List UInt8) : P := { au1 p l with hk := gk (upL [58] (whereL l)), hn := gn (upL [58] (whereL l)), ha := ga (upL [58] (whereL l)), po := auPo p l }
def auB (p : P) (l : List UInt8) : Bool := getOk (upL [58] (whereL l)) && (auPo p l != -2)
theorem whoS_sc (p : P) (l : List UInt8) : (whoS p l).sc = p.sc := by unfold whoS; split <;> rfl
theorem au1_sc (p : P) (l : List UInt8) : (au1 p l).sc = p.sc := by
 unfold au1
 cases atSplit l with
 | none => rfl
 | some q => exact whoS_sc p _
theorem hostC (l : List UInt8) (w : World) (hl : l.length ≤ 1000) :
  Calls Tryz.prog 102 #[.string (mk l)] w fun e w' => e = .returned (.tuple #[.agg #[.int .i64 (gk l), .string (gn l), .int .i64 (ga l)], .bool (getOk l)]) ∧ Below w.heap.size w w' := by
 refine (specHostGet (mk l) w (by rw [mk_size]; omega)).mono ?_
 rintro e w' ⟨rfl, b⟩
 exact ⟨by rw [mk_data, getAgg_eq], b⟩
theorem l3Authority_none (p : P) (a : Option Addr) (n c : Nat) (l : List UInt8) (w : World) (hl : l.length ≤ 1000) (hsp : atSplit l = none) :
  Calls Tryz.prog 161 #[.agg (p.cells (.slice a n c)), .string (mk l)] w fun e w' => e = .returned (.tuple #[.agg ((auS p l).cells (.slice a n c)), .bool (auB p l)]) ∧ Below w.heap.size w w' := by
 have HSP : Hid (atSplit l = none) := hsp
 clear hsp
 have H0 : Hid (BX w p (.slice a n c) ((w.alloc (.cells (p.cells (.slice a n c)) 31)).alloc (.cells zeroC 31))) := BX.start w p (.slice a n c)
 unfold P.cells zeroC at H0
 obtain ⟨s, hs⟩ : ∃ s, s = mk l := ⟨_, rfl⟩
 have hss : s.size = l.length := by rw [hs, mk_size]
 have hsz : s.size ≤ 1000 := by omega
 obtain ⟨W0, hW0⟩ : ∃ W0, W0 = ((w.alloc (.cells #[.string p.sc, .string p.us, .string p.pw, .int .i64 p.hk, .string p.hn, .int .i64 p.ha, .int .i64 p.po, .slice a n c, .string p.op, .bool p.hq, .string p.qu, .bool p.hf, .string p.fr] 31)).alloc (.cells #[(.string ⟨#[]⟩), (.string ⟨#[]⟩), (.string ⟨#[]⟩), (.int .i64 0), (.string ⟨#[]⟩), (.int .i64 0), (.int .i64 0), (.slice none 0 0), (.string ⟨#[]⟩), (.bool false), (.string ⟨#[]⟩), (.bool false), (.string ⟨#[]⟩)] 31)) := ⟨_, rfl⟩
 have HX0 : Hid (BX w p (.slice a n c) W0) := by rw [hW0]; exact H0.out
 have HS : Hid (s = mk l) := hs
 have HSS : Hid (s.size = l.length) := hss
 rw [← hs]
 clear H0 hs hss
 unfold P.cells
 go_enter Tryz.func161, Tryz.ntmps161
 go_wp2
 rw [← hW0]
 clear hW0
 go_loop [6, 7] (fun at' i => ∃ k : Nat, k ≤ s.size ∧ i = .int .i64 (k : Int) ∧ at' = .int .i64 (Lib.lastIdx s 64 k)) (fun at' i => s.size - (intOf i).toNat)
 case atStart => exact ⟨0, Nat.zero_le _, rfl, rfl⟩
 case round =>
  obtain ⟨k, hk, rfl, rfl⟩ := hrel
  by_cases hp : k < s.size
  ·have hki : (k : Int) < (s.size : Int) := by omega
   have hsk : s.data[k]! = s[k] := by
    rw [Array.getElem!_eq_getD, Array.getD_eq_getD_getElem?, Array.getElem?_eq_getElem hp]; rfl
   by_cases h64 : (s[k].toNat : Int) = 64
   ·have HL : Hid (Lib.lastIdx s 64 (k + 1) = (k : Int)) := Lib.lastIdx_hit s 64 k (by rw [hsk]; exact h64)
    clear hsk
    have h64b : ((s[k].toNat : Int) == 64) = true := by rw [beq_iff_eq]; exact h64
    clear h64
    go_wp2
    go_round
    case rel => exact ⟨k + 1, by omega, by go_num, by rw [HL.out]⟩
    case measure => simp [intOf]; omega
   ·have HL : Hid (Lib.lastIdx s 64 (k + 1) = Lib.lastIdx s 64 k) := Lib.lastIdx_miss s 64 k (by rw [hsk]; exact h64)
    clear hsk
    have h64b : ((s[k].toNat : Int) == 64) = false := beq_eq_false_iff_ne.2 h64
    clear h64
    generalize Lib.lastIdx s 64 k = z at *
    go_wp2
    go_round
    case rel => exact ⟨k + 1, by omega, by go_num, by rw [HL.out]⟩
    case measure => simp [intOf]; omega
  ·have hki : ¬ ((k : Int) < (s.size : Int)) := by omega
   have hkk : k = s.size := by omega
   subst hkk
   have hlast : Lib.lastIdx s 64 s.size = Lib.lastIndexByte (mk l) 64 := by rw [← HS.out]; rfl
   have hsp := HSP.out
   have hm1 : Lib.lastIdx s 64 s.size = -1 := by rw [hlast]; exact last_none l hsp
   rw [hm1]
   have HRW : Hid (s = mk (whereL l)) := by show _ = _; unfold whereL; rw [hsp]; exact HS.out
   obtain ⟨q1, hq1⟩ : ∃ q1, q1 = au1 p l := ⟨_, rfl⟩
   have HQ1 : Hid (q1 = au1 p l) := hq1
   have HX1 : Hid (BX w q1 (.slice a n c) W0) := by rw [hq1]; unfold au1; rw [hsp]; exact HX0.out
   have hx0 : s.extract 0 s.size = s := by
    rw [← mk_list (s.extract 0 s.size), ext_from, List.drop_zero, mk_list]
   obtain ⟨r, hr⟩ : ∃ r, r = s := ⟨_, rfl⟩
   subst hr
   clear hm1 hlast hq1 hsp HSP HX0 hki HS HSS hk hp
   obtain ⟨k2, hk2⟩ : ∃ k2, k2 = (upL [58] (whereL l)).length := ⟨_, rfl⟩
   have hrs : r.size = (whereL l).length := by rw [HRW.out, mk_size]
   have hwl := whereL_le l
   have hul := upL_le [58] (whereL l)
   have hkr : k2 ≤ r.size := by omega
   have hrz : r.size ≤ 1000 := by omega
   obtain ⟨sn, hsn⟩ : ∃ sn, sn = mk (upL [58] (whereL l)) := ⟨_, rfl⟩
   obtain ⟨hk', hhk⟩ : ∃ k, k = gk (upL [58] (whereL l)) := ⟨_, rfl⟩
   obtain ⟨hn', hhn⟩ : ∃ k, k = gn (upL [58] (whereL l)) := ⟨_, rfl⟩
   obtain ⟨ha', hha⟩ : ∃ k, k = ga (upL [58] (whereL l)) := ⟨_, rfl⟩
   obtain ⟨ho, hho⟩ : ∃ k, k = getOk (upL [58] (whereL l)) := ⟨_, rfl⟩
   have CA : Hid (∀ W, Calls Tryz.prog 136 #[.string r, .string ⟨#[58]⟩] W fun e w' => e = .returned (.int .i64 (k2 : Int)) ∧ Below W.heap.size W w') := fun W => by rw [hk2, HRW.out]; exact atC [58] (whereL l) W (by omega) (by decide)
   have CH : Hid (∀ W, Calls Tryz.prog 102 #[.string sn] W fun e w' => e = .returned (.tuple #[.agg #[.int .i64 hk', .string hn', .int .i64 ha'], .bool ho]) ∧ Below W.heap.size W w') := fun W => by rw [hsn, hhk, hhn, hha, hho]; exact hostC _ W (by omega)
   have hx1 : r.extract 0 k2 = sn := by rw [HRW.out, hsn, ext_takeM _ k2 (by omega), hk2, up_take]
   obtain ⟨sp, hsp'⟩ : ∃ sp, sp = mk ((whereL l).drop (k2 + 1)) := ⟨_, rfl⟩
   have hx2 : r.extract (k2 + 1) r.size = sp := by rw [HRW.out, hsp']; exact ext_dropM _ (k2 + 1)
   obtain ⟨own, hown⟩ : ∃ o, o = ownZ p.sc := ⟨_, rfl⟩
   have COW : Hid (∀ W, Calls Tryz.prog 62 #[.string p.sc] W fun e w' => e = .returned (.int .i64 own) ∧ w' = W) := fun W => by rw [hown]; exact l3Own p.sc W
   obtain ⟨pz, hpz⟩ : ∃ o, o = portS ((whereL l).drop (k2 + 1)) own := ⟨_, rfl⟩
   have CPO : Hid (∀ W, Calls Tryz.prog 186 #[.string sp, .int .i64 own] W fun e w' => e = .returned (.int .i64 pz) ∧ w' = W) := fun W => by rw [hsp', hpz]; exact l3Port _ own W (by rw [List.length_drop]; omega)
   have HPO : Hid (auPo p l = if k2 < r.size then pz else -1) := by show _ = _; unfold auPo; rw [hpz, hown, hrs, hk2]
   have HAS : Hid (auS p l = { q1 with hk := hk', hn := hn', ha := ha', po := auPo p l }) := by show _ = _; rw [HQ1.out, hhk, hhn, hha]; rfl
   have HAB : Hid (auB p l = (ho && (auPo p l != -2))) := by show _ = _; rw [hho]; rfl
   have hsc : q1.sc = p.sc := by rw [HQ1.out, au1_sc]
   have HSC : Hid (q1.sc = p.sc) := hsc
   clear hk2 hrs hwl hul hsn hhk hhn hha hho hsp' hown hpz hsc
   go_wp2_with fail
   refine (CA.out _).mono ?_
   rintro e W2 ⟨rfl, d2⟩
   have HX2 : Hid (BX w q1 (.slice a n c) W2) := HX1.out.later d2
   clear d2 HX1 CA
   go_wp2_with fail
   refine (CH.out _).mono ?_
   rintro e W3 ⟨rfl, d3⟩
   have hX3 : BX w q1 (.slice a n c) (W3.alloc (.cells #[.int .i64 hk', .string hn', .int .i64 ha'] 29)) := (HX2.out.later d3).later ((Below.refl _ W3).alloc (Nat.le_refl _) _)
   have hlt3 : w.heap.size + 1 < W3.heap.size := (HX2.out.later d3).rs.lt
   have HX4 : Hid (BX w { q1 with hk := hk', hn := hn', ha := ha', po := -1 } (.slice a n c) (((((W3.alloc (.cells #[.int .i64 hk', .string hn', .int .i64 ha'] 29)).setCell ⟨w.heap.size, 3, none⟩ (.int .i64 hk')).setCell ⟨w.heap.size, 4, none⟩ (.string hn')).setCell ⟨w.heap.size, 5, none⟩ (.int .i64 ha')).setCell ⟨w.heap.size, 6, none⟩ (.int .i64 (-1)))) := (((hX3.set (q := { q1 with hk := hk' }) 3 _ rfl).set (q := { q1 with hk := hk', hn := hn' }) 4 _ rfl).set (q := { q1 with hk := hk', hn := hn', ha := ha' }) 5 _ rfl).set 6 _ rfl
   have c3 : (W3.alloc (.cells #[.int .i64 hk', .string hn', .int .i64 ha'] 29)).cell? ⟨w.heap.size, 3, none⟩ = some (.int .i64 q1.hk) := hX3.cells.2.2.2.1
   have c4 : (W3.alloc (.cells #[.int .i64 hk', .string hn', .int .i64 ha'] 29)).cell? ⟨w.heap.size, 4, none⟩ = some (.string q1.hn) := hX3.cells.2.2.2.2.1
   have c5 : (W3.alloc (.cells #[.int .i64 hk', .string hn', .int .i64 ha'] 29)).cell? ⟨w.heap.size, 5, none⟩ = some (.int .i64 q1.ha) := hX3.cells.2.2.2.2.2.1
   have c6 : (W3.alloc (.cells #[.int .i64 hk', .string hn', .int .i64 ha'] 29)).cell? ⟨w.heap.size, 6, none⟩ = some (.int .i64 q1.po) := hX3.cells.2.2.2.2.2.2.1
   have f3 := hX3.bx.free 3
   have f4 := hX3.bx.free 4
   have f5 := hX3.bx.free 5
   have f6 := hX3.bx.free 6
   have hne : w.heap.size ≠ W3.heap.size := by omega
   clear hX3 d3 HX2 CH
   by_cases hkk : k2 < r.size
   ·have hki : (k2 : Int) < (r.size : Int) := by omega
    go_wp2
    generalize (((((W3.alloc (.cells #[.int .i64 hk', .string hn', .int .i64 ha'] 29)).setCell ⟨w.heap.size, 3, none⟩ (.int .i64 hk')).setCell ⟨w.heap.size, 4, none⟩ (.string hn')).setCell ⟨w.heap.size, 5, none⟩ (.int .i64 ha')).setCell ⟨w.heap.size, 6, none⟩ (.int .i64 (-1))) = V4 at *
    have e0 : V4.cell? ⟨w.heap.size, 0, none⟩ = some (.string p.sc) := (HX4.out.cells.1).trans (by rw [← HSC.out])
    have e6 : V4.cell? ⟨w.heap.size, 6, none⟩ = some (.int .i64 (-1)) := HX4.out.cells.2.2.2.2.2.2.1
    have g6 : V4.frozen? ⟨w.heap.size, 6, none⟩ = false := HX4.out.bx.free 6
    have hadd : IntKind.i64.wrap ((k2 : Int) + 1) = (k2 : Int) + 1 := by rw [IntKind.wrap_i64]; omega
    have hs2 : ∀ W : World, (Instr.slice 9 (.string r) (some (.int .i64 ((k2 : Int) + 1))) none none).run Tryz.prog W = .ok (.string sp) W := fun W => by
     have := slice_from r (k2 + 1) W (by omega)
     rw [hx2] at this
     exact this
    have HPP : Hid (auPo p l = pz) := by show _ = _; rw [HPO.out, if_pos hkk]
    obtain ⟨q, hq⟩ : ∃ q, q = { q1 with hk := hk', hn := hn', ha := ha', po := pz } := ⟨_, rfl⟩
    have HX5 : Hid (BX w q (.slice a n c) ((V4.setCell ⟨w.heap.size, 6, none⟩ (.int .i64 pz)).drew)) := by
     rw [hq]
     have := HX4.out.set (q := { q1 with hk := hk', hn := hn', ha := ha', po := pz }) 6 (.int .i64 pz) rfl
     exact ⟨this.bx, this.rs, this.bw.drew⟩
    have HQ : Hid (auS p l = q) := by show _ = _; rw [HAS.out, HPP.out, hq]
    have HBB : Hid (auB p l = (ho && (q.po != -2))) := by show _ = _; rw [HAB.out, HPP.out, hq]
    clear HX4 HPO HAS HAB HPP hq hkk c3 c4 c5 c6 f3 f4 f5 f6 hne hlt3
    go_region_with (first
     | (go_at_call 62; refine (COW.out _).mono ?_; rintro e W5 ⟨rfl, rfl⟩)
     | (go_at_call 186; refine (CPO.out _).mono ?_; rintro e W6 ⟨rfl, rfl⟩))
    go_wp2
    have HX6 : Hid (BX w q (.slice a n c) ((V4.setCell ⟨w.heap.size, 6, none⟩ (.int .i64 pz)).drew)) := HX5.out
    clear HX5 e0 e6 g6
    generalize ((V4.setCell ⟨w.heap.size, 6, none⟩ (.int .i64 pz)).drew) = V6 at *
    obtain ⟨c0, c1, c2, c3, c4, c5, c6, c7, c8, c9, c10, c11, c12⟩ := HX6.out.cells
    obtain ⟨z0, z1, z2, z3, z4, z5, z6, z7, z8, z9, z10, z11, z12⟩ := HX6.out.zeros
    obtain ⟨y0, y1, y2, y3, y4, y5, y6, y7, y8, y9, y10, y11, y12⟩ := HX6.out.free
    obtain ⟨pb, hpb⟩ : ∃ pb, (q.po != -2) = pb := ⟨_, rfl⟩
    have HBQ : Hid (auB p l = (ho && pb)) := by show _ = _; rw [HBB.out, ← hpb]
    clear HBB
    cases ho
    all_goals
     cases pb
     all_goals
      go_region
      go_wp2
      obtain ⟨hf1, hf2, hf3⟩ := HX6.out.fin (.string q.sc) (.string q.us) (.string q.pw) (.int .i64 q.hk) (.string q.hn) (.int .i64 q.ha) (.int .i64 q.po) (.slice a n c) (.string q.op) (.bool q.hq) (.string q.qu) (.bool q.hf) (.string q.fr)
      have HRB : Hid (Blk (w.heap.size + 1) #[(.string q.sc), (.string q.us), (.string q.pw), (.int .i64 q.hk), (.string q.hn), (.int .i64 q.ha), (.int .i64 q.po), (.slice a n c), (.string q.op), (.bool q.hq), (.string q.qu), (.bool q.hf), (.string q.fr)] 31 ((((((((((((((V6.setCell ⟨w.heap.size + 1, 0, none⟩ (.string q.sc)).setCell ⟨w.heap.size + 1, 1, none⟩ (.string q.us)).setCell ⟨w.heap.size + 1, 2, none⟩ (.string q.pw)).setCell ⟨w.heap.size + 1, 3, none⟩ (.int .i64 q.hk)).setCell ⟨w.heap.size + 1, 4, none⟩ (.string q.hn)).setCell ⟨w.heap.size + 1, 5, none⟩ (.int .i64 q.ha)).setCell ⟨w.heap.size + 1, 6, none⟩ (.int .i64 q.po)).setCell ⟨w.heap.size + 1, 7, none⟩ (.slice a n c)).setCell ⟨w.heap.size + 1, 8, none⟩ (.string q.op)).setCell ⟨w.heap.size + 1, 9, none⟩ (.bool q.hq)).setCell ⟨w.heap.size + 1, 10, none⟩ (.string q.qu)).setCell ⟨w.heap.size + 1, 11, none⟩ (.bool q.hf)).setCell ⟨w.heap.size + 1, 12, none⟩ (.string q.fr))).drew) := hf1.drew
      have HBW : Hid (Below w.heap.size w ((((((((((((((V6.setCell ⟨w.heap.size + 1, 0, none⟩ (.string q.sc)).setCell ⟨w.heap.size + 1, 1, none⟩ (.string q.us)).setCell ⟨w.heap.size + 1, 2, none⟩ (.string q.pw)).setCell ⟨w.heap.size + 1, 3, none⟩ (.int .i64 q.hk)).setCell ⟨w.heap.size + 1, 4, none⟩ (.string q.hn)).setCell ⟨w.heap.size + 1, 5, none⟩ (.int .i64 q.ha)).setCell ⟨w.heap.size + 1, 6, none⟩ (.int .i64 q.po)).setCell ⟨w.heap.size + 1, 7, none⟩ (.slice a n c)).setCell ⟨w.heap.size + 1, 8, none⟩ (.string q.op)).setCell ⟨w.heap.size + 1, 9, none⟩ (.bool q.hq)).setCell ⟨w.heap.size + 1, 10, none⟩ (.string q.qu)).setCell ⟨w.heap.size + 1, 11, none⟩ (.bool q.hf)).setCell ⟨w.heap.size + 1, 12, none⟩ (.string q.fr))).drew) := hf2.drew
      clear hf1 hf2 hf3
      generalize ((((((((((((((V6.setCell ⟨w.heap.size + 1, 0, none⟩ (.string q.sc)).setCell ⟨w.heap.size + 1, 1, none⟩ (.string q.us)).setCell ⟨w.heap.size + 1, 2, none⟩ (.string q.pw)).setCell ⟨w.heap.size + 1, 3, none⟩ (.int .i64 q.hk)).setCell ⟨w.heap.size + 1, 4, none⟩ (.string q.hn)).setCell ⟨w.heap.size + 1, 5, none⟩ (.int .i64 q.ha)).setCell ⟨w.heap.size + 1, 6, none⟩ (.int .i64 q.po)).setCell ⟨w.heap.size + 1, 7, none⟩ (.slice a n c)).setCell ⟨w.heap.size + 1, 8, none⟩ (.string q.op)).setCell ⟨w.heap.size + 1, 9, none⟩ (.bool q.hq)).setCell ⟨w.heap.size + 1, 10, none⟩ (.string q.qu)).setCell ⟨w.heap.size + 1, 11, none⟩ (.bool q.hf)).setCell ⟨w.heap.size + 1, 12, none⟩ (.string q.fr))).drew = W9 at *
      clear c0 c1 c2 c3 c4 c5 c6 c7 c8 c9 c10 c11 c12 z0 z1 z2 z3 z4 z5 z6 z7 z8 z9 z10 z11 z12 y0 y1 y2 y3 y4 y5 y6 y7 y8 y9 y10 y11 y12
      have z0 : W9.cell? ⟨w.heap.size + 1, 0, none⟩ = some (.string q.sc) := HRB.out.cell 0
      have z1 : W9.cell? ⟨w.heap.size + 1, 1, none⟩ = some (.string q.us) := HRB.out.cell 1
      have z2 : W9.cell? ⟨w.heap.size + 1, 2, none⟩ = some (.string q.pw) := HRB.out.cell 2
      have z3 : W9.cell? ⟨w.heap.size + 1, 3, none⟩ = some (.int .i64 q.hk) := HRB.out.cell 3
      have z4 : W9.cell? ⟨w.heap.size + 1, 4, none⟩ = some (.string q.hn) := HRB.out.cell 4
      have z5 : W9.cell? ⟨w.heap.size + 1, 5, none⟩ = some (.int .i64 q.ha) := HRB.out.cell 5
      have z6 : W9.cell? ⟨w.heap.size + 1, 6, none⟩ = some (.int .i64 q.po) := HRB.out.cell 6
      have z7 : W9.cell? ⟨w.heap.size + 1, 7, none⟩ = some (.slice a n c) := HRB.out.cell 7
      have z8 : W9.cell? ⟨w.heap.size + 1, 8, none⟩ = some (.string q.op) := HRB.out.cell 8
      have z9 : W9.cell? ⟨w.heap.size + 1, 9, none⟩ = some (.bool q.hq) := HRB.out.cell 9
      have z10 : W9.cell? ⟨w.heap.size + 1, 10, none⟩ = some (.string q.qu) := HRB.out.cell 10
      have z11 : W9.cell? ⟨w.heap.size + 1, 11, none⟩ = some (.bool q.hf) := HRB.out.cell 11
      have z12 : W9.cell? ⟨w.heap.size + 1, 12, none⟩ = some (.string q.fr) := HRB.out.cell 12
      refine bodyPost_ret (v := .tuple #[.agg #[(.string q.sc), (.string q.us), (.string q.pw), (.int .i64 q.hk), (.string q.hn), (.int .i64 q.ha), (.int .i64 q.po), (.slice a n c), (.string q.op), (.bool q.hq), (.string q.qu), (.bool q.hf), (.string q.fr)], .bool _]) (by simp [results, Tryz.results161, go_sem, z0, z1, z2, z3, z4, z5, z6, z7, z8, z9, z10, z11, z12]; rfl) rfl ?_
      rw [HQ.out, HBQ.out]
      exact ⟨rfl, HBW.out⟩
   ·have hki : ¬ ((k2 : Int) < (r.size : Int)) := by omega
    have HPP : Hid (auPo p l = -1) := by show _ = _; rw [HPO.out, if_neg hkk]
    obtain ⟨q, hq⟩ : ∃ q, q = { q1 with hk := hk', hn := hn', ha := ha', po := -1 } := ⟨_, rfl⟩
    have HX6 : Hid (BX w q (.slice a n c) (((((W3.alloc (.cells #[.int .i64 hk', .string hn', .int .i64 ha'] 29)).setCell ⟨w.heap.size, 3, none⟩ (.int .i64 hk')).setCell ⟨w.heap.size, 4, none⟩ (.string hn')).setCell ⟨w.heap.size, 5, none⟩ (.int .i64 ha')).setCell ⟨w.heap.size, 6, none⟩ (.int .i64 (-1)))) := by rw [hq]; exact HX4.out
    have HQ : Hid (auS p l = q) := by show _ = _; rw [HAS.out, HPP.out, hq]
    have HBB : Hid (auB p l = (ho && (q.po != -2))) := by show _ = _; rw [HAB.out, HPP.out, hq]
    clear HX4 HPO HAS HAB HPP hq hkk
    go_wp2
    clear c3 c4 c5 c6 f3 f4 f5 f6 hne hlt3
    generalize (((((W3.alloc (.cells #[.int .i64 hk', .string hn', .int .i64 ha'] 29)).setCell ⟨w.heap.size, 3, none⟩ (.int .i64 hk')).setCell ⟨w.heap.size, 4, none⟩ (.string hn')).setCell ⟨w.heap.size, 5, none⟩ (.int .i64 ha')).setCell ⟨w.heap.size, 6, none⟩ (.int .i64 (-1))) = V6 at *
    obtain ⟨c0, c1, c2, c3, c4, c5, c6, c7, c8, c9, c10, c11, c12⟩ := HX6.out.cells
    obtain ⟨z0, z1, z2, z3, z4, z5, z6, z7, z8, z9, z10, z11, z12⟩ := HX6.out.zeros
    obtain ⟨y0, y1, y2, y3, y4, y5, y6, y7, y8, y9, y10, y11, y12⟩ := HX6.out.free
    obtain ⟨pb, hpb⟩ : ∃ pb, (q.po != -2) = pb := ⟨_, rfl⟩
    have HBQ : Hid (auB p l = (ho && pb)) := by show _ = _; rw [HBB.out, ← hpb]
    clear HBB
    cases ho
    all_goals
     cases pb
     all_goals
      go_region
      go_wp2
      obtain ⟨hf1, hf2, hf3⟩ := HX6.out.fin (.string q.sc) (.string q.us) (.string q.pw) (.int .i64 q.hk) (.string q.hn) (.int .i64 q.ha) (.int .i64 q.po) (.slice a n c) (.string q.op) (.bool q.hq) (.string q.qu) (.bool q.hf) (.string q.fr)
      have HRB : Hid (Blk (w.heap.size + 1) #[(.string q.sc), (.string q.us), (.string q.pw), (.int .i64 q.hk), (.string q.hn), (.int .i64 q.ha), (.int .i64 q.po), (.slice a n c), (.string q.op), (.bool q.hq), (.string q.qu), (.bool q.hf), (.string q.fr)] 31 ((((((((((((((V6.setCell ⟨w.heap.size + 1, 0, none⟩ (.string q.sc)).setCell ⟨w.heap.size + 1, 1, none⟩ (.string q.us)).setCell ⟨w.heap.size + 1, 2, none⟩ (.string q.pw)).setCell ⟨w.heap.size + 1, 3, none⟩ (.int .i64 q.hk)).setCell ⟨w.heap.size + 1, 4, none⟩ (.string q.hn)).setCell ⟨w.heap.size + 1, 5, none⟩ (.int .i64 q.ha)).setCell ⟨w.heap.size + 1, 6, none⟩ (.int .i64 q.po)).setCell ⟨w.heap.size + 1, 7, none⟩ (.slice a n c)).setCell ⟨w.heap.size + 1, 8, none⟩ (.string q.op)).setCell ⟨w.heap.size + 1, 9, none⟩ (.bool q.hq)).setCell ⟨w.heap.size + 1, 10, none⟩ (.string q.qu)).setCell ⟨w.heap.size + 1, 11, none⟩ (.bool q.hf)).setCell ⟨w.heap.size + 1, 12, none⟩ (.string q.fr))).drew) := hf1.drew
      have HBW : Hid (Below w.heap.size w ((((((((((((((V6.setCell ⟨w.heap.size + 1, 0, none⟩ (.string q.sc)).setCell ⟨w.heap.size + 1, 1, none⟩ (.string q.us)).setCell ⟨w.heap.size + 1, 2, none⟩ (.string q.pw)).setCell ⟨w.heap.size + 1, 3, none⟩ (.int .i64 q.hk)).setCell ⟨w.heap.size + 1, 4, none⟩ (.string q.hn)).setCell ⟨w.heap.size + 1, 5, none⟩ (.int .i64 q.ha)).setCell ⟨w.heap.size + 1, 6, none⟩ (.int .i64 q.po)).setCell ⟨w.heap.size + 1, 7, none⟩ (.slice a n c)).setCell ⟨w.heap.size + 1, 8, none⟩ (.string q.op)).setCell ⟨w.heap.size + 1, 9, none⟩ (.bool q.hq)).setCell ⟨w.heap.size + 1, 10, none⟩ (.string q.qu)).setCell ⟨w.heap.size + 1, 11, none⟩ (.bool q.hf)).setCell ⟨w.heap.size + 1, 12, none⟩ (.string q.fr))).drew) := hf2.drew
      clear hf1 hf2 hf3
      generalize ((((((((((((((V6.setCell ⟨w.heap.size + 1, 0, none⟩ (.string q.sc)).setCell ⟨w.heap.size + 1, 1, none⟩ (.string q.us)).setCell ⟨w.heap.size + 1, 2, none⟩ (.string q.pw)).setCell ⟨w.heap.size + 1, 3, none⟩ (.int .i64 q.hk)).setCell ⟨w.heap.size + 1, 4, none⟩ (.string q.hn)).setCell ⟨w.heap.size + 1, 5, none⟩ (.int .i64 q.ha)).setCell ⟨w.heap.size + 1, 6, none⟩ (.int .i64 q.po)).setCell ⟨w.heap.size + 1, 7, none⟩ (.slice a n c)).setCell ⟨w.heap.size + 1, 8, none⟩ (.string q.op)).setCell ⟨w.heap.size + 1, 9, none⟩ (.bool q.hq)).setCell ⟨w.heap.size + 1, 10, none⟩ (.string q.qu)).setCell ⟨w.heap.size + 1, 11, none⟩ (.bool q.hf)).setCell ⟨w.heap.size + 1, 12, none⟩ (.string q.fr))).drew = W9 at *
      clear c0 c1 c2 c3 c4 c5 c6 c7 c8 c9 c10 c11 c12 z0 z1 z2 z3 z4 z5 z6 z7 z8 z9 z10 z11 z12 y0 y1 y2 y3 y4 y5 y6 y7 y8 y9 y10 y11 y12
      have z0 : W9.cell? ⟨w.heap.size + 1, 0, none⟩ = some (.string q.sc) := HRB.out.cell 0
      have z1 : W9.cell? ⟨w.heap.size + 1, 1, none⟩ = some (.string q.us) := HRB.out.cell 1
      have z2 : W9.cell? ⟨w.heap.size + 1, 2, none⟩ = some (.string q.pw) := HRB.out.cell 2
      have z3 : W9.cell? ⟨w.heap.size + 1, 3, none⟩ = some (.int .i64 q.hk) := HRB.out.cell 3
      have z4 : W9.cell? ⟨w.heap.size + 1, 4, none⟩ = some (.string q.hn) := HRB.out.cell 4
      have z5 : W9.cell? ⟨w.heap.size + 1, 5, none⟩ = some (.int .i64 q.ha) := HRB.out.cell 5
      have z6 : W9.cell? ⟨w.heap.size + 1, 6, none⟩ = some (.int .i64 q.po) := HRB.out.cell 6
      have z7 : W9.cell? ⟨w.heap.size + 1, 7, none⟩ = some (.slice a n c) := HRB.out.cell 7
      have z8 : W9.cell? ⟨w.heap.size + 1, 8, none⟩ = some (.string q.op) := HRB.out.cell 8
      have z9 : W9.cell? ⟨w.heap.size + 1, 9, none⟩ = some (.bool q.hq) := HRB.out.cell 9
      have z10 : W9.cell? ⟨w.heap.size + 1, 10, none⟩ = some (.string q.qu) := HRB.out.cell 10
      have z11 : W9.cell? ⟨w.heap.size + 1, 11, none⟩ = some (.bool q.hf) := HRB.out.cell 11
      have z12 : W9.cell? ⟨w.heap.size + 1, 12, none⟩ = some (.string q.fr) := HRB.out.cell 12
      refine bodyPost_ret (v := .tuple #[.agg #[(.string q.sc), (.string q.us), (.string q.pw), (.int .i64 q.hk), (.string q.hn), (.int .i64 q.ha), (.int .i64 q.po), (.slice a n c), (.string q.op), (.bool q.hq), (.string q.qu), (.bool q.hf), (.string q.fr)], .bool _]) (by simp [results, Tryz.results161, go_sem, z0, z1, z2, z3, z4, z5, z6, z7, z8, z9, z10, z11, z12]; rfl) rfl ?_
      rw [HQ.out, HBQ.out]
      exact ⟨rfl, HBW.out⟩
end Go.Proofs.YtnfhajhdpdidlaaGreatDoor
end

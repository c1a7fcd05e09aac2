/- spec.l3Authority, with an at sign. -/
import Derived.Test.YtnfhajhdpdidlaaGreatDoorB30
set_option linter.unusedVariables false
set_option linter.unusedSimpArgs false
set_option maxHeartbeats 4000000
set_option maxRecDepth 100000
section
namespace Go.Proofs.YtnfhajhdpdidlaaGreatDoor
open Go.RowKit Go.Shelf
theorem l3Authority_some (p : P) (a : Option Addr) (n c : Nat) (l : List UInt8) (w : World) (hl : l.length ≤ 1000) (x y : List UInt8) (hsp : atSplit l = some (x, y)) :
  Calls Tryz.prog 161 #[.agg (p.cells (.slice a n c)), .string (mk l)] w fun e w' => e = .returned (.tuple #[.agg ((auS p l).cells (.slice a n c)), .bool (auB p l)]) ∧ Below w.heap.size w w' := by
 have HSP : Hid (atSplit l = some (x, y)) := hsp
 clear hsp
 have H0 : Hid (BX w p (.slice a n c) ((w.alloc (.cells (p.cells (.slice a n c)) 31)).alloc (.cells zeroC 31))) := BX.start w p (.slice a n c)
 unfold P.cells zeroC at H0
 obtain ⟨s, hs⟩ : ∃ s, s = mk l := ⟨_, rfl⟩
 have hss : s.size = l.length := by rw [hs, mk_size]
 have hsz : s.size ≤ 1000 := by omega
 obtain ⟨W0, hW0⟩ : ∃ W0, W0 = ((w.alloc (.cells #[.string p.sc, .string p.us, .string p.pw, .int .i64 p.hk, .string p.hn, .int .i64 p.ha, .int .i64 p.po, .slice a n c, .string p.op, .bool p.hq, .string p.qu, .bool p.hf, .string p.fr] 31)).alloc (.cells #[(.string ⟨#[]⟩), (.string ⟨#[]⟩), (.string ⟨#[]⟩), (.int .i64 0), (.string ⟨#[]⟩), (.int .i64 0), (.int .i64 0), (.slice none 0 0), (.string ⟨#[]⟩), (.bool false), (.string ⟨#[]⟩), (.bool false), (.string ⟨#[]⟩)] 31)) := ⟨_, rfl⟩
 have HX0 : Hid (BX w p (.slice a n c) W0) := by rw [hW0]; exact H0.out
 have HS : Hid (s = mk l) := hs
 have HSS : Hid (s.size = l.length) := hss
 rw [← hs]
 clear H0 hs hss
 unfold P.cells
 go_enter Tryz.func161, Tryz.ntmps161
 go_wp2
 rw [← hW0]
 clear hW0
 go_loop [6, 7] (fun at' i => ∃ k : Nat, k ≤ s.size ∧ i = .int .i64 (k : Int) ∧ at' = .int .i64 (Lib.lastIdx s 64 k)) (fun at' i => s.size - (intOf i).toNat)
 case atStart => exact ⟨0, Nat.zero_le _, rfl, rfl⟩
 case round =>
  obtain ⟨k, hk, rfl, rfl⟩ := hrel
  by_cases hp : k < s.size
  ·have hki : (k : Int) < (s.size : Int) := by omega
   have hsk : s.data[k]! = s[k] := by
    rw [Array.getElem!_eq_getD, Array.getD_eq_getD_getElem?, Array.getElem?_eq_getElem hp]; rfl
   by_cases h64 : (s[k].toNat : Int) = 64
   ·have HL : Hid (Lib.lastIdx s 64 (k + 1) = (k : Int)) := Lib.lastIdx_hit s 64 k (by rw [hsk]; exact h64)
    clear hsk
    have h64b : ((s[k].toNat : Int) == 64) = true := by rw [beq_iff_eq]; exact h64
    clear h64
    go_wp2
    go_round
    case rel => exact ⟨k + 1, by omega, by go_num, by rw [HL.out]⟩
    case measure => simp [intOf]; omega
   ·have HL : Hid (Lib.lastIdx s 64 (k + 1) = Lib.lastIdx s 64 k) := Lib.lastIdx_miss s 64 k (by rw [hsk]; exact h64)
    clear hsk
    have h64b : ((s[k].toNat : Int) == 64) = false := beq_eq_false_iff_ne.2 h64
    clear h64
    generalize Lib.lastIdx s 64 k = z at *
    go_wp2
    go_round
    case rel => exact ⟨k + 1, by omega, by go_num, by rw [HL.out]⟩
    case measure => simp [intOf]; omega
  ·have hki : ¬ ((k : Int) < (s.size : Int)) := by omega
   have hkk : k = s.size := by omega
   subst hkk
   have hlast : Lib.lastIdx s 64 s.size = Lib.lastIndexByte (mk l) 64 := by rw [← HS.out]; rfl
   have hsp := HSP.out
   have hm1 : Lib.lastIdx s 64 s.size = (x.length : Int) := by rw [hlast]; exact last_some l x y hsp
   rw [hm1]
   obtain ⟨hab, _⟩ := at_some l x y hsp
   have hxl : x.length + 1 ≤ l.length := by rw [hab]; simp
   have hxs : x.length + 1 ≤ s.size := by have := HSS.out; omega
   obtain ⟨sx, hsx⟩ : ∃ sx, sx = mk x := ⟨_, rfl⟩
   have hs1 : ∀ W : World, (Instr.slice 9 (.string s) none (some (.int .i64 (x.length : Int))) none).run Tryz.prog W = .ok (.string sx) W := fun W => by
    have := slice_to s x.length W (by omega)
    rw [this, hsx, HS.out]
    congr 2
    conv => lhs; rw [hab]
    exact mk_take x _
   obtain ⟨r, hr⟩ : ∃ r, r = mk (whereL l) := ⟨_, rfl⟩
   have HRW : Hid (r = mk (whereL l)) := hr
   have hx0 : s.extract (x.length + 1) s.size = r := by
    rw [hr, HS.out, ext_dropM]
    unfold whereL
    rw [hsp]
    show mk (l.drop (x.length + 1)) = mk y
    rw [hab]
    congr 1
    rw [show x ++ 64 :: y = (x ++ [64]) ++ y by simp]
    exact List.drop_left' (by simp)
   obtain ⟨q1, hq1⟩ : ∃ q1, q1 = au1 p l := ⟨_, rfl⟩
   have HQ1 : Hid (q1 = au1 p l) := hq1
   have hqw : q1 = whoS p x := by rw [hq1]; unfold au1; rw [hsp]
   have CW : Hid (∀ W, Calls Tryz.prog 185 #[.agg #[.string p.sc, .string p.us, .string p.pw, .int .i64 p.hk, .string p.hn, .int .i64 p.ha, .int .i64 p.po, .slice a n c, .string p.op, .bool p.hq, .string p.qu, .bool p.hf, .string p.fr], .string sx] W fun e w' => e = .returned (.agg #[.string q1.sc, .string q1.us, .string q1.pw, .int .i64 q1.hk, .string q1.hn, .int .i64 q1.ha, .int .i64 q1.po, .slice a n c, .string q1.op, .bool q1.hq, .string q1.qu, .bool q1.hf, .string q1.fr]) ∧ Below W.heap.size W w') := fun W => by rw [hsx, hqw]; exact l3Who p a n c x W (by omega)
   have CW2 : Hid (∀ W1, Below W0.drew.heap.size W0.drew W1 → (W1.cell? ⟨w.heap.size, 0, none⟩ = some (.string p.sc) ∧ W1.cell? ⟨w.heap.size, 1, none⟩ = some (.string p.us) ∧ W1.cell? ⟨w.heap.size, 2, none⟩ = some (.string p.pw) ∧ W1.cell? ⟨w.heap.size, 3, none⟩ = some (.int .i64 p.hk) ∧ W1.cell? ⟨w.heap.size, 4, none⟩ = some (.string p.hn) ∧ W1.cell? ⟨w.heap.size, 5, none⟩ = some (.int .i64 p.ha) ∧ W1.cell? ⟨w.heap.size, 6, none⟩ = some (.int .i64 p.po) ∧ W1.cell? ⟨w.heap.size, 7, none⟩ = some (.slice a n c) ∧ W1.cell? ⟨w.heap.size, 8, none⟩ = some (.string p.op) ∧ W1.cell? ⟨w.heap.size, 9, none⟩ = some (.bool p.hq) ∧ W1.cell? ⟨w.heap.size, 10, none⟩ = some (.string p.qu) ∧ W1.cell? ⟨w.heap.size, 11, none⟩ = some (.bool p.hf) ∧ W1.cell? ⟨w.heap.size, 12, none⟩ = some (.string p.fr)) ∧ (W1.frozen? ⟨w.heap.size, 0, none⟩ = false ∧ W1.frozen? ⟨w.heap.size, 1, none⟩ = false ∧ W1.frozen? ⟨w.heap.size, 2, none⟩ = false ∧ W1.frozen? ⟨w.heap.size, 3, none⟩ = false ∧ W1.frozen? ⟨w.heap.size, 4, none⟩ = false ∧ W1.frozen? ⟨w.heap.size, 5, none⟩ = false ∧ W1.frozen? ⟨w.heap.size, 6, none⟩ = false ∧ W1.frozen? ⟨w.heap.size, 7, none⟩ = false ∧ W1.frozen? ⟨w.heap.size, 8, none⟩ = false ∧ W1.frozen? ⟨w.heap.size, 9, none⟩ = false ∧ W1.frozen? ⟨w.heap.size, 10, none⟩ = false ∧ W1.frozen? ⟨w.heap.size, 11, none⟩ = false ∧ W1.frozen? ⟨w.heap.size, 12, none⟩ = false) ∧ BX w q1 (.slice a n c) ((((((((((((((W1.setCell ⟨w.heap.size, 0, none⟩ (.string q1.sc)).setCell ⟨w.heap.size, 1, none⟩ (.string q1.us)).setCell ⟨w.heap.size, 2, none⟩ (.string q1.pw)).setCell ⟨w.heap.size, 3, none⟩ (.int .i64 q1.hk)).setCell ⟨w.heap.size, 4, none⟩ (.string q1.hn)).setCell ⟨w.heap.size, 5, none⟩ (.int .i64 q1.ha)).setCell ⟨w.heap.size, 6, none⟩ (.int .i64 q1.po)).setCell ⟨w.heap.size, 7, none⟩ (.slice a n c)).setCell ⟨w.heap.size, 8, none⟩ (.string q1.op)).setCell ⟨w.heap.size, 9, none⟩ (.bool q1.hq)).setCell ⟨w.heap.size, 10, none⟩ (.string q1.qu)).setCell ⟨w.heap.size, 11, none⟩ (.bool q1.hf)).setCell ⟨w.heap.size, 12, none⟩ (.string q1.fr)))) := by
    intro W1 d
    have h1 : BX w p (.slice a n c) W1 := BX.later (W := W0.drew) ⟨HX0.out.bx, HX0.out.rs, HX0.out.bw.drew⟩ d
    exact ⟨h1.cells, h1.frb, h1.box q1 _⟩
   obtain ⟨c0, c1, c2, c3, c4, c5, c6, c7, c8, c9, c10, c11, c12⟩ := HX0.out.cells
   have hxi0 : (0 : Int) ≤ (x.length : Int) := by omega
   have hxi1 : (x.length : Int) + 1 ≤ (s.size : Int) := by omega
   clear hm1 hlast hq1 hqw hsp HSP HX0 hki HS HSS hk hp hab hxl hr hsx
   go_wp2
   go_region_with (go_at_call 185; refine (CW.out _).mono ?_; rintro e W1 ⟨rfl, d1⟩; obtain ⟨⟨b0, b1, b2, b3, b4, b5, b6, b7, b8, b9, b10, b11, b12⟩, ⟨e0, e1, e2, e3, e4, e5, e6, e7, e8, e9, e10, e11, e12⟩, hX1⟩ := CW2.out W1 d1)
   generalize ((((((((((((((W1.setCell ⟨w.heap.size, 0, none⟩ (.string q1.sc)).setCell ⟨w.heap.size, 1, none⟩ (.string q1.us)).setCell ⟨w.heap.size, 2, none⟩ (.string q1.pw)).setCell ⟨w.heap.size, 3, none⟩ (.int .i64 q1.hk)).setCell ⟨w.heap.size, 4, none⟩ (.string q1.hn)).setCell ⟨w.heap.size, 5, none⟩ (.int .i64 q1.ha)).setCell ⟨w.heap.size, 6, none⟩ (.int .i64 q1.po)).setCell ⟨w.heap.size, 7, none⟩ (.slice a n c)).setCell ⟨w.heap.size, 8, none⟩ (.string q1.op)).setCell ⟨w.heap.size, 9, none⟩ (.bool q1.hq)).setCell ⟨w.heap.size, 10, none⟩ (.string q1.qu)).setCell ⟨w.heap.size, 11, none⟩ (.bool q1.hf)).setCell ⟨w.heap.size, 12, none⟩ (.string q1.fr))) = V1 at *
   have HX1 : Hid (BX w q1 (.slice a n c) V1) := hX1
   clear hX1 d1 CW CW2 hs1 c0 c1 c2 c3 c4 c5 c6 c7 c8 c9 c10 c11 c12 b0 b1 b2 b3 b4 b5 b6 b7 b8 b9 b10 b11 b12 e0 e1 e2 e3 e4 e5 e6 e7 e8 e9 e10 e11 e12 hxi0
   obtain ⟨k2, hk2⟩ : ∃ k2, k2 = (upL [58] (whereL l)).length := ⟨_, rfl⟩
   have hrs : r.size = (whereL l).length := by rw [HRW.out, mk_size]
   have hwl := whereL_le l
   have hul := upL_le [58] (whereL l)
   have hkr : k2 ≤ r.size := by omega
   have hrz : r.size ≤ 1000 := by omega
   obtain ⟨sn, hsn⟩ : ∃ sn, sn = mk (upL [58] (whereL l)) := ⟨_, rfl⟩
   obtain ⟨hk', hhk⟩ : ∃ k, k = gk (upL [58] (whereL l)) := ⟨_, rfl⟩
   obtain ⟨hn', hhn⟩ : ∃ k, k = gn (upL [58] (whereL l)) := ⟨_, rfl⟩
   obtain ⟨ha', hha⟩ : ∃ k, k = ga (upL [58] (whereL l)) := ⟨_, rfl⟩
   obtain ⟨ho, hho⟩ : ∃ k, k = getOk (upL [58] (whereL l)) := ⟨_, rfl⟩
   have CA : Hid (∀ W, Calls Tryz.prog 136 #[.string r, .string ⟨#[58]⟩] W fun e w' => e = .returned (.int .i64 (k2 : Int)) ∧ Below W.heap.size W w') := fun W => by rw [hk2, HRW.out]; exact atC [58] (whereL l) W (by omega) (by decide)
   have CH : Hid (∀ W, Calls Tryz.prog 102 #[.string sn] W fun e w' => e = .returned (.tuple #[.agg #[.int .i64 hk', .string hn', .int .i64 ha'], .bool ho]) ∧ Below W.heap.size W w') := fun W => by rw [hsn, hhk, hhn, hha, hho]; exact hostC _ W (by omega)
   have hx1 : r.extract 0 k2 = sn := by rw [HRW.out, hsn, ext_takeM _ k2 (by omega), hk2, up_take]
   obtain ⟨sp, hsp'⟩ : ∃ sp, sp = mk ((whereL l).drop (k2 + 1)) := ⟨_, rfl⟩
   have hx2 : r.extract (k2 + 1) r.size = sp := by rw [HRW.out, hsp']; exact ext_dropM _ (k2 + 1)
   obtain ⟨own, hown⟩ : ∃ o, o = ownZ p.sc := ⟨_, rfl⟩
   have COW : Hid (∀ W, Calls Tryz.prog 62 #[.string p.sc] W fun e w' => e = .returned (.int .i64 own) ∧ w' = W) := fun W => by rw [hown]; exact l3Own p.sc W
   obtain ⟨pz, hpz⟩ : ∃ o, o = portS ((whereL l).drop (k2 + 1)) own := ⟨_, rfl⟩
   have CPO : Hid (∀ W, Calls Tryz.prog 186 #[.string sp, .int .i64 own] W fun e w' => e = .returned (.int .i64 pz) ∧ w' = W) := fun W => by rw [hsp', hpz]; exact l3Port _ own W (by rw [List.length_drop]; omega)
   have HPO : Hid (auPo p l = if k2 < r.size then pz else -1) := by show _ = _; unfold auPo; rw [hpz, hown, hrs, hk2]
   have HAS : Hid (auS p l = { q1 with hk := hk', hn := hn', ha := ha', po := auPo p l }) := by show _ = _; rw [HQ1.out, hhk, hhn, hha]; rfl
   have HAB : Hid (auB p l = (ho && (auPo p l != -2))) := by show _ = _; rw [hho]; rfl
   have hsc : q1.sc = p.sc := by rw [HQ1.out, au1_sc]
   have HSC : Hid (q1.sc = p.sc) := hsc
   clear hk2 hrs hwl hul hsn hhk hhn hha hho hsp' hown hpz hsc
   go_wp2_with fail
   refine (CA.out _).mono ?_
   rintro e W2 ⟨rfl, d2⟩
   have HX2 : Hid (BX w q1 (.slice a n c) W2) := HX1.out.later d2
   clear d2 HX1 CA
   go_wp2_with fail
   refine (CH.out _).mono ?_
   rintro e W3 ⟨rfl, d3⟩
   have hX3 : BX w q1 (.slice a n c) (W3.alloc (.cells #[.int .i64 hk', .string hn', .int .i64 ha'] 29)) := (HX2.out.later d3).later ((Below.refl _ W3).alloc (Nat.le_refl _) _)
   have hlt3 : w.heap.size + 1 < W3.heap.size := (HX2.out.later d3).rs.lt
   have HX4 : Hid (BX w { q1 with hk := hk', hn := hn', ha := ha', po := -1 } (.slice a n c) (((((W3.alloc (.cells #[.int .i64 hk', .string hn', .int .i64 ha'] 29)).setCell ⟨w.heap.size, 3, none⟩ (.int .i64 hk')).setCell ⟨w.heap.size, 4, none⟩ (.string hn')).setCell ⟨w.heap.size, 5, none⟩ (.int .i64 ha')).setCell ⟨w.heap.size, 6, none⟩ (.int .i64 (-1)))) := (((hX3.set (q := { q1 with hk := hk' }) 3 _ rfl).set (q := { q1 with hk := hk', hn := hn' }) 4 _ rfl).set (q := { q1 with hk := hk', hn := hn', ha := ha' }) 5 _ rfl).set 6 _ rfl
   have c3 : (W3.alloc (.cells #[.int .i64 hk', .string hn', .int .i64 ha'] 29)).cell? ⟨w.heap.size, 3, none⟩ = some (.int .i64 q1.hk) := hX3.cells.2.2.2.1
   have c4 : (W3.alloc (.cells #[.int .i64 hk', .string hn', .int .i64 ha'] 29)).cell? ⟨w.heap.size, 4, none⟩ = some (.string q1.hn) := hX3.cells.2.2.2.2.1
   have c5 : (W3.alloc (.cells #[.int .i64 hk', .string hn', .int .i64 ha'] 29)).cell? ⟨w.heap.size, 5, none⟩ = some (.int .i64 q1.ha) := hX3.cells.2.2.2.2.2.1
   have c6 : (W3.alloc (.cells #[.int .i64 hk', .string hn', .int .i64 ha'] 29)).cell? ⟨w.heap.size, 6, none⟩ = some (.int .i64 q1.po) := hX3.cells.2.2.2.2.2.2.1
   have f3 := hX3.bx.free 3
   have f4 := hX3.bx.free 4
   have f5 := hX3.bx.free 5
   have f6 := hX3.bx.free 6
   have hne : w.heap.size ≠ W3.heap.size := by omega
   clear hX3 d3 HX2 CH
   by_cases hkk : k2 < r.size
   ·have hki : (k2 : Int) < (r.size : Int) := by omega
    go_wp2
    generalize (((((W3.alloc (.cells #[.int .i64 hk', .string hn', .int .i64 ha'] 29)).setCell ⟨w.heap.size, 3, none⟩ (.int .i64 hk')).setCell ⟨w.heap.size, 4, none⟩ (.string hn')).setCell ⟨w.heap.size, 5, none⟩ (.int .i64 ha')).setCell ⟨w.heap.size, 6, none⟩ (.int .i64 (-1))) = V4 at *
    have e0 : V4.cell? ⟨w.heap.size, 0, none⟩ = some (.string p.sc) := (HX4.out.cells.1).trans (by rw [← HSC.out])
    have e6 : V4.cell? ⟨w.heap.size, 6, none⟩ = some (.int .i64 (-1)) := HX4.out.cells.2.2.2.2.2.2.1
    have g6 : V4.frozen? ⟨w.heap.size, 6, none⟩ = false := HX4.out.bx.free 6
    have hadd : IntKind.i64.wrap ((k2 : Int) + 1) = (k2 : Int) + 1 := by rw [IntKind.wrap_i64]; omega
    have hs2 : ∀ W : World, (Instr.slice 9 (.string r) (some (.int .i64 ((k2 : Int) + 1))) none none).run Tryz.prog W = .ok (.string sp) W := fun W => by
     have := slice_from r (k2 + 1) W (by omega)
     rw [hx2] at this
     exact this
    have HPP : Hid (auPo p l = pz) := by show _ = _; rw [HPO.out, if_pos hkk]
    obtain ⟨q, hq⟩ : ∃ q, q = { q1 with hk := hk', hn := hn', ha := ha', po := pz } := ⟨_, rfl⟩
    have HX5 : Hid (BX w q (.slice a n c) ((V4.setCell ⟨w.heap.size, 6, none⟩ (.int .i64 pz)).drew)) := by
     rw [hq]
     have := HX4.out.set (q := { q1 with hk := hk', hn := hn', ha := ha', po := pz }) 6 (.int .i64 pz) rfl
     exact ⟨this.bx, this.rs, this.bw.drew⟩
    have HQ : Hid (auS p l = q) := by show _ = _; rw [HAS.out, HPP.out, hq]
    have HBB : Hid (auB p l = (ho && (q.po != -2))) := by show _ = _; rw [HAB.out, HPP.out, hq]
    clear HX4 HPO HAS HAB HPP hq hkk c3 c4 c5 c6 f3 f4 f5 f6 hne hlt3
    go_region_with (first
     | (go_at_call 62; refine (COW.out _).mono ?_; rintro e W5 ⟨rfl, rfl⟩)
     | (go_at_call 186; refine (CPO.out _).mono ?_; rintro e W6 ⟨rfl, rfl⟩))
    go_wp2
    have HX6 : Hid (BX w q (.slice a n c) ((V4.setCell ⟨w.heap.size, 6, none⟩ (.int .i64 pz)).drew)) := HX5.out
    clear HX5 e0 e6 g6
    generalize ((V4.setCell ⟨w.heap.size, 6, none⟩ (.int .i64 pz)).drew) = V6 at *
    obtain ⟨c0, c1, c2, c3, c4, c5, c6, c7, c8, c9, c10, c11, c12⟩ := HX6.out.cells
    obtain ⟨z0, z1, z2, z3, z4, z5, z6, z7, z8, z9, z10, z11, z12⟩ := HX6.out.zeros
    obtain ⟨y0, y1, y2, y3, y4, y5, y6, y7, y8, y9, y10, y11, y12⟩ := HX6.out.free
    obtain ⟨pb, hpb⟩ : ∃ pb, (q.po != -2) = pb := ⟨_, rfl⟩
    have HBQ : Hid (auB p l = (ho && pb)) := by show _ = _; rw [HBB.out, ← hpb]
    clear HBB
    cases ho
    all_goals
     cases pb
     all_goals
      go_region
      go_wp2
      obtain ⟨hf1, hf2, hf3⟩ := HX6.out.fin (.string q.sc) (.string q.us) (.string q.pw) (.int .i64 q.hk) (.string q.hn) (.int .i64 q.ha) (.int .i64 q.po) (.slice a n c) (.string q.op) (.bool q.hq) (.string q.qu) (.bool q.hf) (.string q.fr)
      have HRB : Hid (Blk (w.heap.size + 1) #[(.string q.sc), (.string q.us), (.string q.pw), (.int .i64 q.hk), (.string q.hn), (.int .i64 q.ha), (.int .i64 q.po), (.slice a n c), (.string q.op), (.bool q.hq), (.string q.qu), (.bool q.hf), (.string q.fr)] 31 ((((((((((((((V6.setCell ⟨w.heap.size + 1, 0, none⟩ (.string q.sc)).setCell ⟨w.heap.size + 1, 1, none⟩ (.string q.us)).setCell ⟨w.heap.size + 1, 2, none⟩ (.string q.pw)).setCell ⟨w.heap.size + 1, 3, none⟩ (.int .i64 q.hk)).setCell ⟨w.heap.size + 1, 4, none⟩ (.string q.hn)).setCell ⟨w.heap.size + 1, 5, none⟩ (.int .i64 q.ha)).setCell ⟨w.heap.size + 1, 6, none⟩ (.int .i64 q.po)).setCell ⟨w.heap.size + 1, 7, none⟩ (.slice a n c)).setCell ⟨w.heap.size + 1, 8, none⟩ (.string q.op)).setCell ⟨w.heap.size + 1, 9, none⟩ (.bool q.hq)).setCell ⟨w.heap.size + 1, 10, none⟩ (.string q.qu)).setCell ⟨w.heap.size + 1, 11, none⟩ (.bool q.hf)).setCell ⟨w.heap.size + 1, 12, none⟩ (.string q.fr))).drew) := hf1.drew
      have HBW : Hid (Below w.heap.size w ((((((((((((((V6.setCell ⟨w.heap.size + 1, 0, none⟩ (.string q.sc)).setCell ⟨w.heap.size + 1, 1, none⟩ (.string q.us)).setCell ⟨w.heap.size + 1, 2, none⟩ (.string q.pw)).setCell ⟨w.heap.size + 1, 3, none⟩ (.int .i64 q.hk)).setCell ⟨w.heap.size + 1, 4, none⟩ (.string q.hn)).setCell ⟨w.heap.size + 1, 5, none⟩ (.int .i64 q.ha)).setCell ⟨w.heap.size + 1, 6, none⟩ (.int .i64 q.po)).setCell ⟨w.heap.size + 1, 7, none⟩ (.slice a n c)).setCell ⟨w.heap.size + 1, 8, none⟩ (.string q.op)).setCell ⟨w.heap.size + 1, 9, none⟩ (.bool q.hq)).setCell ⟨w.heap.size + 1, 10, none⟩ (.string q.qu)).setCell ⟨w.heap.size + 1, 11, none⟩ (.bool q.hf)).setCell ⟨w.heap.size + 1, 12, none⟩ (.string q.fr))).drew) := hf2.drew
      clear hf1 hf2 hf3
      generalize ((((((((((((((V6.setCell ⟨w.heap.size + 1, 0, none⟩ (.string q.sc)).setCell ⟨w.heap.size + 1, 1, none⟩ (.string q.us)).setCell ⟨w.heap.size + 1, 2, none⟩ (.string q.pw)).setCell ⟨w.heap.size + 1, 3, none⟩ (.int .i64 q.hk)).setCell ⟨w.heap.size + 1, 4, none⟩ (.string q.hn)).setCell ⟨w.heap.size + 1, 5, none⟩ (.int .i64 q.ha)).setCell ⟨w.heap.size + 1, 6, none⟩ (.int .i64 q.po)).setCell ⟨w.heap.size + 1, 7, none⟩ (.slice a n c)).setCell ⟨w.heap.size + 1, 8, none⟩ (.string q.op)).setCell ⟨w.heap.size + 1, 9, none⟩ (.bool q.hq)).setCell ⟨w.heap.size + 1, 10, none⟩ (.string q.qu)).setCell ⟨w.heap.size + 1, 11, none⟩ (.bool q.hf)).setCell ⟨w.heap.size + 1, 12, none⟩ (.string q.fr))).drew = W9 at *
      clear c0 c1 c2 c3 c4 c5 c6 c7 c8 c9 c10 c11 c12 z0 z1 z2 z3 z4 z5 z6 z7 z8 z9 z10 z11 z12 y0 y1 y2 y3 y4 y5 y6 y7 y8 y9 y10 y11 y12
      have z0 : W9.cell? ⟨w.heap.size + 1, 0, none⟩ = some (.string q.sc) := HRB.out.cell 0
      have z1 : W9.cell? ⟨w.heap.size + 1, 1, none⟩ = some (.string q.us) := HRB.out.cell 1
      have z2 : W9.cell? ⟨w.heap.size + 1, 2, none⟩ = some (.string q.pw) := HRB.out.cell 2
      have z3 : W9.cell? ⟨w.heap.size + 1, 3, none⟩ = some (.int .i64 q.hk) := HRB.out.cell 3
      have z4 : W9.cell? ⟨w.heap.size + 1, 4, none⟩ = some (.string q.hn) := HRB.out.cell 4
      have z5 : W9.cell? ⟨w.heap.size + 1, 5, none⟩ = some (.int .i64 q.ha) := HRB.out.cell 5
      have z6 : W9.cell? ⟨w.heap.size + 1, 6, none⟩ = some (.int .i64 q.po) := HRB.out.cell 6
      have z7 : W9.cell? ⟨w.heap.size + 1, 7, none⟩ = some (.slice a n c) := HRB.out.cell 7
      have z8 : W9.cell? ⟨w.heap.size + 1, 8, none⟩ = some (.string q.op) := HRB.out.cell 8
      have z9 : W9.cell? ⟨w.heap.size + 1, 9, none⟩ = some (.bool q.hq) := HRB.out.cell 9
      have z10 : W9.cell? ⟨w.heap.size + 1, 10, none⟩ = some (.string q.qu) := HRB.out.cell 10
      have z11 : W9.cell? ⟨w.heap.size + 1, 11, none⟩ = some (.bool q.hf) := HRB.out.cell 11
      have z12 : W9.cell? ⟨w.heap.size + 1, 12, none⟩ = some (.string q.fr) := HRB.out.cell 12
      refine bodyPost_ret (v := .tuple #[.agg #[(.string q.sc), (.string q.us), (.string q.pw), (.int .i64 q.hk), (.string q.hn), (.int .i64 q.ha), (.int .i64 q.po), (.slice a n c), (.string q.op), (.bool q.hq), (.string q.qu), (.bool q.hf), (.string q.fr)], .bool _]) (by simp [results, Tryz.results161, go_sem, z0, z1, z2, z3, z4, z5, z6, z7, z8, z9, z10, z11, z12]; rfl) rfl ?_
      rw [HQ.out, HBQ.out]
      exact ⟨rfl, HBW.out⟩
   ·have hki : ¬ ((k2 : Int) < (r.size : Int)) := by omega
    have HPP : Hid (auPo p l = -1) := by show _ = _; rw [HPO.out, if_neg hkk]
    obtain ⟨q, hq⟩ : ∃ q, q = { q1 with hk := hk', hn := hn', ha := ha', po := -1 } := ⟨_, rfl⟩
    have HX6 : Hid (BX w q (.slice a n c) (((((W3.alloc (.cells #[.int .i64 hk', .string hn', .int .i64 ha'] 29)).setCell ⟨w.heap.size, 3, none⟩ (.int .i64 hk')).setCell ⟨w.heap.size, 4, none⟩ (.string hn')).setCell ⟨w.heap.size, 5, none⟩ (.int .i64 ha')).setCell ⟨w.heap.size, 6, none⟩ (.int .i64 (-1)))) := by rw [hq]; exact HX4.out
    have HQ : Hid (auS p l = q) := by show _ = _; rw [HAS.out, HPP.out, hq]
    have HBB : Hid (auB p l = (ho && (q.po != -2))) := by show _ = _; rw [HAB.out, HPP.out, hq]
    clear HX4 HPO HAS HAB HPP hq hkk
    go_wp2
    clear c3 c4 c5 c6 f3 f4 f5 f6 hne hlt3
    generalize (((((W3.alloc (.cells #[.int .i64 hk', .string hn', .int .i64 ha'] 29)).setCell ⟨w.heap.size, 3, none⟩ (.int .i64 hk')).setCell ⟨w.heap.size, 4, none⟩ (.string hn')).setCell ⟨w.heap.size, 5, none⟩ (.int .i64 ha')).setCell ⟨w.heap.size, 6, none⟩ (.int .i64 (-1))) = V6 at *
    obtain ⟨c0, c1, c2, c3, c4, c5, c6, c7, c8, c9, c10, c11, c12⟩ := HX6.out.cells
    obtain ⟨z0, z1, z2, z3, z4, z5, z6, z7, z8, z9, z10, z11, z12⟩ := HX6.out.zeros
    obtain ⟨y0, y1, y2, y3, y4, y5, y6, y7, y8, y9, y10, y11, y12⟩ := HX6.out.free
    obtain ⟨pb, hpb⟩ : ∃ pb, (q.po != -2) = pb := ⟨_, rfl⟩
    have HBQ : Hid (auB p l = (ho && pb)) := by show _ = _; rw [HBB.out, ← hpb]
    clear HBB
    cases ho
    all_goals
     cases pb
     all_goals
      go_region
      go_wp2
      obtain ⟨hf1, hf2, hf3⟩ := HX6.out.fin (.string q.sc) (.string q.us) (.string q.pw) (.int .i64 q.hk) (.string q.hn) (.int .i64 q.ha) (.int .i64 q.po) (.slice a n c) (.string q.op) (.bool q.hq) (.string q.qu) (.bool q.hf) (.string q.fr)
      have HRB : Hid (Blk (w.heap.size + 1) #[(.string q.sc), (.string q.us), (.string q.pw), (.int .i64 q.hk), (.string q.hn), (.int .i64 q.ha), (.int .i64 q.po), (.slice a n c), (.string q.op), (.bool q.hq), (.string q.qu), (.bool q.hf), (.string q.fr)] 31 ((((((((((((((V6.setCell ⟨w.heap.size + 1, 0, none⟩ (.string q.sc)).setCell ⟨w.heap.size + 1, 1, none⟩ (.string q.us)).setCell ⟨w.heap.size + 1, 2, none⟩ (.string q.pw)).setCell ⟨w.heap.size + 1, 3, none⟩ (.int .i64 q.hk)).setCell ⟨w.heap.size + 1, 4, none⟩ (.string q.hn)).setCell ⟨w.heap.size + 1, 5, none⟩ (.int .i64 q.ha)).setCell ⟨w.heap.size + 1, 6, none⟩ (.int .i64 q.po)).setCell ⟨w.heap.size + 1, 7, none⟩ (.slice a n c)).setCell ⟨w.heap.size + 1, 8, none⟩ (.string q.op)).setCell ⟨w.heap.size + 1, 9, none⟩ (.bool q.hq)).setCell ⟨w.heap.size + 1, 10, none⟩ (.string q.qu)).setCell ⟨w.heap.size + 1, 11, none⟩ (.bool q.hf)).setCell ⟨w.heap.size + 1, 12, none⟩ (.string q.fr))).drew) := hf1.drew
      have HBW : Hid (Below w.heap.size w ((((((((((((((V6.setCell ⟨w.heap.size + 1, 0, none⟩ (.string q.sc)).setCell ⟨w.heap.size + 1, 1, none⟩ (.string q.us)).setCell ⟨w.heap.size + 1, 2, none⟩ (.string q.pw)).setCell ⟨w.heap.size + 1, 3, none⟩ (.int .i64 q.hk)).setCell ⟨w.heap.size + 1, 4, none⟩ (.string q.hn)).setCell ⟨w.heap.size + 1, 5, none⟩ (.int .i64 q.ha)).setCell ⟨w.heap.size + 1, 6, none⟩ (.int .i64 q.po)).setCell ⟨w.heap.size + 1, 7, none⟩ (.slice a n c)).setCell ⟨w.heap.size + 1, 8, none⟩ (.string q.op)).setCell ⟨w.heap.size + 1, 9, none⟩ (.bool q.hq)).setCell ⟨w.heap.size + 1, 10, none⟩ (.string q.qu)).setCell ⟨w.heap.size + 1, 11, none⟩ (.bool q.hf)).setCell ⟨w.heap.size + 1, 12, none⟩ (.string q.fr))).drew) := hf2.drew
      clear hf1 hf2 hf3
      generalize ((((((((((((((V6.setCell ⟨w.heap.size + 1, 0, none⟩ (.string q.sc)).setCell ⟨w.heap.size + 1, 1, none⟩ (.string q.us)).setCell ⟨w.heap.size + 1, 2, none⟩ (.string q.pw)).setCell ⟨w.heap.size + 1, 3, none⟩ (.int .i64 q.hk)).setCell ⟨w.heap.size + 1, 4, none⟩ (.string q.hn)).setCell ⟨w.heap.size + 1, 5, none⟩ (.int .i64 q.ha)).setCell ⟨w.heap.size + 1, 6, none⟩ (.int .i64 q.po)).setCell ⟨w.heap.size + 1, 7, none⟩ (.slice a n c)).setCell ⟨w.heap.size + 1, 8, none⟩ (.string q.op)).setCell ⟨w.heap.size + 1, 9, none⟩ (.bool q.hq)).setCell ⟨w.heap.size + 1, 10, none⟩ (.string q.qu)).setCell ⟨w.heap.size + 1, 11, none⟩ (.bool q.hf)).setCell ⟨w.heap.size + 1, 12, none⟩ (.string q.fr))).drew = W9 at *
      clear c0 c1 c2 c3 c4 c5 c6 c7 c8 c9 c10 c11 c12 z0 z1 z2 z3 z4 z5 z6 z7 z8 z9 z10 z11 z12 y0 y1 y2 y3 y4 y5 y6 y7 y8 y9 y10 y11 y12
      have z0 : W9.cell? ⟨w.heap.size + 1, 0, none⟩ = some (.string q.sc) := HRB.out.cell 0
      have z1 : W9.cell? ⟨w.heap.size + 1, 1, none⟩ = some (.string q.us) := HRB.out.cell 1
      have z2 : W9.cell? ⟨w.heap.size + 1, 2, none⟩ = some (.string q.pw) := HRB.out.cell 2
      have z3 : W9.cell? ⟨w.heap.size + 1, 3, none⟩ = some (.int .i64 q.hk) := HRB.out.cell 3
      have z4 : W9.cell? ⟨w.heap.size + 1, 4, none⟩ = some (.string q.hn) := HRB.out.cell 4
      have z5 : W9.cell? ⟨w.heap.size + 1, 5, none⟩ = some (.int .i64 q.ha) := HRB.out.cell 5
      have z6 : W9.cell? ⟨w.heap.size + 1, 6, none⟩ = some (.int .i64 q.po) := HRB.out.cell 6
      have z7 : W9.cell? ⟨w.heap.size + 1, 7, none⟩ = some (.slice a n c) := HRB.out.cell 7
      have z8 : W9.cell? ⟨w.heap.size + 1, 8, none⟩ = some (.string q.op) := HRB.out.cell 8
      have z9 : W9.cell? ⟨w.heap.size + 1, 9, none⟩ = some (.bool q.hq) := HRB.out.cell 9
      have z10 : W9.cell? ⟨w.heap.size + 1, 10, none⟩ = some (.string q.qu) := HRB.out.cell 10
      have z11 : W9.cell? ⟨w.heap.size + 1, 11, none⟩ = some (.bool q.hf) := HRB.out.cell 11
      have z12 : W9.cell? ⟨w.heap.size + 1, 12, none⟩ = some (.string q.fr) := HRB.out.cell 12
      refine bodyPost_ret (v := .tuple #[.agg #[(.string q.sc), (.string q.us), (.string q.pw), (.int .i64 q.hk), (.string q.hn), (.int .i64 q.ha), (.int .i64 q.po), (.slice a n c), (.string q.op), (.bool q.hq), (.string q.qu), (.bool q.hf), (.string q.fr)], .bool _]) (by simp [results, Tryz.results161, go_sem, z0, z1, z2, z3, z4, z5, z6, z7, z8, z9, z10, z11, z12]; rfl) rfl ?_
      rw [HQ.out, HBQ.out]
      exact ⟨rfl, HBW.out⟩
theorem l3Authority (p : P) (a : Option Addr) (n c : Nat) (l : List UInt8) (w : World) (hl : l.length ≤ 1000) :
  Calls Tryz.prog 161 #[.agg (p.cells (.slice a n c)), .string (mk l)] w fun e w' => e = .returned (.tuple #[.agg ((auS p l).cells (.slice a n c)), .bool (auB p l)]) ∧ Below w.heap.size w w' := by
 cases h : atSplit l with
 | none => exact l3Authority_none p a n c l w hl h
 | some q => exact l3Authority_some p a n c l w hl q.1 q.2 h
end Go.Proofs.YtnfhajhdpdidlaaGreatDoor
end

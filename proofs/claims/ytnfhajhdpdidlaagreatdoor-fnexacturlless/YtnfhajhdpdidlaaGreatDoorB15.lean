/- impl.UrlGet: an address, read. -/
import Derived.Test.YtnfhajhdpdidlaaGreatDoorB14
set_option linter.unusedVariables false
set_option linter.unusedSimpArgs false
set_option maxHeartbeats 4000000
set_option maxRecDepth 100000
section
namespace Go.Proofs.YtnfhajhdpdidlaaGreatDoor
open Go.RowKit Go.Shelf
theorem reset (g : Nat) (s : ByteArray) (a0 a1 a2 : Value) (R : List Value) (T : TypeId) (w : World) (h : Blk g (#[a0, a1, a2] ++ R.toArray) T w) :
  Calls Tryz.prog 54 #[.pointer (some ⟨g, 0, none⟩), .string s] w fun e w' => e = .returned (.tuple #[]) ∧ Rdr g s 0 R T w' ∧ w.grownBy w' (some g) := by
 have c0 : w.cell? ⟨g, 0, none⟩ = some a0 := by rw [h.cell 0]; simp
 have c1 : w.cell? ⟨g, 1, none⟩ = some a1 := by rw [h.cell 1]; simp
 have c2 : w.cell? ⟨g, 2, none⟩ = some a2 := by rw [h.cell 2]; simp
 have f0 := h.free 0
 have f1 := h.free 1
 have f2 := h.free 2
 have HR : Hid (Rdr g s 0 R T (((w.setCell ⟨g, 0, none⟩ (.string s)).setCell ⟨g, 1, none⟩ (.int .i64 0)).setCell ⟨g, 2, none⟩ (.int .i64 (-1)))) := by
  have := Blk.set (Blk.set (Blk.set h 0 (.string s)) 1 (.int .i64 0)) 2 (.int .i64 (-1))
  show Rdr _ _ _ _ _ _
  unfold Rdr
  simpa using this
 have HG : Hid (w.grownBy (((w.setCell ⟨g, 0, none⟩ (.string s)).setCell ⟨g, 1, none⟩ (.int .i64 0)).setCell ⟨g, 2, none⟩ (.int .i64 (-1))) (some g)) := grown_then (grown_then (grown_set w g 0 _) (grown_set _ g 1 _)) (grown_set _ g 2 _)
 clear h
 go_enter Tryz.func54, Tryz.ntmps54
 go_wp2
 go_end0
 exact ⟨rfl, HR.out, HG.out⟩
theorem Blk.put13 {g : Nat} {x0 x1 x2 x3 x4 x5 x6 x7 x8 x9 x10 x11 x12 : Value} {t : TypeId} {w : World} (h : Blk g #[x0, x1, x2, x3, x4, x5, x6, x7, x8, x9, x10, x11, x12] t w) (v0 v1 v2 v3 v4 v5 v6 v7 v8 v9 v10 v11 v12 : Value) :
  Blk g #[v0, v1, v2, v3, v4, v5, v6, v7, v8, v9, v10, v11, v12] t (((((((((((((w.setCell ⟨g, 0, none⟩ v0).setCell ⟨g, 1, none⟩ v1).setCell ⟨g, 2, none⟩ v2).setCell ⟨g, 3, none⟩ v3).setCell ⟨g, 4, none⟩ v4).setCell ⟨g, 5, none⟩ v5).setCell ⟨g, 6, none⟩ v6).setCell ⟨g, 7, none⟩ v7).setCell ⟨g, 8, none⟩ v8).setCell ⟨g, 9, none⟩ v9).setCell ⟨g, 10, none⟩ v10).setCell ⟨g, 11, none⟩ v11).setCell ⟨g, 12, none⟩ v12) := by
 have := Blk.set (Blk.set (Blk.set (Blk.set (Blk.set (Blk.set (Blk.set (Blk.set (Blk.set (Blk.set (Blk.set (Blk.set (Blk.set h 0 v0) 1 v1) 2 v2) 3 v3) 4 v4) 5 v5) 6 v6) 7 v7) 8 v8) 9 v9) 10 v10) 11 v11) 12 v12
 simpa using this
theorem below_put13 {B g : Nat} {w W : World} (b : Below B w W) (hB : B ≤ g) (v0 v1 v2 v3 v4 v5 v6 v7 v8 v9 v10 v11 v12 : Value) :
  Below B w (((((((((((((W.setCell ⟨g, 0, none⟩ v0).setCell ⟨g, 1, none⟩ v1).setCell ⟨g, 2, none⟩ v2).setCell ⟨g, 3, none⟩ v3).setCell ⟨g, 4, none⟩ v4).setCell ⟨g, 5, none⟩ v5).setCell ⟨g, 6, none⟩ v6).setCell ⟨g, 7, none⟩ v7).setCell ⟨g, 8, none⟩ v8).setCell ⟨g, 9, none⟩ v9).setCell ⟨g, 10, none⟩ v10).setCell ⟨g, 11, none⟩ v11).setCell ⟨g, 12, none⟩ v12) :=
 ((((((((((((b.setCell (p := ⟨g, 0, none⟩) hB _).setCell (p := ⟨g, 1, none⟩) hB _).setCell (p := ⟨g, 2, none⟩) hB _).setCell (p := ⟨g, 3, none⟩) hB _).setCell (p := ⟨g, 4, none⟩) hB _).setCell (p := ⟨g, 5, none⟩) hB _).setCell (p := ⟨g, 6, none⟩) hB _).setCell (p := ⟨g, 7, none⟩) hB _).setCell (p := ⟨g, 8, none⟩) hB _).setCell (p := ⟨g, 9, none⟩) hB _).setCell (p := ⟨g, 10, none⟩) hB _).setCell (p := ⟨g, 11, none⟩) hB _).setCell (p := ⟨g, 12, none⟩) hB _
theorem grown13 (g : Nat) (W : World) (v0 v1 v2 v3 v4 v5 v6 v7 v8 v9 v10 v11 v12 : Value) :
  W.grownBy (((((((((((((W.setCell ⟨g, 0, none⟩ v0).setCell ⟨g, 1, none⟩ v1).setCell ⟨g, 2, none⟩ v2).setCell ⟨g, 3, none⟩ v3).setCell ⟨g, 4, none⟩ v4).setCell ⟨g, 5, none⟩ v5).setCell ⟨g, 6, none⟩ v6).setCell ⟨g, 7, none⟩ v7).setCell ⟨g, 8, none⟩ v8).setCell ⟨g, 9, none⟩ v9).setCell ⟨g, 10, none⟩ v10).setCell ⟨g, 11, none⟩ v11).setCell ⟨g, 12, none⟩ v12) (some g) :=
 grown_then (grown_then (grown_then (grown_then (grown_then (grown_then (grown_then (grown_then (grown_then (grown_then (grown_then (grown_then (grown_set W g 0 _) (grown_set _ g 1 _)) (grown_set _ g 2 _)) (grown_set _ g 3 _)) (grown_set _ g 4 _)) (grown_set _ g 5 _)) (grown_set _ g 6 _)) (grown_set _ g 7 _)) (grown_set _ g 8 _)) (grown_set _ g 9 _)) (grown_set _ g 10 _)) (grown_set _ g 11 _)) (grown_set _ g 12 _)
theorem UR.allP {g : Nat} {t : ByteArray} {i : Nat} {q : P} {v : Value} {x : Bool} {w : World} (h : UR g t i (q.u v) x w) :
  w.cell? ⟨g, 3, none⟩ = some (.string q.sc) ∧ w.cell? ⟨g, 4, none⟩ = some (.string q.us) ∧ w.cell? ⟨g, 5, none⟩ = some (.string q.pw) ∧ w.cell? ⟨g, 6, none⟩ = some (.int .i64 q.hk) ∧ w.cell? ⟨g, 7, none⟩ = some (.string q.hn) ∧ w.cell? ⟨g, 8, none⟩ = some (.int .i64 q.ha) ∧ w.cell? ⟨g, 9, none⟩ = some (.int .i64 q.po) ∧ w.cell? ⟨g, 10, none⟩ = some v ∧ w.cell? ⟨g, 11, none⟩ = some (.string q.op) ∧ w.cell? ⟨g, 12, none⟩ = some (.bool q.hq) ∧ w.cell? ⟨g, 13, none⟩ = some (.string q.qu) ∧ w.cell? ⟨g, 14, none⟩ = some (.bool q.hf) ∧ w.cell? ⟨g, 15, none⟩ = some (.string q.fr) ∧ w.cell? ⟨g, 16, none⟩ = some (.bool x) := h.all
structure Lean1 (w : World) : Prop where
 make ::
 base : Lean0 w
 eof : Eof w
theorem Eof.lt {w : World} (h : Eof w) : 1 < w.heap.size := by
 obtain ⟨te, v, h⟩ := h
 exact cell_in h
theorem Eof.below {w w' : World} {B : Nat} (h : Eof w) (b : Below B w w') (hB : w.heap.size ≤ B) : Eof w' := by
 have hl := h.lt
 obtain ⟨te, v, h⟩ := h
 exact ⟨te, v, (b.cell (p := ⟨1, 0, none⟩) (Nat.lt_of_lt_of_le hl hB)).trans h⟩
theorem Lean1.below {w w' : World} (h : Lean1 w) (b : Below w.heap.size w w') : Lean1 w' := ⟨h.base.below b, h.eof.below b (Nat.le_refl _)⟩
theorem tab_grown {w w' : World} {g : Nat} (h : Lib.TabIs Tryz.prog w "internal/strconv.uint64pow10" .u64 Lib.pow10Tab) (hg : w.grownBy w' (some g)) (hl : 4 < w.heap.size) (hne : g ≠ 4) : Lib.TabIs Tryz.prog w' "internal/strconv.uint64pow10" .u64 Lib.pow10Tab := by
 have hgn : Tryz.prog.globalNamed "internal/strconv.uint64pow10" = some 4 := by kernel_rfl
 unfold Lib.TabIs World.var? at h ⊢
 rw [hgn] at h ⊢
 simp only [Option.bind_some] at h ⊢
 rw [hg.block _ hl (by simp; omega)]; exact h
def getP (l : List UInt8) : P := (getO l).getD P.zero
def getB (l : List UInt8) : Bool := (getO l).isSome
theorem implUrlGet (s : ByteArray) (w : World) (hL : Lean1 w) (hs : s.size ≤ 1048576) :
  Calls Tryz.prog 21 #[.string s] w fun e w' => ∃ v, e = .returned (.tuple #[.agg ((getP s.data.toList).cells v), .bool (getB s.data.toList)]) ∧ OwnS w.heap.size v (getP s.data.toList).ps w' ∧ Below w.heap.size w w' := by
 have hln : s.data.toList.length = s.size := by simp
 by_cases hb : s.size ≤ 200
 ·have hbi : (s.size : Int) ≤ 200 := by omega
  obtain ⟨t, ht⟩ : ∃ t, t = mk (trimL s.data.toList) := ⟨_, rfl⟩
  have htl : t.size ≤ 200 := by rw [ht, mk_size]; have := trim_len s.data.toList; omega
  have htd : t.data.toList = trimL s.data.toList := by rw [ht]; rfl
  have HTD : Hid (t.data.toList = trimL s.data.toList) := htd
  have CT : Hid (∀ A B : Obj, Calls Tryz.prog 55 #[.string s] ((w.alloc A).alloc B).drew fun e w' => e = .returned (.string t) ∧ Below ((w.alloc A).alloc B).drew.heap.size ((w.alloc A).alloc B).drew w') := fun A B => by rw [ht]; exact urlTrim s _ (by omega) (hL.below ((((Below.refl _ w).alloc (Nat.le_refl _) A).alloc (by simp) B).drew)).base.mx
  have hg0 : w.heap.size + 1 ≠ 1 := by have := hL.eof.lt; omega
  have hg1 : w.heap.size + 1 ≠ 0 := by have := hL.base.mx.lt; omega
  have hg2 : w.heap.size + 1 ≠ 4 := by have := hL.base.lt; omega
  have CR : Hid (∀ W, Below (((w.alloc (.cells #[(.string ⟨#[]⟩), (.string ⟨#[]⟩), (.string ⟨#[]⟩), (.int .i64 0), (.string ⟨#[]⟩), (.int .i64 0), (.int .i64 0), (.slice none 0 0), (.string ⟨#[]⟩), (.bool false), (.string ⟨#[]⟩), (.bool false), (.string ⟨#[]⟩)] 31)).alloc (.cells #[.string ⟨#[]⟩, .int .i64 0, .int .i64 0, (.string ⟨#[]⟩), (.string ⟨#[]⟩), (.string ⟨#[]⟩), (.int .i64 0), (.string ⟨#[]⟩), (.int .i64 0), (.int .i64 0), (.slice none 0 0), (.string ⟨#[]⟩), (.bool false), (.string ⟨#[]⟩), (.bool false), (.string ⟨#[]⟩), .bool false] 79)).drew).heap.size ((w.alloc (.cells #[(.string ⟨#[]⟩), (.string ⟨#[]⟩), (.string ⟨#[]⟩), (.int .i64 0), (.string ⟨#[]⟩), (.int .i64 0), (.int .i64 0), (.slice none 0 0), (.string ⟨#[]⟩), (.bool false), (.string ⟨#[]⟩), (.bool false), (.string ⟨#[]⟩)] 31)).alloc (.cells #[.string ⟨#[]⟩, .int .i64 0, .int .i64 0, (.string ⟨#[]⟩), (.string ⟨#[]⟩), (.string ⟨#[]⟩), (.int .i64 0), (.string ⟨#[]⟩), (.int .i64 0), (.int .i64 0), (.slice none 0 0), (.string ⟨#[]⟩), (.bool false), (.string ⟨#[]⟩), (.bool false), (.string ⟨#[]⟩), .bool false] 79)).drew W → Calls Tryz.prog 54 #[.pointer (some ⟨w.heap.size + 1, 0, none⟩), .string t] W fun e w' => e = .returned (.tuple #[]) ∧ UR (w.heap.size + 1) t 0 (P.zero.u (.slice none 0 0)) false w' ∧ Blk w.heap.size #[(.string ⟨#[]⟩), (.string ⟨#[]⟩), (.string ⟨#[]⟩), (.int .i64 0), (.string ⟨#[]⟩), (.int .i64 0), (.int .i64 0), (.slice none 0 0), (.string ⟨#[]⟩), (.bool false), (.string ⟨#[]⟩), (.bool false), (.string ⟨#[]⟩)] 31 w' ∧ Below w.heap.size w w' ∧ Lean1 w') := by
   intro W b
   have hsz : (((w.alloc (.cells #[(.string ⟨#[]⟩), (.string ⟨#[]⟩), (.string ⟨#[]⟩), (.int .i64 0), (.string ⟨#[]⟩), (.int .i64 0), (.int .i64 0), (.slice none 0 0), (.string ⟨#[]⟩), (.bool false), (.string ⟨#[]⟩), (.bool false), (.string ⟨#[]⟩)] 31)).alloc (.cells #[.string ⟨#[]⟩, .int .i64 0, .int .i64 0, (.string ⟨#[]⟩), (.string ⟨#[]⟩), (.string ⟨#[]⟩), (.int .i64 0), (.string ⟨#[]⟩), (.int .i64 0), (.int .i64 0), (.slice none 0 0), (.string ⟨#[]⟩), (.bool false), (.string ⟨#[]⟩), (.bool false), (.string ⟨#[]⟩), .bool false] 79)).drew).heap.size = w.heap.size + 2 := by simp
   rw [hsz] at b
   have k1 : Blk w.heap.size #[(.string ⟨#[]⟩), (.string ⟨#[]⟩), (.string ⟨#[]⟩), (.int .i64 0), (.string ⟨#[]⟩), (.int .i64 0), (.int .i64 0), (.slice none 0 0), (.string ⟨#[]⟩), (.bool false), (.string ⟨#[]⟩), (.bool false), (.string ⟨#[]⟩)] 31 ((w.alloc (.cells #[(.string ⟨#[]⟩), (.string ⟨#[]⟩), (.string ⟨#[]⟩), (.int .i64 0), (.string ⟨#[]⟩), (.int .i64 0), (.int .i64 0), (.slice none 0 0), (.string ⟨#[]⟩), (.bool false), (.string ⟨#[]⟩), (.bool false), (.string ⟨#[]⟩)] 31)).alloc (.cells #[.string ⟨#[]⟩, .int .i64 0, .int .i64 0, (.string ⟨#[]⟩), (.string ⟨#[]⟩), (.string ⟨#[]⟩), (.int .i64 0), (.string ⟨#[]⟩), (.int .i64 0), (.int .i64 0), (.slice none 0 0), (.string ⟨#[]⟩), (.bool false), (.string ⟨#[]⟩), (.bool false), (.string ⟨#[]⟩), .bool false] 79)).drew := (Blk.alloc (Blk.new w _ _) _)
   have k2 : Blk (w.heap.size + 1) #[.string ⟨#[]⟩, .int .i64 0, .int .i64 0, (.string ⟨#[]⟩), (.string ⟨#[]⟩), (.string ⟨#[]⟩), (.int .i64 0), (.string ⟨#[]⟩), (.int .i64 0), (.int .i64 0), (.slice none 0 0), (.string ⟨#[]⟩), (.bool false), (.string ⟨#[]⟩), (.bool false), (.string ⟨#[]⟩), .bool false] 79 ((w.alloc (.cells #[(.string ⟨#[]⟩), (.string ⟨#[]⟩), (.string ⟨#[]⟩), (.int .i64 0), (.string ⟨#[]⟩), (.int .i64 0), (.int .i64 0), (.slice none 0 0), (.string ⟨#[]⟩), (.bool false), (.string ⟨#[]⟩), (.bool false), (.string ⟨#[]⟩)] 31)).alloc (.cells #[.string ⟨#[]⟩, .int .i64 0, .int .i64 0, (.string ⟨#[]⟩), (.string ⟨#[]⟩), (.string ⟨#[]⟩), (.int .i64 0), (.string ⟨#[]⟩), (.int .i64 0), (.int .i64 0), (.slice none 0 0), (.string ⟨#[]⟩), (.bool false), (.string ⟨#[]⟩), (.bool false), (.string ⟨#[]⟩), .bool false] 79)).drew := by
    have := Blk.new (w.alloc (.cells #[(.string ⟨#[]⟩), (.string ⟨#[]⟩), (.string ⟨#[]⟩), (.int .i64 0), (.string ⟨#[]⟩), (.int .i64 0), (.int .i64 0), (.slice none 0 0), (.string ⟨#[]⟩), (.bool false), (.string ⟨#[]⟩), (.bool false), (.string ⟨#[]⟩)] 31)) #[.string ⟨#[]⟩, .int .i64 0, .int .i64 0, (.string ⟨#[]⟩), (.string ⟨#[]⟩), (.string ⟨#[]⟩), (.int .i64 0), (.string ⟨#[]⟩), (.int .i64 0), (.int .i64 0), (.slice none 0 0), (.string ⟨#[]⟩), (.bool false), (.string ⟨#[]⟩), (.bool false), (.string ⟨#[]⟩), .bool false] 79
    rw [show (w.alloc (Obj.cells #[(.string ⟨#[]⟩), (.string ⟨#[]⟩), (.string ⟨#[]⟩), (.int .i64 0), (.string ⟨#[]⟩), (.int .i64 0), (.int .i64 0), (.slice none 0 0), (.string ⟨#[]⟩), (.bool false), (.string ⟨#[]⟩), (.bool false), (.string ⟨#[]⟩)] 31)).heap.size = w.heap.size + 1 by simp] at this
    exact this
   have k3 : Below w.heap.size w ((w.alloc (.cells #[(.string ⟨#[]⟩), (.string ⟨#[]⟩), (.string ⟨#[]⟩), (.int .i64 0), (.string ⟨#[]⟩), (.int .i64 0), (.int .i64 0), (.slice none 0 0), (.string ⟨#[]⟩), (.bool false), (.string ⟨#[]⟩), (.bool false), (.string ⟨#[]⟩)] 31)).alloc (.cells #[.string ⟨#[]⟩, .int .i64 0, .int .i64 0, (.string ⟨#[]⟩), (.string ⟨#[]⟩), (.string ⟨#[]⟩), (.int .i64 0), (.string ⟨#[]⟩), (.int .i64 0), (.int .i64 0), (.slice none 0 0), (.string ⟨#[]⟩), (.bool false), (.string ⟨#[]⟩), (.bool false), (.string ⟨#[]⟩), .bool false] 79)).drew := (((Below.refl _ w).alloc (Nat.le_refl _) _).alloc (by simp) _).drew
   have j1 := k1.below b (by omega)
   have j2 := k2.below b (by omega)
   have j3 := k3.trans (b.mono (by omega))
   refine (reset (w.heap.size + 1) t _ _ _ ((P.zero.u (.slice none 0 0)).cells ++ [.bool false]) 79 W (by simpa [P.zero, P.u, U.cells] using j2)).mono ?_
   rintro e w' ⟨rfl, hR, hG⟩
   have hlt : w.heap.size ≤ W.heap.size := j3.size
   have hB : Below w.heap.size w w' := below_then j3 hG hlt (by omega)
   refine ⟨rfl, hR, ?_, hB, hL.below hB⟩
   exact (hG.block _ j1.lt (by simp)).trans j1
  obtain ⟨R, hR⟩ : ∃ R, schP P.zero (trimL s.data.toList) = R := ⟨_, rfl⟩
  have HRR : Hid (schP P.zero (trimL s.data.toList) = R) := hR
  clear hln ht htd hR hL
  go_enter Tryz.func21, Tryz.ntmps21
  go_wp2
  go_region_with (first
   | (go_at_call 55; refine (CT.out _ _).mono ?_; rintro e W1 ⟨rfl, d1⟩)
   | (go_at_call 54; refine (CR.out W1 d1).mono ?_; rintro e W2 ⟨rfl, hU2, hZ2, hB2, hL2⟩))
  have HRUN : Hid (Calls Tryz.prog 56 #[.pointer (some ⟨w.heap.size + 1, 0, none⟩), .func (.func 57) #[.pointer (some ⟨w.heap.size + 1, 0, none⟩)] #[]] W2 fun e w' => e = .returned (.tuple #[]) ∧ Fin (w.heap.size + 1) t R w' ∧ W2.grownBy w' (some (w.heap.size + 1))) := by
   have := runFrom (w.heap.size + 1) t 0 P.zero .sch W2 ⟨_, hU2, ownS_nil _ _⟩ hL2.eof hL2.base.mx hg0 hg1 (Nat.zero_le _) (by omega)
   rw [show St.out .sch P.zero (t.data.toList.drop 0) = R by rw [List.drop_zero, HTD.out]; exact HRR.out] at this
   exact this
  have HZ2 : Hid (Blk w.heap.size #[(.string ⟨#[]⟩), (.string ⟨#[]⟩), (.string ⟨#[]⟩), (.int .i64 0), (.string ⟨#[]⟩), (.int .i64 0), (.int .i64 0), (.slice none 0 0), (.string ⟨#[]⟩), (.bool false), (.string ⟨#[]⟩), (.bool false), (.string ⟨#[]⟩)] 31 W2) := hZ2
  have HB2 : Hid (Below w.heap.size w W2) := hB2
  have HL2 : Hid (Lean1 W2) := hL2
  clear CT CR d1 hU2 hZ2 hB2 hL2
  go_wp2_with fail
  refine HRUN.out.mono ?_
  rintro e W3 ⟨rfl, hF, hG3⟩
  have hz3 : Blk w.heap.size #[(.string ⟨#[]⟩), (.string ⟨#[]⟩), (.string ⟨#[]⟩), (.int .i64 0), (.string ⟨#[]⟩), (.int .i64 0), (.int .i64 0), (.slice none 0 0), (.string ⟨#[]⟩), (.bool false), (.string ⟨#[]⟩), (.bool false), (.string ⟨#[]⟩)] 31 W3 := (hG3.block _ HZ2.out.lt (by simp)).trans HZ2.out
  have HB3 : Hid (Below w.heap.size w W3) := below_then HB2.out hG3 HB2.out.size (by omega)
  have HL3 : Hid (Lean0 W3) := ⟨HL2.out.base.mx.grown hG3 hg1, Nat.lt_of_lt_of_le HL2.out.base.lt hG3.size, tab_grown HL2.out.base.tab hG3 HL2.out.base.lt hg2⟩
  have HS3 : Hid (w.heap.size + 1 ≤ W3.heap.size) := hz3.lt
  have HZ3 : Hid (Blk w.heap.size #[(.string ⟨#[]⟩), (.string ⟨#[]⟩), (.string ⟨#[]⟩), (.int .i64 0), (.string ⟨#[]⟩), (.int .i64 0), (.int .i64 0), (.slice none 0 0), (.string ⟨#[]⟩), (.bool false), (.string ⟨#[]⟩), (.bool false), (.string ⟨#[]⟩)] 31 W3) := hz3
  have z0 : W3.cell? ⟨w.heap.size, 0, none⟩ = some (.string ⟨#[]⟩) := hz3.cell 0
  have y0 : W3.frozen? ⟨w.heap.size, 0, none⟩ = false := hz3.free 0
  have z1 : W3.cell? ⟨w.heap.size, 1, none⟩ = some (.string ⟨#[]⟩) := hz3.cell 1
  have y1 : W3.frozen? ⟨w.heap.size, 1, none⟩ = false := hz3.free 1
  have z2 : W3.cell? ⟨w.heap.size, 2, none⟩ = some (.string ⟨#[]⟩) := hz3.cell 2
  have y2 : W3.frozen? ⟨w.heap.size, 2, none⟩ = false := hz3.free 2
  have z3 : W3.cell? ⟨w.heap.size, 3, none⟩ = some (.int .i64 0) := hz3.cell 3
  have y3 : W3.frozen? ⟨w.heap.size, 3, none⟩ = false := hz3.free 3
  have z4 : W3.cell? ⟨w.heap.size, 4, none⟩ = some (.string ⟨#[]⟩) := hz3.cell 4
  have y4 : W3.frozen? ⟨w.heap.size, 4, none⟩ = false := hz3.free 4
  have z5 : W3.cell? ⟨w.heap.size, 5, none⟩ = some (.int .i64 0) := hz3.cell 5
  have y5 : W3.frozen? ⟨w.heap.size, 5, none⟩ = false := hz3.free 5
  have z6 : W3.cell? ⟨w.heap.size, 6, none⟩ = some (.int .i64 0) := hz3.cell 6
  have y6 : W3.frozen? ⟨w.heap.size, 6, none⟩ = false := hz3.free 6
  have z7 : W3.cell? ⟨w.heap.size, 7, none⟩ = some (.slice none 0 0) := hz3.cell 7
  have y7 : W3.frozen? ⟨w.heap.size, 7, none⟩ = false := hz3.free 7
  have z8 : W3.cell? ⟨w.heap.size, 8, none⟩ = some (.string ⟨#[]⟩) := hz3.cell 8
  have y8 : W3.frozen? ⟨w.heap.size, 8, none⟩ = false := hz3.free 8
  have z9 : W3.cell? ⟨w.heap.size, 9, none⟩ = some (.bool false) := hz3.cell 9
  have y9 : W3.frozen? ⟨w.heap.size, 9, none⟩ = false := hz3.free 9
  have z10 : W3.cell? ⟨w.heap.size, 10, none⟩ = some (.string ⟨#[]⟩) := hz3.cell 10
  have y10 : W3.frozen? ⟨w.heap.size, 10, none⟩ = false := hz3.free 10
  have z11 : W3.cell? ⟨w.heap.size, 11, none⟩ = some (.bool false) := hz3.cell 11
  have y11 : W3.frozen? ⟨w.heap.size, 11, none⟩ = false := hz3.free 11
  have z12 : W3.cell? ⟨w.heap.size, 12, none⟩ = some (.string ⟨#[]⟩) := hz3.cell 12
  have y12 : W3.frozen? ⟨w.heap.size, 12, none⟩ = false := hz3.free 12
  clear hz3 hG3 HRUN HZ2 HB2 HL2
  cases R with
  | none =>
   obtain ⟨i, u, hU⟩ : ∃ i u, UR (w.heap.size + 1) t i u true W3 := hF
   have HO : Hid (getO s.data.toList = none) := by show _ = _; unfold getO; rw [if_pos (by simp; omega), HRR.out]; rfl
   have k16 : W3.cell? ⟨w.heap.size + 1, 16, none⟩ = some (.bool true) := hU.cell 13 _ rfl
   have HZ : Hid (Blk w.heap.size #[(.string ⟨#[]⟩), (.string ⟨#[]⟩), (.string ⟨#[]⟩), (.int .i64 0), (.string ⟨#[]⟩), (.int .i64 0), (.int .i64 0), (.slice none 0 0), (.string ⟨#[]⟩), (.bool false), (.string ⟨#[]⟩), (.bool false), (.string ⟨#[]⟩)] 31 W3) := HZ3.out
   have HBW : Hid (Below w.heap.size w W3) := HB3.out
   clear hU HRR HZ3 HB3 HL3 HS3
   go_wp2
   have HRB : Hid (Blk w.heap.size #[(.string ⟨#[]⟩), (.string ⟨#[]⟩), (.string ⟨#[]⟩), (.int .i64 0), (.string ⟨#[]⟩), (.int .i64 0), (.int .i64 0), (.slice none 0 0), (.string ⟨#[]⟩), (.bool false), (.string ⟨#[]⟩), (.bool false), (.string ⟨#[]⟩)] 31 (((((((((((((W3.setCell ⟨w.heap.size, 0, none⟩ (.string ⟨#[]⟩)).setCell ⟨w.heap.size, 1, none⟩ (.string ⟨#[]⟩)).setCell ⟨w.heap.size, 2, none⟩ (.string ⟨#[]⟩)).setCell ⟨w.heap.size, 3, none⟩ (.int .i64 0)).setCell ⟨w.heap.size, 4, none⟩ (.string ⟨#[]⟩)).setCell ⟨w.heap.size, 5, none⟩ (.int .i64 0)).setCell ⟨w.heap.size, 6, none⟩ (.int .i64 0)).setCell ⟨w.heap.size, 7, none⟩ (.slice none 0 0)).setCell ⟨w.heap.size, 8, none⟩ (.string ⟨#[]⟩)).setCell ⟨w.heap.size, 9, none⟩ (.bool false)).setCell ⟨w.heap.size, 10, none⟩ (.string ⟨#[]⟩)).setCell ⟨w.heap.size, 11, none⟩ (.bool false)).setCell ⟨w.heap.size, 12, none⟩ (.string ⟨#[]⟩))) := HZ.out.put13 _ _ _ _ _ _ _ _ _ _ _ _ _
   have HBB : Hid (Below w.heap.size w (((((((((((((W3.setCell ⟨w.heap.size, 0, none⟩ (.string ⟨#[]⟩)).setCell ⟨w.heap.size, 1, none⟩ (.string ⟨#[]⟩)).setCell ⟨w.heap.size, 2, none⟩ (.string ⟨#[]⟩)).setCell ⟨w.heap.size, 3, none⟩ (.int .i64 0)).setCell ⟨w.heap.size, 4, none⟩ (.string ⟨#[]⟩)).setCell ⟨w.heap.size, 5, none⟩ (.int .i64 0)).setCell ⟨w.heap.size, 6, none⟩ (.int .i64 0)).setCell ⟨w.heap.size, 7, none⟩ (.slice none 0 0)).setCell ⟨w.heap.size, 8, none⟩ (.string ⟨#[]⟩)).setCell ⟨w.heap.size, 9, none⟩ (.bool false)).setCell ⟨w.heap.size, 10, none⟩ (.string ⟨#[]⟩)).setCell ⟨w.heap.size, 11, none⟩ (.bool false)).setCell ⟨w.heap.size, 12, none⟩ (.string ⟨#[]⟩))) := below_put13 HBW.out (Nat.le_refl _) _ _ _ _ _ _ _ _ _ _ _ _ _
   clear HZ HBW
   generalize (((((((((((((W3.setCell ⟨w.heap.size, 0, none⟩ (.string ⟨#[]⟩)).setCell ⟨w.heap.size, 1, none⟩ (.string ⟨#[]⟩)).setCell ⟨w.heap.size, 2, none⟩ (.string ⟨#[]⟩)).setCell ⟨w.heap.size, 3, none⟩ (.int .i64 0)).setCell ⟨w.heap.size, 4, none⟩ (.string ⟨#[]⟩)).setCell ⟨w.heap.size, 5, none⟩ (.int .i64 0)).setCell ⟨w.heap.size, 6, none⟩ (.int .i64 0)).setCell ⟨w.heap.size, 7, none⟩ (.slice none 0 0)).setCell ⟨w.heap.size, 8, none⟩ (.string ⟨#[]⟩)).setCell ⟨w.heap.size, 9, none⟩ (.bool false)).setCell ⟨w.heap.size, 10, none⟩ (.string ⟨#[]⟩)).setCell ⟨w.heap.size, 11, none⟩ (.bool false)).setCell ⟨w.heap.size, 12, none⟩ (.string ⟨#[]⟩)) = W9 at *
   clear z0 y0 z1 y1 z2 y2 z3 y3 z4 y4 z5 y5 z6 y6 z7 y7 z8 y8 z9 y9 z10 y10 z11 y11 z12 y12
   have z0 : W9.cell? ⟨w.heap.size, 0, none⟩ = some (.string ⟨#[]⟩) := HRB.out.cell 0
   have z1 : W9.cell? ⟨w.heap.size, 1, none⟩ = some (.string ⟨#[]⟩) := HRB.out.cell 1
   have z2 : W9.cell? ⟨w.heap.size, 2, none⟩ = some (.string ⟨#[]⟩) := HRB.out.cell 2
   have z3 : W9.cell? ⟨w.heap.size, 3, none⟩ = some (.int .i64 0) := HRB.out.cell 3
   have z4 : W9.cell? ⟨w.heap.size, 4, none⟩ = some (.string ⟨#[]⟩) := HRB.out.cell 4
   have z5 : W9.cell? ⟨w.heap.size, 5, none⟩ = some (.int .i64 0) := HRB.out.cell 5
   have z6 : W9.cell? ⟨w.heap.size, 6, none⟩ = some (.int .i64 0) := HRB.out.cell 6
   have z7 : W9.cell? ⟨w.heap.size, 7, none⟩ = some (.slice none 0 0) := HRB.out.cell 7
   have z8 : W9.cell? ⟨w.heap.size, 8, none⟩ = some (.string ⟨#[]⟩) := HRB.out.cell 8
   have z9 : W9.cell? ⟨w.heap.size, 9, none⟩ = some (.bool false) := HRB.out.cell 9
   have z10 : W9.cell? ⟨w.heap.size, 10, none⟩ = some (.string ⟨#[]⟩) := HRB.out.cell 10
   have z11 : W9.cell? ⟨w.heap.size, 11, none⟩ = some (.bool false) := HRB.out.cell 11
   have z12 : W9.cell? ⟨w.heap.size, 12, none⟩ = some (.string ⟨#[]⟩) := HRB.out.cell 12
   refine bodyPost_ret (v := .tuple #[.agg #[(.string ⟨#[]⟩), (.string ⟨#[]⟩), (.string ⟨#[]⟩), (.int .i64 0), (.string ⟨#[]⟩), (.int .i64 0), (.int .i64 0), (.slice none 0 0), (.string ⟨#[]⟩), (.bool false), (.string ⟨#[]⟩), (.bool false), (.string ⟨#[]⟩)], .bool false]) (by simp [results, Tryz.results21, go_sem, z0, z1, z2, z3, z4, z5, z6, z7, z8, z9, z10, z11, z12]) rfl ?_
   exact ⟨.slice none 0 0, by unfold getP getB; rw [HO.out]; rfl, by unfold getP; rw [HO.out]; exact ownS_nil _ _, HBB.out⟩
  | some q =>
   obtain ⟨i, hi, V, hU, hO⟩ : ∃ i, i ≤ t.size ∧ ∃ v, UR (w.heap.size + 1) t i (q.u v) false W3 ∧ OwnS (w.heap.size + 1 + 1) v q.ps W3 := hF
   have HFT : Hid (Fit q) := fit_sch P.zero q _ (by have h1 := trim_len s.data.toList; simp at h1; omega) fit_zero HRR.out
   obtain ⟨a, c, hV, hcap, hst⟩ := hO.strs
   have HU : Hid (UR (w.heap.size + 1) t i (q.u V) false W3) := hU
   have HOW : Hid (OwnS (w.heap.size + 1 + 1) V q.ps W3) := hO
   obtain ⟨k3, k4, k5, k6, k7, k8, k9, k10, k11, k12, k13, k14, k15, k16⟩ := hU.allP
   have hpl : q.ps.length ≤ 1000 := by have := HFT.out.ps; omega
   have CW : Hid (Calls Tryz.prog 58 #[.agg #[.string q.sc, .string q.us, .string q.pw, .int .i64 q.hk, .string q.hn, .int .i64 q.ha, .int .i64 q.po, V, .string q.op, .bool q.hq, .string q.qu, .bool q.hf, .string q.fr]] W3 fun e w' => e = .returned (.string (mk (writL q))) ∧ Below W3.heap.size W3 w') := by
    rw [hV]
    exact urlWrite q a c W3 HL3.out hst (by have := HFT.out.tot; omega) (by have := HFT.out.p1; omega)
   by_cases hp : q.ps.length ≤ 12
   ·have hpi : ¬ ((12 : Int) < (q.ps.length : Int)) := by omega
    have hwz : (mk (writL q)).size = (writL q).length := mk_size _
    obtain ⟨X, hX⟩ : ∃ X, X = mk (writL q) := ⟨_, rfl⟩
    rw [← hX] at CW hwz
    by_cases hw : (writL q).length ≤ 600
    ·have hwi : ¬ ((600 : Int) < (X.size : Int)) := by omega
     have HO : Hid (getO s.data.toList = some q) := by show _ = _; unfold getO; rw [if_pos (by simp; omega), HRR.out]; show (if _ then _ else _) = _; rw [if_pos ⟨hp, hw⟩]
     clear hwz hX HRR hst hw
     have HHV : Hid (V = .slice a q.ps.length c) := hV
     subst hV
     clear hU hO
     go_wp2_with fail
     refine CW.out.mono ?_
     rintro e W4 ⟨rfl, d4⟩
     have hU4 : UR (w.heap.size + 1) t i (q.u (.slice a q.ps.length c)) false W4 := HU.out.grown d4 (Rdr.lt HU.out)
     have hz3 : Blk w.heap.size #[(.string ⟨#[]⟩), (.string ⟨#[]⟩), (.string ⟨#[]⟩), (.int .i64 0), (.string ⟨#[]⟩), (.int .i64 0), (.int .i64 0), (.slice none 0 0), (.string ⟨#[]⟩), (.bool false), (.string ⟨#[]⟩), (.bool false), (.string ⟨#[]⟩)] 31 W4 := HZ3.out.below d4 HZ3.out.lt
     have HBW : Hid (Below w.heap.size w W4) := HB3.out.trans (d4.mono HB3.out.size)
     have HOW4 : Hid (OwnS (w.heap.size + 1 + 1) (.slice a q.ps.length c) q.ps W4) := HOW.out.later d4
     have HZ : Hid (Blk w.heap.size #[(.string ⟨#[]⟩), (.string ⟨#[]⟩), (.string ⟨#[]⟩), (.int .i64 0), (.string ⟨#[]⟩), (.int .i64 0), (.int .i64 0), (.slice none 0 0), (.string ⟨#[]⟩), (.bool false), (.string ⟨#[]⟩), (.bool false), (.string ⟨#[]⟩)] 31 W4) := hz3
     clear k3 k4 k5 k6 k7 k8 k9 k10 k11 k12 k13 k14 k15 k16 z0 y0 z1 y1 z2 y2 z3 y3 z4 y4 z5 y5 z6 y6 z7 y7 z8 y8 z9 y9 z10 y10 z11 y11 z12 y12
     obtain ⟨k3, k4, k5, k6, k7, k8, k9, k10, k11, k12, k13, k14, k15, k16⟩ := hU4.allP
     have z0 : W4.cell? ⟨w.heap.size, 0, none⟩ = some (.string ⟨#[]⟩) := hz3.cell 0
     have y0 : W4.frozen? ⟨w.heap.size, 0, none⟩ = false := hz3.free 0
     have z1 : W4.cell? ⟨w.heap.size, 1, none⟩ = some (.string ⟨#[]⟩) := hz3.cell 1
     have y1 : W4.frozen? ⟨w.heap.size, 1, none⟩ = false := hz3.free 1
     have z2 : W4.cell? ⟨w.heap.size, 2, none⟩ = some (.string ⟨#[]⟩) := hz3.cell 2
     have y2 : W4.frozen? ⟨w.heap.size, 2, none⟩ = false := hz3.free 2
     have z3 : W4.cell? ⟨w.heap.size, 3, none⟩ = some (.int .i64 0) := hz3.cell 3
     have y3 : W4.frozen? ⟨w.heap.size, 3, none⟩ = false := hz3.free 3
     have z4 : W4.cell? ⟨w.heap.size, 4, none⟩ = some (.string ⟨#[]⟩) := hz3.cell 4
     have y4 : W4.frozen? ⟨w.heap.size, 4, none⟩ = false := hz3.free 4
     have z5 : W4.cell? ⟨w.heap.size, 5, none⟩ = some (.int .i64 0) := hz3.cell 5
     have y5 : W4.frozen? ⟨w.heap.size, 5, none⟩ = false := hz3.free 5
     have z6 : W4.cell? ⟨w.heap.size, 6, none⟩ = some (.int .i64 0) := hz3.cell 6
     have y6 : W4.frozen? ⟨w.heap.size, 6, none⟩ = false := hz3.free 6
     have z7 : W4.cell? ⟨w.heap.size, 7, none⟩ = some (.slice none 0 0) := hz3.cell 7
     have y7 : W4.frozen? ⟨w.heap.size, 7, none⟩ = false := hz3.free 7
     have z8 : W4.cell? ⟨w.heap.size, 8, none⟩ = some (.string ⟨#[]⟩) := hz3.cell 8
     have y8 : W4.frozen? ⟨w.heap.size, 8, none⟩ = false := hz3.free 8
     have z9 : W4.cell? ⟨w.heap.size, 9, none⟩ = some (.bool false) := hz3.cell 9
     have y9 : W4.frozen? ⟨w.heap.size, 9, none⟩ = false := hz3.free 9
     have z10 : W4.cell? ⟨w.heap.size, 10, none⟩ = some (.string ⟨#[]⟩) := hz3.cell 10
     have y10 : W4.frozen? ⟨w.heap.size, 10, none⟩ = false := hz3.free 10
     have z11 : W4.cell? ⟨w.heap.size, 11, none⟩ = some (.bool false) := hz3.cell 11
     have y11 : W4.frozen? ⟨w.heap.size, 11, none⟩ = false := hz3.free 11
     have z12 : W4.cell? ⟨w.heap.size, 12, none⟩ = some (.string ⟨#[]⟩) := hz3.cell 12
     have y12 : W4.frozen? ⟨w.heap.size, 12, none⟩ = false := hz3.free 12
     clear hz3 hU4 HU HOW d4 CW HZ3 HB3 HL3 HS3
     go_wp2
     have HRB : Hid (Blk w.heap.size #[(.string q.sc), (.string q.us), (.string q.pw), (.int .i64 q.hk), (.string q.hn), (.int .i64 q.ha), (.int .i64 q.po), (.slice a q.ps.length c), (.string q.op), (.bool q.hq), (.string q.qu), (.bool q.hf), (.string q.fr)] 31 (((((((((((((W4.setCell ⟨w.heap.size, 0, none⟩ (.string q.sc)).setCell ⟨w.heap.size, 1, none⟩ (.string q.us)).setCell ⟨w.heap.size, 2, none⟩ (.string q.pw)).setCell ⟨w.heap.size, 3, none⟩ (.int .i64 q.hk)).setCell ⟨w.heap.size, 4, none⟩ (.string q.hn)).setCell ⟨w.heap.size, 5, none⟩ (.int .i64 q.ha)).setCell ⟨w.heap.size, 6, none⟩ (.int .i64 q.po)).setCell ⟨w.heap.size, 7, none⟩ (.slice a q.ps.length c)).setCell ⟨w.heap.size, 8, none⟩ (.string q.op)).setCell ⟨w.heap.size, 9, none⟩ (.bool q.hq)).setCell ⟨w.heap.size, 10, none⟩ (.string q.qu)).setCell ⟨w.heap.size, 11, none⟩ (.bool q.hf)).setCell ⟨w.heap.size, 12, none⟩ (.string q.fr))) := HZ.out.put13 _ _ _ _ _ _ _ _ _ _ _ _ _
     have HBB : Hid (Below w.heap.size w (((((((((((((W4.setCell ⟨w.heap.size, 0, none⟩ (.string q.sc)).setCell ⟨w.heap.size, 1, none⟩ (.string q.us)).setCell ⟨w.heap.size, 2, none⟩ (.string q.pw)).setCell ⟨w.heap.size, 3, none⟩ (.int .i64 q.hk)).setCell ⟨w.heap.size, 4, none⟩ (.string q.hn)).setCell ⟨w.heap.size, 5, none⟩ (.int .i64 q.ha)).setCell ⟨w.heap.size, 6, none⟩ (.int .i64 q.po)).setCell ⟨w.heap.size, 7, none⟩ (.slice a q.ps.length c)).setCell ⟨w.heap.size, 8, none⟩ (.string q.op)).setCell ⟨w.heap.size, 9, none⟩ (.bool q.hq)).setCell ⟨w.heap.size, 10, none⟩ (.string q.qu)).setCell ⟨w.heap.size, 11, none⟩ (.bool q.hf)).setCell ⟨w.heap.size, 12, none⟩ (.string q.fr))) := below_put13 HBW.out (Nat.le_refl _) _ _ _ _ _ _ _ _ _ _ _ _ _
     have HON : Hid (OwnS w.heap.size (.slice a q.ps.length c) q.ps (((((((((((((W4.setCell ⟨w.heap.size, 0, none⟩ (.string q.sc)).setCell ⟨w.heap.size, 1, none⟩ (.string q.us)).setCell ⟨w.heap.size, 2, none⟩ (.string q.pw)).setCell ⟨w.heap.size, 3, none⟩ (.int .i64 q.hk)).setCell ⟨w.heap.size, 4, none⟩ (.string q.hn)).setCell ⟨w.heap.size, 5, none⟩ (.int .i64 q.ha)).setCell ⟨w.heap.size, 6, none⟩ (.int .i64 q.po)).setCell ⟨w.heap.size, 7, none⟩ (.slice a q.ps.length c)).setCell ⟨w.heap.size, 8, none⟩ (.string q.op)).setCell ⟨w.heap.size, 9, none⟩ (.bool q.hq)).setCell ⟨w.heap.size, 10, none⟩ (.string q.qu)).setCell ⟨w.heap.size, 11, none⟩ (.bool q.hf)).setCell ⟨w.heap.size, 12, none⟩ (.string q.fr))) := (HOW4.out.keptG (grown13 w.heap.size W4 _ _ _ _ _ _ _ _ _ _ _ _ _) (by omega)).base (by omega)
     clear HZ HBW HOW4
     generalize (((((((((((((W4.setCell ⟨w.heap.size, 0, none⟩ (.string q.sc)).setCell ⟨w.heap.size, 1, none⟩ (.string q.us)).setCell ⟨w.heap.size, 2, none⟩ (.string q.pw)).setCell ⟨w.heap.size, 3, none⟩ (.int .i64 q.hk)).setCell ⟨w.heap.size, 4, none⟩ (.string q.hn)).setCell ⟨w.heap.size, 5, none⟩ (.int .i64 q.ha)).setCell ⟨w.heap.size, 6, none⟩ (.int .i64 q.po)).setCell ⟨w.heap.size, 7, none⟩ (.slice a q.ps.length c)).setCell ⟨w.heap.size, 8, none⟩ (.string q.op)).setCell ⟨w.heap.size, 9, none⟩ (.bool q.hq)).setCell ⟨w.heap.size, 10, none⟩ (.string q.qu)).setCell ⟨w.heap.size, 11, none⟩ (.bool q.hf)).setCell ⟨w.heap.size, 12, none⟩ (.string q.fr)) = W9 at *
     clear z0 y0 z1 y1 z2 y2 z3 y3 z4 y4 z5 y5 z6 y6 z7 y7 z8 y8 z9 y9 z10 y10 z11 y11 z12 y12
     have z0 : W9.cell? ⟨w.heap.size, 0, none⟩ = some (.string q.sc) := HRB.out.cell 0
     have z1 : W9.cell? ⟨w.heap.size, 1, none⟩ = some (.string q.us) := HRB.out.cell 1
     have z2 : W9.cell? ⟨w.heap.size, 2, none⟩ = some (.string q.pw) := HRB.out.cell 2
     have z3 : W9.cell? ⟨w.heap.size, 3, none⟩ = some (.int .i64 q.hk) := HRB.out.cell 3
     have z4 : W9.cell? ⟨w.heap.size, 4, none⟩ = some (.string q.hn) := HRB.out.cell 4
     have z5 : W9.cell? ⟨w.heap.size, 5, none⟩ = some (.int .i64 q.ha) := HRB.out.cell 5
     have z6 : W9.cell? ⟨w.heap.size, 6, none⟩ = some (.int .i64 q.po) := HRB.out.cell 6
     have z7 : W9.cell? ⟨w.heap.size, 7, none⟩ = some (.slice a q.ps.length c) := HRB.out.cell 7
     have z8 : W9.cell? ⟨w.heap.size, 8, none⟩ = some (.string q.op) := HRB.out.cell 8
     have z9 : W9.cell? ⟨w.heap.size, 9, none⟩ = some (.bool q.hq) := HRB.out.cell 9
     have z10 : W9.cell? ⟨w.heap.size, 10, none⟩ = some (.string q.qu) := HRB.out.cell 10
     have z11 : W9.cell? ⟨w.heap.size, 11, none⟩ = some (.bool q.hf) := HRB.out.cell 11
     have z12 : W9.cell? ⟨w.heap.size, 12, none⟩ = some (.string q.fr) := HRB.out.cell 12
     refine bodyPost_ret (v := .tuple #[.agg #[(.string q.sc), (.string q.us), (.string q.pw), (.int .i64 q.hk), (.string q.hn), (.int .i64 q.ha), (.int .i64 q.po), (.slice a q.ps.length c), (.string q.op), (.bool q.hq), (.string q.qu), (.bool q.hf), (.string q.fr)], .bool true]) (by simp [results, Tryz.results21, go_sem, z0, z1, z2, z3, z4, z5, z6, z7, z8, z9, z10, z11, z12]) rfl ?_
     exact ⟨.slice a q.ps.length c, by unfold getP getB; rw [HO.out]; rfl, by unfold getP; rw [HO.out]; exact HON.out, HBB.out⟩
    ·have hwi : (600 : Int) < (X.size : Int) := by omega
     have HO : Hid (getO s.data.toList = none) := by show _ = _; unfold getO; rw [if_pos (by simp; omega), HRR.out]; show (if _ then _ else _) = _; rw [if_neg (fun h => hw h.2)]
     clear hwz hX HRR hst hw
     subst hV
     clear hU hO
     go_wp2_with fail
     refine CW.out.mono ?_
     rintro e W4 ⟨rfl, d4⟩
     have hz3 : Blk w.heap.size #[(.string ⟨#[]⟩), (.string ⟨#[]⟩), (.string ⟨#[]⟩), (.int .i64 0), (.string ⟨#[]⟩), (.int .i64 0), (.int .i64 0), (.slice none 0 0), (.string ⟨#[]⟩), (.bool false), (.string ⟨#[]⟩), (.bool false), (.string ⟨#[]⟩)] 31 W4 := HZ3.out.below d4 HZ3.out.lt
     have HBW : Hid (Below w.heap.size w W4) := HB3.out.trans (d4.mono HB3.out.size)
     have HZ : Hid (Blk w.heap.size #[(.string ⟨#[]⟩), (.string ⟨#[]⟩), (.string ⟨#[]⟩), (.int .i64 0), (.string ⟨#[]⟩), (.int .i64 0), (.int .i64 0), (.slice none 0 0), (.string ⟨#[]⟩), (.bool false), (.string ⟨#[]⟩), (.bool false), (.string ⟨#[]⟩)] 31 W4) := hz3
     clear k3 k4 k5 k6 k7 k8 k9 k10 k11 k12 k13 k14 k15 k16 z0 y0 z1 y1 z2 y2 z3 y3 z4 y4 z5 y5 z6 y6 z7 y7 z8 y8 z9 y9 z10 y10 z11 y11 z12 y12
     have z0 : W4.cell? ⟨w.heap.size, 0, none⟩ = some (.string ⟨#[]⟩) := hz3.cell 0
     have y0 : W4.frozen? ⟨w.heap.size, 0, none⟩ = false := hz3.free 0
     have z1 : W4.cell? ⟨w.heap.size, 1, none⟩ = some (.string ⟨#[]⟩) := hz3.cell 1
     have y1 : W4.frozen? ⟨w.heap.size, 1, none⟩ = false := hz3.free 1
     have z2 : W4.cell? ⟨w.heap.size, 2, none⟩ = some (.string ⟨#[]⟩) := hz3.cell 2
     have y2 : W4.frozen? ⟨w.heap.size, 2, none⟩ = false := hz3.free 2
     have z3 : W4.cell? ⟨w.heap.size, 3, none⟩ = some (.int .i64 0) := hz3.cell 3
     have y3 : W4.frozen? ⟨w.heap.size, 3, none⟩ = false := hz3.free 3
     have z4 : W4.cell? ⟨w.heap.size, 4, none⟩ = some (.string ⟨#[]⟩) := hz3.cell 4
     have y4 : W4.frozen? ⟨w.heap.size, 4, none⟩ = false := hz3.free 4
     have z5 : W4.cell? ⟨w.heap.size, 5, none⟩ = some (.int .i64 0) := hz3.cell 5
     have y5 : W4.frozen? ⟨w.heap.size, 5, none⟩ = false := hz3.free 5
     have z6 : W4.cell? ⟨w.heap.size, 6, none⟩ = some (.int .i64 0) := hz3.cell 6
     have y6 : W4.frozen? ⟨w.heap.size, 6, none⟩ = false := hz3.free 6
     have z7 : W4.cell? ⟨w.heap.size, 7, none⟩ = some (.slice none 0 0) := hz3.cell 7
     have y7 : W4.frozen? ⟨w.heap.size, 7, none⟩ = false := hz3.free 7
     have z8 : W4.cell? ⟨w.heap.size, 8, none⟩ = some (.string ⟨#[]⟩) := hz3.cell 8
     have y8 : W4.frozen? ⟨w.heap.size, 8, none⟩ = false := hz3.free 8
     have z9 : W4.cell? ⟨w.heap.size, 9, none⟩ = some (.bool false) := hz3.cell 9
     have y9 : W4.frozen? ⟨w.heap.size, 9, none⟩ = false := hz3.free 9
     have z10 : W4.cell? ⟨w.heap.size, 10, none⟩ = some (.string ⟨#[]⟩) := hz3.cell 10
     have y10 : W4.frozen? ⟨w.heap.size, 10, none⟩ = false := hz3.free 10
     have z11 : W4.cell? ⟨w.heap.size, 11, none⟩ = some (.bool false) := hz3.cell 11
     have y11 : W4.frozen? ⟨w.heap.size, 11, none⟩ = false := hz3.free 11
     have z12 : W4.cell? ⟨w.heap.size, 12, none⟩ = some (.string ⟨#[]⟩) := hz3.cell 12
     have y12 : W4.frozen? ⟨w.heap.size, 12, none⟩ = false := hz3.free 12
     clear hz3 d4 CW HZ3 HB3 HL3 HS3 HU HOW
     go_wp2
     have HRB : Hid (Blk w.heap.size #[(.string ⟨#[]⟩), (.string ⟨#[]⟩), (.string ⟨#[]⟩), (.int .i64 0), (.string ⟨#[]⟩), (.int .i64 0), (.int .i64 0), (.slice none 0 0), (.string ⟨#[]⟩), (.bool false), (.string ⟨#[]⟩), (.bool false), (.string ⟨#[]⟩)] 31 (((((((((((((W4.setCell ⟨w.heap.size, 0, none⟩ (.string ⟨#[]⟩)).setCell ⟨w.heap.size, 1, none⟩ (.string ⟨#[]⟩)).setCell ⟨w.heap.size, 2, none⟩ (.string ⟨#[]⟩)).setCell ⟨w.heap.size, 3, none⟩ (.int .i64 0)).setCell ⟨w.heap.size, 4, none⟩ (.string ⟨#[]⟩)).setCell ⟨w.heap.size, 5, none⟩ (.int .i64 0)).setCell ⟨w.heap.size, 6, none⟩ (.int .i64 0)).setCell ⟨w.heap.size, 7, none⟩ (.slice none 0 0)).setCell ⟨w.heap.size, 8, none⟩ (.string ⟨#[]⟩)).setCell ⟨w.heap.size, 9, none⟩ (.bool false)).setCell ⟨w.heap.size, 10, none⟩ (.string ⟨#[]⟩)).setCell ⟨w.heap.size, 11, none⟩ (.bool false)).setCell ⟨w.heap.size, 12, none⟩ (.string ⟨#[]⟩))) := HZ.out.put13 _ _ _ _ _ _ _ _ _ _ _ _ _
     have HBB : Hid (Below w.heap.size w (((((((((((((W4.setCell ⟨w.heap.size, 0, none⟩ (.string ⟨#[]⟩)).setCell ⟨w.heap.size, 1, none⟩ (.string ⟨#[]⟩)).setCell ⟨w.heap.size, 2, none⟩ (.string ⟨#[]⟩)).setCell ⟨w.heap.size, 3, none⟩ (.int .i64 0)).setCell ⟨w.heap.size, 4, none⟩ (.string ⟨#[]⟩)).setCell ⟨w.heap.size, 5, none⟩ (.int .i64 0)).setCell ⟨w.heap.size, 6, none⟩ (.int .i64 0)).setCell ⟨w.heap.size, 7, none⟩ (.slice none 0 0)).setCell ⟨w.heap.size, 8, none⟩ (.string ⟨#[]⟩)).setCell ⟨w.heap.size, 9, none⟩ (.bool false)).setCell ⟨w.heap.size, 10, none⟩ (.string ⟨#[]⟩)).setCell ⟨w.heap.size, 11, none⟩ (.bool false)).setCell ⟨w.heap.size, 12, none⟩ (.string ⟨#[]⟩))) := below_put13 HBW.out (Nat.le_refl _) _ _ _ _ _ _ _ _ _ _ _ _ _
     clear HZ HBW
     generalize (((((((((((((W4.setCell ⟨w.heap.size, 0, none⟩ (.string ⟨#[]⟩)).setCell ⟨w.heap.size, 1, none⟩ (.string ⟨#[]⟩)).setCell ⟨w.heap.size, 2, none⟩ (.string ⟨#[]⟩)).setCell ⟨w.heap.size, 3, none⟩ (.int .i64 0)).setCell ⟨w.heap.size, 4, none⟩ (.string ⟨#[]⟩)).setCell ⟨w.heap.size, 5, none⟩ (.int .i64 0)).setCell ⟨w.heap.size, 6, none⟩ (.int .i64 0)).setCell ⟨w.heap.size, 7, none⟩ (.slice none 0 0)).setCell ⟨w.heap.size, 8, none⟩ (.string ⟨#[]⟩)).setCell ⟨w.heap.size, 9, none⟩ (.bool false)).setCell ⟨w.heap.size, 10, none⟩ (.string ⟨#[]⟩)).setCell ⟨w.heap.size, 11, none⟩ (.bool false)).setCell ⟨w.heap.size, 12, none⟩ (.string ⟨#[]⟩)) = W9 at *
     clear z0 y0 z1 y1 z2 y2 z3 y3 z4 y4 z5 y5 z6 y6 z7 y7 z8 y8 z9 y9 z10 y10 z11 y11 z12 y12
     have z0 : W9.cell? ⟨w.heap.size, 0, none⟩ = some (.string ⟨#[]⟩) := HRB.out.cell 0
     have z1 : W9.cell? ⟨w.heap.size, 1, none⟩ = some (.string ⟨#[]⟩) := HRB.out.cell 1
     have z2 : W9.cell? ⟨w.heap.size, 2, none⟩ = some (.string ⟨#[]⟩) := HRB.out.cell 2
     have z3 : W9.cell? ⟨w.heap.size, 3, none⟩ = some (.int .i64 0) := HRB.out.cell 3
     have z4 : W9.cell? ⟨w.heap.size, 4, none⟩ = some (.string ⟨#[]⟩) := HRB.out.cell 4
     have z5 : W9.cell? ⟨w.heap.size, 5, none⟩ = some (.int .i64 0) := HRB.out.cell 5
     have z6 : W9.cell? ⟨w.heap.size, 6, none⟩ = some (.int .i64 0) := HRB.out.cell 6
     have z7 : W9.cell? ⟨w.heap.size, 7, none⟩ = some (.slice none 0 0) := HRB.out.cell 7
     have z8 : W9.cell? ⟨w.heap.size, 8, none⟩ = some (.string ⟨#[]⟩) := HRB.out.cell 8
     have z9 : W9.cell? ⟨w.heap.size, 9, none⟩ = some (.bool false) := HRB.out.cell 9
     have z10 : W9.cell? ⟨w.heap.size, 10, none⟩ = some (.string ⟨#[]⟩) := HRB.out.cell 10
     have z11 : W9.cell? ⟨w.heap.size, 11, none⟩ = some (.bool false) := HRB.out.cell 11
     have z12 : W9.cell? ⟨w.heap.size, 12, none⟩ = some (.string ⟨#[]⟩) := HRB.out.cell 12
     refine bodyPost_ret (v := .tuple #[.agg #[(.string ⟨#[]⟩), (.string ⟨#[]⟩), (.string ⟨#[]⟩), (.int .i64 0), (.string ⟨#[]⟩), (.int .i64 0), (.int .i64 0), (.slice none 0 0), (.string ⟨#[]⟩), (.bool false), (.string ⟨#[]⟩), (.bool false), (.string ⟨#[]⟩)], .bool false]) (by simp [results, Tryz.results21, go_sem, z0, z1, z2, z3, z4, z5, z6, z7, z8, z9, z10, z11, z12]) rfl ?_
     exact ⟨.slice none 0 0, by unfold getP getB; rw [HO.out]; rfl, by unfold getP; rw [HO.out]; exact ownS_nil _ _, HBB.out⟩
   ·have hpi : (12 : Int) < (q.ps.length : Int) := by omega
    have HO : Hid (getO s.data.toList = none) := by show _ = _; unfold getO; rw [if_pos (by simp; omega), HRR.out]; show (if _ then _ else _) = _; rw [if_neg (fun h => hp h.1)]
    have HZ : Hid (Blk w.heap.size #[(.string ⟨#[]⟩), (.string ⟨#[]⟩), (.string ⟨#[]⟩), (.int .i64 0), (.string ⟨#[]⟩), (.int .i64 0), (.int .i64 0), (.slice none 0 0), (.string ⟨#[]⟩), (.bool false), (.string ⟨#[]⟩), (.bool false), (.string ⟨#[]⟩)] 31 W3) := HZ3.out
    have HBW : Hid (Below w.heap.size w W3) := HB3.out
    subst hV
    clear hU hO hst HRR HZ3 HB3 HL3 HS3 HU HOW CW
    go_wp2
    have HRB : Hid (Blk w.heap.size #[(.string ⟨#[]⟩), (.string ⟨#[]⟩), (.string ⟨#[]⟩), (.int .i64 0), (.string ⟨#[]⟩), (.int .i64 0), (.int .i64 0), (.slice none 0 0), (.string ⟨#[]⟩), (.bool false), (.string ⟨#[]⟩), (.bool false), (.string ⟨#[]⟩)] 31 (((((((((((((W3.setCell ⟨w.heap.size, 0, none⟩ (.string ⟨#[]⟩)).setCell ⟨w.heap.size, 1, none⟩ (.string ⟨#[]⟩)).setCell ⟨w.heap.size, 2, none⟩ (.string ⟨#[]⟩)).setCell ⟨w.heap.size, 3, none⟩ (.int .i64 0)).setCell ⟨w.heap.size, 4, none⟩ (.string ⟨#[]⟩)).setCell ⟨w.heap.size, 5, none⟩ (.int .i64 0)).setCell ⟨w.heap.size, 6, none⟩ (.int .i64 0)).setCell ⟨w.heap.size, 7, none⟩ (.slice none 0 0)).setCell ⟨w.heap.size, 8, none⟩ (.string ⟨#[]⟩)).setCell ⟨w.heap.size, 9, none⟩ (.bool false)).setCell ⟨w.heap.size, 10, none⟩ (.string ⟨#[]⟩)).setCell ⟨w.heap.size, 11, none⟩ (.bool false)).setCell ⟨w.heap.size, 12, none⟩ (.string ⟨#[]⟩))) := HZ.out.put13 _ _ _ _ _ _ _ _ _ _ _ _ _
    have HBB : Hid (Below w.heap.size w (((((((((((((W3.setCell ⟨w.heap.size, 0, none⟩ (.string ⟨#[]⟩)).setCell ⟨w.heap.size, 1, none⟩ (.string ⟨#[]⟩)).setCell ⟨w.heap.size, 2, none⟩ (.string ⟨#[]⟩)).setCell ⟨w.heap.size, 3, none⟩ (.int .i64 0)).setCell ⟨w.heap.size, 4, none⟩ (.string ⟨#[]⟩)).setCell ⟨w.heap.size, 5, none⟩ (.int .i64 0)).setCell ⟨w.heap.size, 6, none⟩ (.int .i64 0)).setCell ⟨w.heap.size, 7, none⟩ (.slice none 0 0)).setCell ⟨w.heap.size, 8, none⟩ (.string ⟨#[]⟩)).setCell ⟨w.heap.size, 9, none⟩ (.bool false)).setCell ⟨w.heap.size, 10, none⟩ (.string ⟨#[]⟩)).setCell ⟨w.heap.size, 11, none⟩ (.bool false)).setCell ⟨w.heap.size, 12, none⟩ (.string ⟨#[]⟩))) := below_put13 HBW.out (Nat.le_refl _) _ _ _ _ _ _ _ _ _ _ _ _ _
    clear HZ HBW
    generalize (((((((((((((W3.setCell ⟨w.heap.size, 0, none⟩ (.string ⟨#[]⟩)).setCell ⟨w.heap.size, 1, none⟩ (.string ⟨#[]⟩)).setCell ⟨w.heap.size, 2, none⟩ (.string ⟨#[]⟩)).setCell ⟨w.heap.size, 3, none⟩ (.int .i64 0)).setCell ⟨w.heap.size, 4, none⟩ (.string ⟨#[]⟩)).setCell ⟨w.heap.size, 5, none⟩ (.int .i64 0)).setCell ⟨w.heap.size, 6, none⟩ (.int .i64 0)).setCell ⟨w.heap.size, 7, none⟩ (.slice none 0 0)).setCell ⟨w.heap.size, 8, none⟩ (.string ⟨#[]⟩)).setCell ⟨w.heap.size, 9, none⟩ (.bool false)).setCell ⟨w.heap.size, 10, none⟩ (.string ⟨#[]⟩)).setCell ⟨w.heap.size, 11, none⟩ (.bool false)).setCell ⟨w.heap.size, 12, none⟩ (.string ⟨#[]⟩)) = W9 at *
    clear z0 y0 z1 y1 z2 y2 z3 y3 z4 y4 z5 y5 z6 y6 z7 y7 z8 y8 z9 y9 z10 y10 z11 y11 z12 y12
    have z0 : W9.cell? ⟨w.heap.size, 0, none⟩ = some (.string ⟨#[]⟩) := HRB.out.cell 0
    have z1 : W9.cell? ⟨w.heap.size, 1, none⟩ = some (.string ⟨#[]⟩) := HRB.out.cell 1
    have z2 : W9.cell? ⟨w.heap.size, 2, none⟩ = some (.string ⟨#[]⟩) := HRB.out.cell 2
    have z3 : W9.cell? ⟨w.heap.size, 3, none⟩ = some (.int .i64 0) := HRB.out.cell 3
    have z4 : W9.cell? ⟨w.heap.size, 4, none⟩ = some (.string ⟨#[]⟩) := HRB.out.cell 4
    have z5 : W9.cell? ⟨w.heap.size, 5, none⟩ = some (.int .i64 0) := HRB.out.cell 5
    have z6 : W9.cell? ⟨w.heap.size, 6, none⟩ = some (.int .i64 0) := HRB.out.cell 6
    have z7 : W9.cell? ⟨w.heap.size, 7, none⟩ = some (.slice none 0 0) := HRB.out.cell 7
    have z8 : W9.cell? ⟨w.heap.size, 8, none⟩ = some (.string ⟨#[]⟩) := HRB.out.cell 8
    have z9 : W9.cell? ⟨w.heap.size, 9, none⟩ = some (.bool false) := HRB.out.cell 9
    have z10 : W9.cell? ⟨w.heap.size, 10, none⟩ = some (.string ⟨#[]⟩) := HRB.out.cell 10
    have z11 : W9.cell? ⟨w.heap.size, 11, none⟩ = some (.bool false) := HRB.out.cell 11
    have z12 : W9.cell? ⟨w.heap.size, 12, none⟩ = some (.string ⟨#[]⟩) := HRB.out.cell 12
    refine bodyPost_ret (v := .tuple #[.agg #[(.string ⟨#[]⟩), (.string ⟨#[]⟩), (.string ⟨#[]⟩), (.int .i64 0), (.string ⟨#[]⟩), (.int .i64 0), (.int .i64 0), (.slice none 0 0), (.string ⟨#[]⟩), (.bool false), (.string ⟨#[]⟩), (.bool false), (.string ⟨#[]⟩)], .bool false]) (by simp [results, Tryz.results21, go_sem, z0, z1, z2, z3, z4, z5, z6, z7, z8, z9, z10, z11, z12]) rfl ?_
    exact ⟨.slice none 0 0, by unfold getP getB; rw [HO.out]; rfl, by unfold getP; rw [HO.out]; exact ownS_nil _ _, HBB.out⟩
 ·have hbi : (200 : Int) < (s.size : Int) := by omega
  have HO : Hid (getO s.data.toList = none) := by show _ = _; unfold getO; rw [if_neg (by omega)]
  clear hln
  go_enter Tryz.func21, Tryz.ntmps21
  go_wp2
  exact bodyPost_ret (v := .tuple #[.agg #[(.string ⟨#[]⟩), (.string ⟨#[]⟩), (.string ⟨#[]⟩), (.int .i64 0), (.string ⟨#[]⟩), (.int .i64 0), (.int .i64 0), (.slice none 0 0), (.string ⟨#[]⟩), (.bool false), (.string ⟨#[]⟩), (.bool false), (.string ⟨#[]⟩)], .bool false]) (by simp [results, Tryz.results21, go_sem]) rfl ⟨.slice none 0 0, by unfold getP getB; rw [HO.out]; rfl, by unfold getP; rw [HO.out]; exact ownS_nil _ _, (Below.refl _ w).alloc (Nat.le_refl _) _⟩
end Go.Proofs.YtnfhajhdpdidlaaGreatDoor
end

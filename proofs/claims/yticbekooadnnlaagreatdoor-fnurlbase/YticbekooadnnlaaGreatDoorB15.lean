/- Two addresses side by side; texts that are not the same. impl.urlEqual of addresses that are not the same: the first parts. -/
import Derived.Test.YticbekooadnnlaaGreatDoorB12
section
set_option linter.unusedVariables false
set_option linter.unusedSimpArgs false
namespace Go.Proofs.YticbekooadnnlaaGreatDoor
open Go.RowKit Go.Shelf
theorem tl_ne {x y : ByteArray} (h : ¬ x = y) : ¬ x.toList = y.toList := fun e => h (by
  rw [ByteArray.toList_eq, ByteArray.toList_eq] at e
  exact ByteArray.ext (Array.ext' e))
theorem tlb_ne {x y : ByteArray} (h : ¬ x = y) : (x.toList == y.toList) = false := by
  cases hb : x.toList == y.toList with
  | false => rfl
  | true => exact absurd (eq_of_beq hb) (tl_ne h)
theorem below2 (w : World) (a b : Obj) : Below w.heap.size w ((w.alloc a).alloc b) := ((Below.refl _ w).alloc (Nat.le_refl _) a).alloc (by simp) b
/-- Two addresses side by side. -/
structure Tw (w : World) (A B : Array Value) (W : World) : Prop where
  make ::
  b1 : Blk w.heap.size A 27 W
  b2 : Blk (w.heap.size + 1) B 27 W
  bw : Below w.heap.size w W
theorem Tw.start (w : World) (A B : Array Value) : Tw w A B ((w.alloc (.cells A 27)).alloc (.cells B 27)) where
  b1 := Blk.alloc (Blk.new w _ _) _
  b2 := by
    have := Blk.new (w.alloc (.cells A 27)) B 27
    rw [show (w.alloc (Obj.cells A 27)).heap.size = w.heap.size + 1 by simp] at this
    exact this
  bw := ((Below.refl _ w).alloc (Nat.le_refl _) _).alloc (by simp) _
theorem Tw.later {w W W' : World} {A B : Array Value} (h : Tw w A B W) (b : Below W.heap.size W W') : Tw w A B W' := ⟨h.b1.below b h.b1.lt, h.b2.below b h.b2.lt, h.bw.trans (b.mono h.bw.size)⟩
theorem Blk.cells13a {g : Nat} {x0 x1 x2 x3 x4 x5 x6 x7 x8 x9 x10 x11 x12 : Value} {t : TypeId} {W : World} (h : Blk g #[x0, x1, x2, x3, x4, x5, x6, x7, x8, x9, x10, x11, x12] t W) :
    W.cell? ⟨g, 0, none⟩ = some x0 ∧ W.cell? ⟨g, 1, none⟩ = some x1 ∧ W.cell? ⟨g, 2, none⟩ = some x2 ∧ W.cell? ⟨g, 3, none⟩ = some x3 ∧ W.cell? ⟨g, 4, none⟩ = some x4 ∧ W.cell? ⟨g, 5, none⟩ = some x5 ∧ W.cell? ⟨g, 6, none⟩ = some x6 ∧ W.cell? ⟨g, 7, none⟩ = some x7 ∧ W.cell? ⟨g, 8, none⟩ = some x8 ∧ W.cell? ⟨g, 9, none⟩ = some x9 ∧ W.cell? ⟨g, 10, none⟩ = some x10 ∧ W.cell? ⟨g, 11, none⟩ = some x11 ∧ W.cell? ⟨g, 12, none⟩ = some x12 :=
  ⟨h.cell 0, h.cell 1, h.cell 2, h.cell 3, h.cell 4, h.cell 5, h.cell 6, h.cell 7, h.cell 8, h.cell 9, h.cell 10, h.cell 11, h.cell 12⟩
end Go.Proofs.YticbekooadnnlaaGreatDoor
end

section
set_option linter.unusedVariables false
set_option linter.unusedSimpArgs false
namespace Go.Proofs.YticbekooadnnlaaGreatDoor
open Go.RowKit Go.Shelf
set_option maxHeartbeats 4000000 in
set_option maxRecDepth 100000 in
theorem ue_sc (rsc qsc : ByteArray) (rus qus : ByteArray) (rpw qpw : ByteArray) (rhk qhk : Int) (rhn qhn : ByteArray) (rha qha : Int) (rpo qpo : Int) (rop qop : ByteArray) (rhq qhq : Bool) (rqu qqu : ByteArray) (rhf qhf : Bool) (rfr qfr : ByteArray) (a a' : Option Addr) (n n' c c' : Nat) (w : World) (g : ¬ rsc = qsc) :
    Calls Tryz.prog 48 #[.agg #[(.string rsc), (.string rus), (.string rpw), (.int .i64 rhk), (.string rhn), (.int .i64 rha), (.int .i64 rpo), (.slice a n c), (.string rop), (.bool rhq), (.string rqu), (.bool rhf), (.string rfr)], .agg #[(.string qsc), (.string qus), (.string qpw), (.int .i64 qhk), (.string qhn), (.int .i64 qha), (.int .i64 qpo), (.slice a' n' c'), (.string qop), (.bool qhq), (.string qqu), (.bool qhf), (.string qfr)]] w fun e w' => e = .returned (.bool false) ∧ Below w.heap.size w w' := by
  have HB : Hid (Below w.heap.size w ((w.alloc (.cells #[(.string rsc), (.string rus), (.string rpw), (.int .i64 rhk), (.string rhn), (.int .i64 rha), (.int .i64 rpo), (.slice a n c), (.string rop), (.bool rhq), (.string rqu), (.bool rhf), (.string rfr)] 27)).alloc (.cells #[(.string qsc), (.string qus), (.string qpw), (.int .i64 qhk), (.string qhn), (.int .i64 qha), (.int .i64 qpo), (.slice a' n' c'), (.string qop), (.bool qhq), (.string qqu), (.bool qhf), (.string qfr)] 27))) := below2 w _ _
  have g2 := tl_ne g
  have g3 := tlb_ne g
  go_enter Tryz.func48, Tryz.ntmps48
  go_wp2
  go_ret
  exact ⟨rfl, HB.out⟩
set_option maxHeartbeats 4000000 in
set_option maxRecDepth 100000 in
theorem ue_us (qsc : ByteArray) (rus qus : ByteArray) (rpw qpw : ByteArray) (rhk qhk : Int) (rhn qhn : ByteArray) (rha qha : Int) (rpo qpo : Int) (rop qop : ByteArray) (rhq qhq : Bool) (rqu qqu : ByteArray) (rhf qhf : Bool) (rfr qfr : ByteArray) (a a' : Option Addr) (n n' c c' : Nat) (w : World) (g : ¬ rus = qus) :
    Calls Tryz.prog 48 #[.agg #[(.string qsc), (.string rus), (.string rpw), (.int .i64 rhk), (.string rhn), (.int .i64 rha), (.int .i64 rpo), (.slice a n c), (.string rop), (.bool rhq), (.string rqu), (.bool rhf), (.string rfr)], .agg #[(.string qsc), (.string qus), (.string qpw), (.int .i64 qhk), (.string qhn), (.int .i64 qha), (.int .i64 qpo), (.slice a' n' c'), (.string qop), (.bool qhq), (.string qqu), (.bool qhf), (.string qfr)]] w fun e w' => e = .returned (.bool false) ∧ Below w.heap.size w w' := by
  have HB : Hid (Below w.heap.size w ((w.alloc (.cells #[(.string qsc), (.string rus), (.string rpw), (.int .i64 rhk), (.string rhn), (.int .i64 rha), (.int .i64 rpo), (.slice a n c), (.string rop), (.bool rhq), (.string rqu), (.bool rhf), (.string rfr)] 27)).alloc (.cells #[(.string qsc), (.string qus), (.string qpw), (.int .i64 qhk), (.string qhn), (.int .i64 qha), (.int .i64 qpo), (.slice a' n' c'), (.string qop), (.bool qhq), (.string qqu), (.bool qhf), (.string qfr)] 27))) := below2 w _ _
  have g2 := tl_ne g
  have g3 := tlb_ne g
  go_enter Tryz.func48, Tryz.ntmps48
  go_wp2
  go_ret
  exact ⟨rfl, HB.out⟩
set_option maxHeartbeats 4000000 in
set_option maxRecDepth 100000 in
theorem ue_pw (qsc : ByteArray) (qus : ByteArray) (rpw qpw : ByteArray) (rhk qhk : Int) (rhn qhn : ByteArray) (rha qha : Int) (rpo qpo : Int) (rop qop : ByteArray) (rhq qhq : Bool) (rqu qqu : ByteArray) (rhf qhf : Bool) (rfr qfr : ByteArray) (a a' : Option Addr) (n n' c c' : Nat) (w : World) (g : ¬ rpw = qpw) :
    Calls Tryz.prog 48 #[.agg #[(.string qsc), (.string qus), (.string rpw), (.int .i64 rhk), (.string rhn), (.int .i64 rha), (.int .i64 rpo), (.slice a n c), (.string rop), (.bool rhq), (.string rqu), (.bool rhf), (.string rfr)], .agg #[(.string qsc), (.string qus), (.string qpw), (.int .i64 qhk), (.string qhn), (.int .i64 qha), (.int .i64 qpo), (.slice a' n' c'), (.string qop), (.bool qhq), (.string qqu), (.bool qhf), (.string qfr)]] w fun e w' => e = .returned (.bool false) ∧ Below w.heap.size w w' := by
  have HB : Hid (Below w.heap.size w ((w.alloc (.cells #[(.string qsc), (.string qus), (.string rpw), (.int .i64 rhk), (.string rhn), (.int .i64 rha), (.int .i64 rpo), (.slice a n c), (.string rop), (.bool rhq), (.string rqu), (.bool rhf), (.string rfr)] 27)).alloc (.cells #[(.string qsc), (.string qus), (.string qpw), (.int .i64 qhk), (.string qhn), (.int .i64 qha), (.int .i64 qpo), (.slice a' n' c'), (.string qop), (.bool qhq), (.string qqu), (.bool qhf), (.string qfr)] 27))) := below2 w _ _
  have g2 := tl_ne g
  have g3 := tlb_ne g
  go_enter Tryz.func48, Tryz.ntmps48
  go_wp2
  go_ret
  exact ⟨rfl, HB.out⟩
set_option maxHeartbeats 4000000 in
set_option maxRecDepth 100000 in
theorem ue_hk (qsc : ByteArray) (qus : ByteArray) (qpw : ByteArray) (rhk qhk : Int) (rhn qhn : ByteArray) (rha qha : Int) (rpo qpo : Int) (rop qop : ByteArray) (rhq qhq : Bool) (rqu qqu : ByteArray) (rhf qhf : Bool) (rfr qfr : ByteArray) (a a' : Option Addr) (n n' c c' : Nat) (w : World) (g : ¬ rhk = qhk) :
    Calls Tryz.prog 48 #[.agg #[(.string qsc), (.string qus), (.string qpw), (.int .i64 rhk), (.string rhn), (.int .i64 rha), (.int .i64 rpo), (.slice a n c), (.string rop), (.bool rhq), (.string rqu), (.bool rhf), (.string rfr)], .agg #[(.string qsc), (.string qus), (.string qpw), (.int .i64 qhk), (.string qhn), (.int .i64 qha), (.int .i64 qpo), (.slice a' n' c'), (.string qop), (.bool qhq), (.string qqu), (.bool qhf), (.string qfr)]] w fun e w' => e = .returned (.bool false) ∧ Below w.heap.size w w' := by
  have HB : Hid (Below w.heap.size w ((w.alloc (.cells #[(.string qsc), (.string qus), (.string qpw), (.int .i64 rhk), (.string rhn), (.int .i64 rha), (.int .i64 rpo), (.slice a n c), (.string rop), (.bool rhq), (.string rqu), (.bool rhf), (.string rfr)] 27)).alloc (.cells #[(.string qsc), (.string qus), (.string qpw), (.int .i64 qhk), (.string qhn), (.int .i64 qha), (.int .i64 qpo), (.slice a' n' c'), (.string qop), (.bool qhq), (.string qqu), (.bool qhf), (.string qfr)] 27))) := below2 w _ _
  have g2 : (rhk == qhk) = false := by simpa using g
  go_enter Tryz.func48, Tryz.ntmps48
  go_wp2
  go_ret
  exact ⟨rfl, HB.out⟩
end Go.Proofs.YticbekooadnnlaaGreatDoor
end

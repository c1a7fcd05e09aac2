/- spec.l3Equal of addresses that are not the same: the last parts. -/
import Derived.Test.YtnfhajhdpdidlaaGreatDoorB16
set_option linter.unusedVariables false
set_option linter.unusedSimpArgs false
set_option maxHeartbeats 4000000
set_option maxRecDepth 100000
section
namespace Go.Proofs.YtnfhajhdpdidlaaGreatDoor
open Go.RowKit Go.Shelf
theorem le_op (qsc : ByteArray) (qus : ByteArray) (qpw : ByteArray) (qhk : Int) (qhn : ByteArray) (qha : Int) (qpo : Int) (rop qop : ByteArray) (rhq qhq : Bool) (rqu qqu : ByteArray) (rhf qhf : Bool) (rfr qfr : ByteArray) (a a' : Option Addr) (n c c' : Nat) (w : World) (g : ¬ rop = qop) :
  Calls Tryz.prog 60 #[.agg #[(.string qsc), (.string qus), (.string qpw), (.int .i64 qhk), (.string qhn), (.int .i64 qha), (.int .i64 qpo), (.slice a n c), (.string rop), (.bool rhq), (.string rqu), (.bool rhf), (.string rfr)], .agg #[(.string qsc), (.string qus), (.string qpw), (.int .i64 qhk), (.string qhn), (.int .i64 qha), (.int .i64 qpo), (.slice a' n c'), (.string qop), (.bool qhq), (.string qqu), (.bool qhf), (.string qfr)]] w fun e w' => e = .returned (.bool false) ∧ Below w.heap.size w w' := by
 have HB : Hid (Below w.heap.size w ((w.alloc (.cells #[(.string qsc), (.string qus), (.string qpw), (.int .i64 qhk), (.string qhn), (.int .i64 qha), (.int .i64 qpo), (.slice a n c), (.string rop), (.bool rhq), (.string rqu), (.bool rhf), (.string rfr)] 31)).alloc (.cells #[(.string qsc), (.string qus), (.string qpw), (.int .i64 qhk), (.string qhn), (.int .i64 qha), (.int .i64 qpo), (.slice a' n c'), (.string qop), (.bool qhq), (.string qqu), (.bool qhf), (.string qfr)] 31))) := below2 w _ _
 have g2 := tl_ne g
 have g3 := tlb_ne g
 go_enter Tryz.func60, Tryz.ntmps60
 go_wp2
 go_ret
 exact ⟨rfl, HB.out⟩
theorem le_hq (qsc : ByteArray) (qus : ByteArray) (qpw : ByteArray) (qhk : Int) (qhn : ByteArray) (qha : Int) (qpo : Int) (qop : ByteArray) (rhq qhq : Bool) (rqu qqu : ByteArray) (rhf qhf : Bool) (rfr qfr : ByteArray) (a a' : Option Addr) (n c c' : Nat) (w : World) (g : ¬ rhq = qhq) :
  Calls Tryz.prog 60 #[.agg #[(.string qsc), (.string qus), (.string qpw), (.int .i64 qhk), (.string qhn), (.int .i64 qha), (.int .i64 qpo), (.slice a n c), (.string qop), (.bool rhq), (.string rqu), (.bool rhf), (.string rfr)], .agg #[(.string qsc), (.string qus), (.string qpw), (.int .i64 qhk), (.string qhn), (.int .i64 qha), (.int .i64 qpo), (.slice a' n c'), (.string qop), (.bool qhq), (.string qqu), (.bool qhf), (.string qfr)]] w fun e w' => e = .returned (.bool false) ∧ Below w.heap.size w w' := by
 have HB : Hid (Below w.heap.size w ((w.alloc (.cells #[(.string qsc), (.string qus), (.string qpw), (.int .i64 qhk), (.string qhn), (.int .i64 qha), (.int .i64 qpo), (.slice a n c), (.string qop), (.bool rhq), (.string rqu), (.bool rhf), (.string rfr)] 31)).alloc (.cells #[(.string qsc), (.string qus), (.string qpw), (.int .i64 qhk), (.string qhn), (.int .i64 qha), (.int .i64 qpo), (.slice a' n c'), (.string qop), (.bool qhq), (.string qqu), (.bool qhf), (.string qfr)] 31))) := below2 w _ _
 have g2 : (rhq == qhq) = false := by simpa using g
 go_enter Tryz.func60, Tryz.ntmps60
 go_wp2
 go_ret
 exact ⟨rfl, HB.out⟩
theorem le_qu (qsc : ByteArray) (qus : ByteArray) (qpw : ByteArray) (qhk : Int) (qhn : ByteArray) (qha : Int) (qpo : Int) (qop : ByteArray) (qhq : Bool) (rqu qqu : ByteArray) (rhf qhf : Bool) (rfr qfr : ByteArray) (a a' : Option Addr) (n c c' : Nat) (w : World) (g : ¬ rqu = qqu) :
  Calls Tryz.prog 60 #[.agg #[(.string qsc), (.string qus), (.string qpw), (.int .i64 qhk), (.string qhn), (.int .i64 qha), (.int .i64 qpo), (.slice a n c), (.string qop), (.bool qhq), (.string rqu), (.bool rhf), (.string rfr)], .agg #[(.string qsc), (.string qus), (.string qpw), (.int .i64 qhk), (.string qhn), (.int .i64 qha), (.int .i64 qpo), (.slice a' n c'), (.string qop), (.bool qhq), (.string qqu), (.bool qhf), (.string qfr)]] w fun e w' => e = .returned (.bool false) ∧ Below w.heap.size w w' := by
 have HB : Hid (Below w.heap.size w ((w.alloc (.cells #[(.string qsc), (.string qus), (.string qpw), (.int .i64 qhk), (.string qhn), (.int .i64 qha), (.int .i64 qpo), (.slice a n c), (.string qop), (.bool qhq), (.string rqu), (.bool rhf), (.string rfr)] 31)).alloc (.cells #[(.string qsc), (.string qus), (.string qpw), (.int .i64 qhk), (.string qhn), (.int .i64 qha), (.int .i64 qpo), (.slice a' n c'), (.string qop), (.bool qhq), (.string qqu), (.bool qhf), (.string qfr)] 31))) := below2 w _ _
 have g2 := tl_ne g
 have g3 := tlb_ne g
 go_enter Tryz.func60, Tryz.ntmps60
 go_wp2
 go_ret
 exact ⟨rfl, HB.out⟩
theorem le_hf (qsc : ByteArray) (qus : ByteArray) (qpw : ByteArray) (qhk : Int) (qhn : ByteArray) (qha : Int) (qpo : Int) (qop : ByteArray) (qhq : Bool) (qqu : ByteArray) (rhf qhf : Bool) (rfr qfr : ByteArray) (a a' : Option Addr) (n c c' : Nat) (w : World) (g : ¬ rhf = qhf) :
  Calls Tryz.prog 60 #[.agg #[(.string qsc), (.string qus), (.string qpw), (.int .i64 qhk), (.string qhn), (.int .i64 qha), (.int .i64 qpo), (.slice a n c), (.string qop), (.bool qhq), (.string qqu), (.bool rhf), (.string rfr)], .agg #[(.string qsc), (.string qus), (.string qpw), (.int .i64 qhk), (.string qhn), (.int .i64 qha), (.int .i64 qpo), (.slice a' n c'), (.string qop), (.bool qhq), (.string qqu), (.bool qhf), (.string qfr)]] w fun e w' => e = .returned (.bool false) ∧ Below w.heap.size w w' := by
 have HB : Hid (Below w.heap.size w ((w.alloc (.cells #[(.string qsc), (.string qus), (.string qpw), (.int .i64 qhk), (.string qhn), (.int .i64 qha), (.int .i64 qpo), (.slice a n c), (.string qop), (.bool qhq), (.string qqu), (.bool rhf), (.string rfr)] 31)).alloc (.cells #[(.string qsc), (.string qus), (.string qpw), (.int .i64 qhk), (.string qhn), (.int .i64 qha), (.int .i64 qpo), (.slice a' n c'), (.string qop), (.bool qhq), (.string qqu), (.bool qhf), (.string qfr)] 31))) := below2 w _ _
 have g2 : (rhf == qhf) = false := by simpa using g
 go_enter Tryz.func60, Tryz.ntmps60
 go_wp2
 go_ret
 exact ⟨rfl, HB.out⟩
end Go.Proofs.YtnfhajhdpdidlaaGreatDoor
end

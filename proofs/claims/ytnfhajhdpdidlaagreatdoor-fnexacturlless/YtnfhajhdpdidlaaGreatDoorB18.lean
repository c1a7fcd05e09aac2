/- impl.urlEqual of addresses that are not the same: up to the path. -/
import Derived.Test.YtnfhajhdpdidlaaGreatDoorB16
set_option linter.unusedVariables false
set_option linter.unusedSimpArgs false
set_option maxHeartbeats 4000000
set_option maxRecDepth 100000
section
namespace Go.Proofs.YtnfhajhdpdidlaaGreatDoor
open Go.RowKit Go.Shelf
theorem ue_hn (qsc : ByteArray) (qus : ByteArray) (qpw : ByteArray) (qhk : Int) (rhn qhn : ByteArray) (rha qha : Int) (rpo qpo : Int) (rop qop : ByteArray) (rhq qhq : Bool) (rqu qqu : ByteArray) (rhf qhf : Bool) (rfr qfr : ByteArray) (a a' : Option Addr) (n n' c c' : Nat) (w : World) (g : ¬ rhn = qhn) :
  Calls Tryz.prog 98 #[.agg #[(.string qsc), (.string qus), (.string qpw), (.int .i64 qhk), (.string rhn), (.int .i64 rha), (.int .i64 rpo), (.slice a n c), (.string rop), (.bool rhq), (.string rqu), (.bool rhf), (.string rfr)], .agg #[(.string qsc), (.string qus), (.string qpw), (.int .i64 qhk), (.string qhn), (.int .i64 qha), (.int .i64 qpo), (.slice a' n' c'), (.string qop), (.bool qhq), (.string qqu), (.bool qhf), (.string qfr)]] w fun e w' => e = .returned (.bool false) ∧ Below w.heap.size w w' := by
 have HB : Hid (Below w.heap.size w ((w.alloc (.cells #[(.string qsc), (.string qus), (.string qpw), (.int .i64 qhk), (.string rhn), (.int .i64 rha), (.int .i64 rpo), (.slice a n c), (.string rop), (.bool rhq), (.string rqu), (.bool rhf), (.string rfr)] 31)).alloc (.cells #[(.string qsc), (.string qus), (.string qpw), (.int .i64 qhk), (.string qhn), (.int .i64 qha), (.int .i64 qpo), (.slice a' n' c'), (.string qop), (.bool qhq), (.string qqu), (.bool qhf), (.string qfr)] 31))) := below2 w _ _
 have g2 := tl_ne g
 have g3 := tlb_ne g
 go_enter Tryz.func98, Tryz.ntmps98
 go_wp2
 go_ret
 exact ⟨rfl, HB.out⟩
theorem ue_ha (qsc : ByteArray) (qus : ByteArray) (qpw : ByteArray) (qhk : Int) (qhn : ByteArray) (rha qha : Int) (rpo qpo : Int) (rop qop : ByteArray) (rhq qhq : Bool) (rqu qqu : ByteArray) (rhf qhf : Bool) (rfr qfr : ByteArray) (a a' : Option Addr) (n n' c c' : Nat) (w : World) (g : ¬ rha = qha) :
  Calls Tryz.prog 98 #[.agg #[(.string qsc), (.string qus), (.string qpw), (.int .i64 qhk), (.string qhn), (.int .i64 rha), (.int .i64 rpo), (.slice a n c), (.string rop), (.bool rhq), (.string rqu), (.bool rhf), (.string rfr)], .agg #[(.string qsc), (.string qus), (.string qpw), (.int .i64 qhk), (.string qhn), (.int .i64 qha), (.int .i64 qpo), (.slice a' n' c'), (.string qop), (.bool qhq), (.string qqu), (.bool qhf), (.string qfr)]] w fun e w' => e = .returned (.bool false) ∧ Below w.heap.size w w' := by
 have HB : Hid (Below w.heap.size w ((w.alloc (.cells #[(.string qsc), (.string qus), (.string qpw), (.int .i64 qhk), (.string qhn), (.int .i64 rha), (.int .i64 rpo), (.slice a n c), (.string rop), (.bool rhq), (.string rqu), (.bool rhf), (.string rfr)] 31)).alloc (.cells #[(.string qsc), (.string qus), (.string qpw), (.int .i64 qhk), (.string qhn), (.int .i64 qha), (.int .i64 qpo), (.slice a' n' c'), (.string qop), (.bool qhq), (.string qqu), (.bool qhf), (.string qfr)] 31))) := below2 w _ _
 have g2 : (rha == qha) = false := by simpa using g
 go_enter Tryz.func98, Tryz.ntmps98
 go_wp2
 go_ret
 exact ⟨rfl, HB.out⟩
theorem ue_po (qsc : ByteArray) (qus : ByteArray) (qpw : ByteArray) (qhk : Int) (qhn : ByteArray) (qha : Int) (rpo qpo : Int) (rop qop : ByteArray) (rhq qhq : Bool) (rqu qqu : ByteArray) (rhf qhf : Bool) (rfr qfr : ByteArray) (a a' : Option Addr) (n n' c c' : Nat) (w : World) (g : ¬ rpo = qpo) :
  Calls Tryz.prog 98 #[.agg #[(.string qsc), (.string qus), (.string qpw), (.int .i64 qhk), (.string qhn), (.int .i64 qha), (.int .i64 rpo), (.slice a n c), (.string rop), (.bool rhq), (.string rqu), (.bool rhf), (.string rfr)], .agg #[(.string qsc), (.string qus), (.string qpw), (.int .i64 qhk), (.string qhn), (.int .i64 qha), (.int .i64 qpo), (.slice a' n' c'), (.string qop), (.bool qhq), (.string qqu), (.bool qhf), (.string qfr)]] w fun e w' => e = .returned (.bool false) ∧ Below w.heap.size w w' := by
 have HB : Hid (Below w.heap.size w ((w.alloc (.cells #[(.string qsc), (.string qus), (.string qpw), (.int .i64 qhk), (.string qhn), (.int .i64 qha), (.int .i64 rpo), (.slice a n c), (.string rop), (.bool rhq), (.string rqu), (.bool rhf), (.string rfr)] 31)).alloc (.cells #[(.string qsc), (.string qus), (.string qpw), (.int .i64 qhk), (.string qhn), (.int .i64 qha), (.int .i64 qpo), (.slice a' n' c'), (.string qop), (.bool qhq), (.string qqu), (.bool qhf), (.string qfr)] 31))) := below2 w _ _
 have g2 : (rpo == qpo) = false := by simpa using g
 go_enter Tryz.func98, Tryz.ntmps98
 go_wp2
 go_ret
 exact ⟨rfl, HB.out⟩
theorem ue_ps (qsc : ByteArray) (qus : ByteArray) (qpw : ByteArray) (qhk : Int) (qhn : ByteArray) (qha : Int) (qpo : Int) (rop qop : ByteArray) (rhq qhq : Bool) (rqu qqu : ByteArray) (rhf qhf : Bool) (rfr qfr : ByteArray) (a a' : Option Addr) (n n' c c' : Nat) (w : World)
  (CP : Hid (∀ W, Below w.heap.size w W → Calls Tryz.prog 124 #[.slice a n c, .slice a' n' c'] W fun e w' => e = .returned (.bool false) ∧ Below W.heap.size W w')) :
  Calls Tryz.prog 98 #[.agg #[(.string qsc), (.string qus), (.string qpw), (.int .i64 qhk), (.string qhn), (.int .i64 qha), (.int .i64 qpo), (.slice a n c), (.string rop), (.bool rhq), (.string rqu), (.bool rhf), (.string rfr)], .agg #[(.string qsc), (.string qus), (.string qpw), (.int .i64 qhk), (.string qhn), (.int .i64 qha), (.int .i64 qpo), (.slice a' n' c'), (.string qop), (.bool qhq), (.string qqu), (.bool qhf), (.string qfr)]] w fun e w' => e = .returned (.bool false) ∧ Below w.heap.size w w' := by
 have H0 : Hid (Tw w #[(.string qsc), (.string qus), (.string qpw), (.int .i64 qhk), (.string qhn), (.int .i64 qha), (.int .i64 qpo), (.slice a n c), (.string rop), (.bool rhq), (.string rqu), (.bool rhf), (.string rfr)] #[(.string qsc), (.string qus), (.string qpw), (.int .i64 qhk), (.string qhn), (.int .i64 qha), (.int .i64 qpo), (.slice a' n' c'), (.string qop), (.bool qhq), (.string qqu), (.bool qhf), (.string qfr)] ((w.alloc (.cells #[(.string qsc), (.string qus), (.string qpw), (.int .i64 qhk), (.string qhn), (.int .i64 qha), (.int .i64 qpo), (.slice a n c), (.string rop), (.bool rhq), (.string rqu), (.bool rhf), (.string rfr)] 31)).alloc (.cells #[(.string qsc), (.string qus), (.string qpw), (.int .i64 qhk), (.string qhn), (.int .i64 qha), (.int .i64 qpo), (.slice a' n' c'), (.string qop), (.bool qhq), (.string qqu), (.bool qhf), (.string qfr)] 31))) := Tw.start w _ _
 go_enter Tryz.func98, Tryz.ntmps98
 go_wp2_with fail
 refine (CP.out _ H0.out.bw).mono ?_
 rintro e W1 ⟨rfl, d1⟩
 have HX1 : Hid (Tw w #[(.string qsc), (.string qus), (.string qpw), (.int .i64 qhk), (.string qhn), (.int .i64 qha), (.int .i64 qpo), (.slice a n c), (.string rop), (.bool rhq), (.string rqu), (.bool rhf), (.string rfr)] #[(.string qsc), (.string qus), (.string qpw), (.int .i64 qhk), (.string qhn), (.int .i64 qha), (.int .i64 qpo), (.slice a' n' c'), (.string qop), (.bool qhq), (.string qqu), (.bool qhf), (.string qfr)] W1) := H0.out.later d1
 clear d1 H0 CP
 obtain ⟨k0, k1, k2, k3, k4, k5, k6, k7, k8, k9, k10, k11, k12⟩ := Blk.cells13a HX1.out.b1
 obtain ⟨j0, j1, j2, j3, j4, j5, j6, j7, j8, j9, j10, j11, j12⟩ := Blk.cells13a HX1.out.b2
 go_wp2
 go_ret
 exact ⟨rfl, HX1.out.bw⟩
end Go.Proofs.YtnfhajhdpdidlaaGreatDoor
end

/- laws.guUrl of addresses that are not the same: the last parts. laws.guUrl of addresses: the path. laws.guTexts of lists as long as each other; laws.guUrl of addresses that are the same, but for their paths. laws.guUrl: whether two addresses are the same. -/
import Derived.Test.YtfcbjdooijhibaaGreatDoorB16
import Derived.BigQuiet
import Derived.Deep.QuietTactic
import Derived.Test.YtfcbjdooijhibaaGreatDoorCFnUrlSame01
import Derived.Test.YtfcbjdooijhibaaGreatDoorB36
import Derived.Test.YtfcbjdooijhibaaGreatDoorCFnUrlSame06
set_option linter.unusedVariables false
set_option linter.unusedSimpArgs false
set_option maxHeartbeats 4000000
set_option maxRecDepth 100000
section
namespace Go.Proofs.YtfcbjdooijhibaaGreatDoor
open Go.RowKit Go.Shelf
theorem gu_op (qsc : ByteArray) (qus : ByteArray) (qpw : ByteArray) (qhk : Int) (qhn : ByteArray) (qha : Int) (qpo : Int) (rop qop : ByteArray) (rhq qhq : Bool) (rqu qqu : ByteArray) (rhf qhf : Bool) (rfr qfr : ByteArray) (a a' : Option Addr) (n c c' : Nat) (w : World) (g : ¬ rop = qop) :
  Calls Tryz.prog 13 #[.agg #[(.string qsc), (.string qus), (.string qpw), (.int .i64 qhk), (.string qhn), (.int .i64 qha), (.int .i64 qpo), (.slice a n c), (.string rop), (.bool rhq), (.string rqu), (.bool rhf), (.string rfr)], .agg #[(.string qsc), (.string qus), (.string qpw), (.int .i64 qhk), (.string qhn), (.int .i64 qha), (.int .i64 qpo), (.slice a' n c'), (.string qop), (.bool qhq), (.string qqu), (.bool qhf), (.string qfr)]] w fun e w' => e = .returned (.bool false) ∧ Below w.heap.size w w' := by
 have HB : Hid (Below w.heap.size w ((w.alloc (.cells #[(.string qsc), (.string qus), (.string qpw), (.int .i64 qhk), (.string qhn), (.int .i64 qha), (.int .i64 qpo), (.slice a n c), (.string rop), (.bool rhq), (.string rqu), (.bool rhf), (.string rfr)] 27)).alloc (.cells #[(.string qsc), (.string qus), (.string qpw), (.int .i64 qhk), (.string qhn), (.int .i64 qha), (.int .i64 qpo), (.slice a' n c'), (.string qop), (.bool qhq), (.string qqu), (.bool qhf), (.string qfr)] 27))) := below2 w _ _
 have g2 := tl_ne g
 have g3 := tlb_ne g
 go_enter Tryz.func13, Tryz.ntmps13
 go_wp2
 go_ret
 exact ⟨rfl, HB.out⟩
theorem gu_hq (qsc : ByteArray) (qus : ByteArray) (qpw : ByteArray) (qhk : Int) (qhn : ByteArray) (qha : Int) (qpo : Int) (qop : ByteArray) (rhq qhq : Bool) (rqu qqu : ByteArray) (rhf qhf : Bool) (rfr qfr : ByteArray) (a a' : Option Addr) (n c c' : Nat) (w : World) (g : ¬ rhq = qhq) :
  Calls Tryz.prog 13 #[.agg #[(.string qsc), (.string qus), (.string qpw), (.int .i64 qhk), (.string qhn), (.int .i64 qha), (.int .i64 qpo), (.slice a n c), (.string qop), (.bool rhq), (.string rqu), (.bool rhf), (.string rfr)], .agg #[(.string qsc), (.string qus), (.string qpw), (.int .i64 qhk), (.string qhn), (.int .i64 qha), (.int .i64 qpo), (.slice a' n c'), (.string qop), (.bool qhq), (.string qqu), (.bool qhf), (.string qfr)]] w fun e w' => e = .returned (.bool false) ∧ Below w.heap.size w w' := by
 have HB : Hid (Below w.heap.size w ((w.alloc (.cells #[(.string qsc), (.string qus), (.string qpw), (.int .i64 qhk), (.string qhn), (.int .i64 qha), (.int .i64 qpo), (.slice a n c), (.string qop), (.bool rhq), (.string rqu), (.bool rhf), (.string rfr)] 27)).alloc (.cells #[(.string qsc), (.string qus), (.string qpw), (.int .i64 qhk), (.string qhn), (.int .i64 qha), (.int .i64 qpo), (.slice a' n c'), (.string qop), (.bool qhq), (.string qqu), (.bool qhf), (.string qfr)] 27))) := below2 w _ _
 have g2 : (rhq == qhq) = false := by simpa using g
 go_enter Tryz.func13, Tryz.ntmps13
 go_wp2
 go_ret
 exact ⟨rfl, HB.out⟩
theorem gu_qu (qsc : ByteArray) (qus : ByteArray) (qpw : ByteArray) (qhk : Int) (qhn : ByteArray) (qha : Int) (qpo : Int) (qop : ByteArray) (qhq : Bool) (rqu qqu : ByteArray) (rhf qhf : Bool) (rfr qfr : ByteArray) (a a' : Option Addr) (n c c' : Nat) (w : World) (g : ¬ rqu = qqu) :
  Calls Tryz.prog 13 #[.agg #[(.string qsc), (.string qus), (.string qpw), (.int .i64 qhk), (.string qhn), (.int .i64 qha), (.int .i64 qpo), (.slice a n c), (.string qop), (.bool qhq), (.string rqu), (.bool rhf), (.string rfr)], .agg #[(.string qsc), (.string qus), (.string qpw), (.int .i64 qhk), (.string qhn), (.int .i64 qha), (.int .i64 qpo), (.slice a' n c'), (.string qop), (.bool qhq), (.string qqu), (.bool qhf), (.string qfr)]] w fun e w' => e = .returned (.bool false) ∧ Below w.heap.size w w' := by
 have HB : Hid (Below w.heap.size w ((w.alloc (.cells #[(.string qsc), (.string qus), (.string qpw), (.int .i64 qhk), (.string qhn), (.int .i64 qha), (.int .i64 qpo), (.slice a n c), (.string qop), (.bool qhq), (.string rqu), (.bool rhf), (.string rfr)] 27)).alloc (.cells #[(.string qsc), (.string qus), (.string qpw), (.int .i64 qhk), (.string qhn), (.int .i64 qha), (.int .i64 qpo), (.slice a' n c'), (.string qop), (.bool qhq), (.string qqu), (.bool qhf), (.string qfr)] 27))) := below2 w _ _
 have g2 := tl_ne g
 have g3 := tlb_ne g
 go_enter Tryz.func13, Tryz.ntmps13
 go_wp2
 go_ret
 exact ⟨rfl, HB.out⟩
theorem gu_hf (qsc : ByteArray) (qus : ByteArray) (qpw : ByteArray) (qhk : Int) (qhn : ByteArray) (qha : Int) (qpo : Int) (qop : ByteArray) (qhq : Bool) (qqu : ByteArray) (rhf qhf : Bool) (rfr qfr : ByteArray) (a a' : Option Addr) (n c c' : Nat) (w : World) (g : ¬ rhf = qhf) :
  Calls Tryz.prog 13 #[.agg #[(.string qsc), (.string qus), (.string qpw), (.int .i64 qhk), (.string qhn), (.int .i64 qha), (.int .i64 qpo), (.slice a n c), (.string qop), (.bool qhq), (.string qqu), (.bool rhf), (.string rfr)], .agg #[(.string qsc), (.string qus), (.string qpw), (.int .i64 qhk), (.string qhn), (.int .i64 qha), (.int .i64 qpo), (.slice a' n c'), (.string qop), (.bool qhq), (.string qqu), (.bool qhf), (.string qfr)]] w fun e w' => e = .returned (.bool false) ∧ Below w.heap.size w w' := by
 have HB : Hid (Below w.heap.size w ((w.alloc (.cells #[(.string qsc), (.string qus), (.string qpw), (.int .i64 qhk), (.string qhn), (.int .i64 qha), (.int .i64 qpo), (.slice a n c), (.string qop), (.bool qhq), (.string qqu), (.bool rhf), (.string rfr)] 27)).alloc (.cells #[(.string qsc), (.string qus), (.string qpw), (.int .i64 qhk), (.string qhn), (.int .i64 qha), (.int .i64 qpo), (.slice a' n c'), (.string qop), (.bool qhq), (.string qqu), (.bool qhf), (.string qfr)] 27))) := below2 w _ _
 have g2 : (rhf == qhf) = false := by simpa using g
 go_enter Tryz.func13, Tryz.ntmps13
 go_wp2
 go_ret
 exact ⟨rfl, HB.out⟩
end Go.Proofs.YtfcbjdooijhibaaGreatDoor
end
section
namespace Go.Proofs.YtfcbjdooijhibaaGreatDoor
open Go.RowKit Go.Shelf
theorem gu_fr (qsc : ByteArray) (qus : ByteArray) (qpw : ByteArray) (qhk : Int) (qhn : ByteArray) (qha : Int) (qpo : Int) (qop : ByteArray) (qhq : Bool) (qqu : ByteArray) (qhf : Bool) (rfr qfr : ByteArray) (a a' : Option Addr) (n c c' : Nat) (w : World) (g : ¬ rfr = qfr) :
  Calls Tryz.prog 13 #[.agg #[(.string qsc), (.string qus), (.string qpw), (.int .i64 qhk), (.string qhn), (.int .i64 qha), (.int .i64 qpo), (.slice a n c), (.string qop), (.bool qhq), (.string qqu), (.bool qhf), (.string rfr)], .agg #[(.string qsc), (.string qus), (.string qpw), (.int .i64 qhk), (.string qhn), (.int .i64 qha), (.int .i64 qpo), (.slice a' n c'), (.string qop), (.bool qhq), (.string qqu), (.bool qhf), (.string qfr)]] w fun e w' => e = .returned (.bool false) ∧ Below w.heap.size w w' := by
 have HB : Hid (Below w.heap.size w ((w.alloc (.cells #[(.string qsc), (.string qus), (.string qpw), (.int .i64 qhk), (.string qhn), (.int .i64 qha), (.int .i64 qpo), (.slice a n c), (.string qop), (.bool qhq), (.string qqu), (.bool qhf), (.string rfr)] 27)).alloc (.cells #[(.string qsc), (.string qus), (.string qpw), (.int .i64 qhk), (.string qhn), (.int .i64 qha), (.int .i64 qpo), (.slice a' n c'), (.string qop), (.bool qhq), (.string qqu), (.bool qhf), (.string qfr)] 27))) := below2 w _ _
 have g2 := tl_ne g
 have g3 := tlb_ne g
 go_enter Tryz.func13, Tryz.ntmps13
 go_wp2
 go_ret
 exact ⟨rfl, HB.out⟩
end Go.Proofs.YtfcbjdooijhibaaGreatDoor
end
section
namespace Go.Proofs.YtfcbjdooijhibaaGreatDoor
open Go.RowKit Go.Shelf
theorem drewN_two (w : World) (m k : Nat) : (w.drewN m).drewN k = w.drewN (m + k) := by unfold World.drewN; simp [Nat.add_assoc]
theorem guTextsAny (a a' : Option Addr) (n cap cap' : Nat) (rs qs : List (List UInt8)) (w : World) (h : StrsOf a n rs w) (h' : StrsOf a' n qs w) (hl : n ≤ 1000000000) (b : Bool) (hb : b = true ↔ rs = qs) :
  Calls Tryz.prog 37 #[.slice a n cap, .slice a' n cap'] w fun e w' => e = .returned (.bool b) ∧ ∃ n, w' = w.drewN n := by
 have HN : Hid (n = rs.length) := h.1
 have HN' : Hid (n = qs.length) := h'.1
 have HB : Hid (b = true ↔ rs = qs) := hb
 clear hb
 go_enter Tryz.func37, Tryz.ntmps37
 go_wp2
 go_loopw [5] (fun i wr => ∃ k : Nat, k ≤ n ∧ i = .int .i64 k ∧ (∃ m, wr = w.drewN m) ∧ Hid (∀ j (hj : j < rs.length) (hj' : j < qs.length), j < k → rs[j] = qs[j])) (fun i wr => n - (intOf i).toNat)
 case atStart => exact ⟨0, Nat.zero_le _, rfl, ⟨0, rfl⟩, fun j _ _ h => absurd h (Nat.not_lt_zero _)⟩
 case round =>
  obtain ⟨k, hk, rfl, ⟨m, rfl⟩, HE⟩ := hrel
  by_cases hp : k < n
  ·have hki : (k : Int) < (n : Int) := by omega
   have hkr : k < rs.length := by have := HN.out; omega
   have hkq : k < qs.length := by have := HN'.out; omega
   obtain ⟨b1, o1, z, rfl, hz, hzm, hzs⟩ := h.at k hkr
   obtain ⟨b2, o2, z', rfl, hz', hzm', hzs'⟩ := h'.at k hkq
   by_cases hzz : z = z'
   ·have HS : Hid (rs[k] = qs[k]) := mk_inj2 (by rw [← hzm, ← hzm', hzz])
    subst hzz
    clear hzm hzm' hzs hzs' HB
    go_wp2
    go_quiet (fail)
    go_wp2
    go_roundw
    case rel =>
     refine ⟨k + 1, by omega, by go_num, ⟨_, rfl⟩, fun j hj hj' hjk' => ?_⟩
     by_cases hjk : j < k
     ·exact HE.out j hj hj' hjk
     ·obtain rfl : j = k := by omega
      exact HS.out
    case measure => simp [intOf]; omega
   ·have HF : Hid (b = false) := by
     show b = false
     cases b with
     | false => rfl
     | true =>
      have e := HB.out.1 rfl
      subst e
      exact absurd (hzm.trans hzm'.symm) hzz
    have g1 := tl_ne hzz
    have g2 := tlb_ne hzz
    clear hzm hzm' hzs hzs' HB HE
    go_wp2
    go_quiet (fail)
    go_wp2
    go_ret
    exact ⟨by rw [HF.out]; rfl, _, drewN_two _ _ _⟩
  ·have hkk : k = n := by omega
   have HF : Hid (b = true) := HB.out.2 (List.ext_getElem (by rw [← HN.out, ← HN'.out]) fun j hj hj' => HE.out j hj hj' (by have := HN.out; omega))
   subst hkk
   clear HB HE
   go_wp2
   go_ret
   exact ⟨by rw [HF.out]; rfl, m, rfl⟩
theorem gu_allP (q : P) (a a' : Option Addr) (n' c c' : Nat) (w : World) (rs qs : List (List UInt8)) (h : StrsOf a n' rs w) (h' : StrsOf a' n' qs w) (hl : n' ≤ 1048576) (b : Bool) (hb : b = true ↔ rs = qs) :
  Calls Tryz.prog 13 #[.agg (q.cells (.slice a n' c)), .agg (q.cells (.slice a' n' c'))] w fun e w' => e = .returned (.bool b) ∧ Below w.heap.size w w' := by
 have H0 : Hid (TB w q (.slice a n' c) (.slice a' n' c') ((w.alloc (.cells (q.cells (.slice a n' c)) 27)).alloc (.cells (q.cells (.slice a' n' c')) 27))) := TB.start w q _ _
 have CS : Hid (∀ W, Below w.heap.size w W → Calls Tryz.prog 37 #[.slice a n' c, .slice a' n' c'] W fun e w' => e = .returned (.bool b) ∧ ∃ n, w' = W.drewN n) := fun W d => guTextsAny a a' n' c c' rs qs W (h.later d) (h'.later d) (by omega) b hb
 clear h h' hl hb
 unfold P.cells at H0 ⊢
 obtain ⟨k0, k1, k2, k3, k4, k5, k6, k7, k8, k9, k10, k11, k12⟩ := Blk.cells13 (q := q) H0.out.b1
 obtain ⟨j0, j1, j2, j3, j4, j5, j6, j7, j8, j9, j10, j11, j12⟩ := Blk.cells13 (q := q) H0.out.b2
 clear k0 k1 k2 k3 k4 k5 k6 k7 k8 k9 k10 k11 k12 j0 j1 j2 j3 j4 j5 j6 j7 j8 j9 j10 j11 j12
 go_enter Tryz.func13, Tryz.ntmps13
 go_wp2_with fail
 refine (CS.out _ H0.out.bw).mono ?_
 rintro e W2 ⟨rfl, n2, hW2⟩
 have HB : Hid (Below w.heap.size w W2) := by
  show Below _ _ _
  rw [hW2]; exact below_drewN H0.out.bw n2
 clear hW2 H0 CS
 go_wp2
 go_ret
 exact ⟨rfl, HB.out⟩
theorem gu_all (qsc : ByteArray) (qus : ByteArray) (qpw : ByteArray) (qhk : Int) (qhn : ByteArray) (qha : Int) (qpo : Int) (qop : ByteArray) (qhq : Bool) (qqu : ByteArray) (qhf : Bool) (qfr : ByteArray) (a a' : Option Addr) (n c c' : Nat) (w : World) (rs qs : List (List UInt8)) (hr : StrsOf a n rs w) (hq : StrsOf a' n qs w) (hn : n ≤ 1048576) (b : Bool) (hb : b = true ↔ rs = qs) :
  Calls Tryz.prog 13 #[.agg #[(.string qsc), (.string qus), (.string qpw), (.int .i64 qhk), (.string qhn), (.int .i64 qha), (.int .i64 qpo), (.slice a n c), (.string qop), (.bool qhq), (.string qqu), (.bool qhf), (.string qfr)], .agg #[(.string qsc), (.string qus), (.string qpw), (.int .i64 qhk), (.string qhn), (.int .i64 qha), (.int .i64 qpo), (.slice a' n c'), (.string qop), (.bool qhq), (.string qqu), (.bool qhf), (.string qfr)]] w fun e w' => e = .returned (.bool b) ∧ Below w.heap.size w w' := by
 exact gu_allP ⟨qsc, qus, qpw, qhk, qhn, qha, qpo, [], qop, qhq, qqu, qhf, qfr⟩ a a' n c c' w rs qs hr hq hn b hb
end Go.Proofs.YtfcbjdooijhibaaGreatDoor
end
section
namespace Go.Proofs.YtfcbjdooijhibaaGreatDoor
open Go.RowKit Go.Shelf
theorem guUrlAny (r q : P) (a a' : Option Addr) (n n' c c' : Nat) (w : World) (hr : StrsOf a n r.ps w) (hq : StrsOf a' n' q.ps w) (hn : n ≤ 1048576) (hn' : n' ≤ 1048576) (b : Bool) (hb : b = true ↔ r = q) :
  Calls Tryz.prog 13 #[.agg (r.cells (.slice a n c)), .agg (q.cells (.slice a' n' c'))] w fun e w' => e = .returned (.bool b) ∧ Below w.heap.size w w' := by
 have HF : ¬ r = q → b = false := fun h => by
  cases b with
  | false => rfl
  | true => exact absurd (hb.1 rfl) h
 have HT : r = q → b = true := hb.2
 clear hb
 obtain ⟨rsc, rus, rpw, rhk, rhn, rha, rpo, rps, rop, rhq, rqu, rhf, rfr⟩ := r
 obtain ⟨qsc, qus, qpw, qhk, qhn, qha, qpo, qps, qop, qhq, qqu, qhf, qfr⟩ := q
 show Calls _ _ #[.agg #[(.string rsc), (.string rus), (.string rpw), (.int .i64 rhk), (.string rhn), (.int .i64 rha), (.int .i64 rpo), (.slice a n c), (.string rop), (.bool rhq), (.string rqu), (.bool rhf), (.string rfr)], .agg #[(.string qsc), (.string qus), (.string qpw), (.int .i64 qhk), (.string qhn), (.int .i64 qha), (.int .i64 qpo), (.slice a' n' c'), (.string qop), (.bool qhq), (.string qqu), (.bool qhf), (.string qfr)]] _ _
 by_cases gl : n = n'
 case neg =>
  rw [HF (fun h => gl (by rw [P.mk.injEq] at h; rw [hr.1, hq.1]; exact congrArg List.length h.2.2.2.2.2.2.2.1))]
  exact gu_len rsc qsc rus qus rpw qpw rhk qhk rhn qhn rha qha rpo qpo rop qop rhq qhq rqu qqu rhf qhf rfr qfr a a' n n' c c' w gl
 subst gl
 by_cases gsc : rsc = qsc
 case neg => rw [HF (fun h => gsc (by rw [P.mk.injEq] at h; exact h.1))]; exact gu_sc rsc qsc rus qus rpw qpw rhk qhk rhn qhn rha qha rpo qpo rop qop rhq qhq rqu qqu rhf qhf rfr qfr a a' n c c' w gsc
 subst gsc
 by_cases gus : rus = qus
 case neg => rw [HF (fun h => gus (by rw [P.mk.injEq] at h; exact h.2.1))]; exact gu_us rsc rus qus rpw qpw rhk qhk rhn qhn rha qha rpo qpo rop qop rhq qhq rqu qqu rhf qhf rfr qfr a a' n c c' w gus
 subst gus
 by_cases gpw : rpw = qpw
 case neg => rw [HF (fun h => gpw (by rw [P.mk.injEq] at h; exact h.2.2.1))]; exact gu_pw rsc rus rpw qpw rhk qhk rhn qhn rha qha rpo qpo rop qop rhq qhq rqu qqu rhf qhf rfr qfr a a' n c c' w gpw
 subst gpw
 by_cases ghk : rhk = qhk
 case neg => rw [HF (fun h => ghk (by rw [P.mk.injEq] at h; exact h.2.2.2.1))]; exact gu_hk rsc rus rpw rhk qhk rhn qhn rha qha rpo qpo rop qop rhq qhq rqu qqu rhf qhf rfr qfr a a' n c c' w ghk
 subst ghk
 by_cases ghn : rhn = qhn
 case neg => rw [HF (fun h => ghn (by rw [P.mk.injEq] at h; exact h.2.2.2.2.1))]; exact gu_hn rsc rus rpw rhk rhn qhn rha qha rpo qpo rop qop rhq qhq rqu qqu rhf qhf rfr qfr a a' n c c' w ghn
 subst ghn
 by_cases gha : rha = qha
 case neg => rw [HF (fun h => gha (by rw [P.mk.injEq] at h; exact h.2.2.2.2.2.1))]; exact gu_ha rsc rus rpw rhk rhn rha qha rpo qpo rop qop rhq qhq rqu qqu rhf qhf rfr qfr a a' n c c' w gha
 subst gha
 by_cases gpo : rpo = qpo
 case neg => rw [HF (fun h => gpo (by rw [P.mk.injEq] at h; exact h.2.2.2.2.2.2.1))]; exact gu_po rsc rus rpw rhk rhn rha rpo qpo rop qop rhq qhq rqu qqu rhf qhf rfr qfr a a' n c c' w gpo
 subst gpo
 by_cases gop : rop = qop
 case neg => rw [HF (fun h => gop (by rw [P.mk.injEq] at h; exact h.2.2.2.2.2.2.2.2.1))]; exact gu_op rsc rus rpw rhk rhn rha rpo rop qop rhq qhq rqu qqu rhf qhf rfr qfr a a' n c c' w gop
 subst gop
 by_cases ghq : rhq = qhq
 case neg => rw [HF (fun h => ghq (by rw [P.mk.injEq] at h; exact h.2.2.2.2.2.2.2.2.2.1))]; exact gu_hq rsc rus rpw rhk rhn rha rpo rop rhq qhq rqu qqu rhf qhf rfr qfr a a' n c c' w ghq
 subst ghq
 by_cases gqu : rqu = qqu
 case neg => rw [HF (fun h => gqu (by rw [P.mk.injEq] at h; exact h.2.2.2.2.2.2.2.2.2.2.1))]; exact gu_qu rsc rus rpw rhk rhn rha rpo rop rhq rqu qqu rhf qhf rfr qfr a a' n c c' w gqu
 subst gqu
 by_cases ghf : rhf = qhf
 case neg => rw [HF (fun h => ghf (by rw [P.mk.injEq] at h; exact h.2.2.2.2.2.2.2.2.2.2.2.1))]; exact gu_hf rsc rus rpw rhk rhn rha rpo rop rhq rqu rhf qhf rfr qfr a a' n c c' w ghf
 subst ghf
 by_cases gfr : rfr = qfr
 case neg => rw [HF (fun h => gfr (by rw [P.mk.injEq] at h; exact h.2.2.2.2.2.2.2.2.2.2.2.2))]; exact gu_fr rsc rus rpw rhk rhn rha rpo rop rhq rqu rhf rfr qfr a a' n c c' w gfr
 subst gfr
 exact gu_all rsc rus rpw rhk rhn rha rpo rop rhq rqu rhf rfr a a' n c c' w rps qps hr hq hn b ⟨fun h => by rcases Decidable.em (rps = qps) with e | e; exact e; exact absurd h (by rw [HF (fun h => e (by rw [P.mk.injEq] at h; exact h.2.2.2.2.2.2.2.1))]; decide), fun h => HT (by rw [h])⟩
end Go.Proofs.YtfcbjdooijhibaaGreatDoor
end

/- spec.l3Equal of addresses: the path. spec.l3Equal: whether two addresses are the same. -/
import Derived.Test.YtnfhajhdpdidlaaGreatDoorB16
import Derived.BigQuiet
import Derived.Deep.QuietTactic
import Derived.Test.YtnfhajhdpdidlaaGreatDoorB37
import Derived.Test.YtnfhajhdpdidlaaGreatDoorB38
import Derived.Test.YtnfhajhdpdidlaaGreatDoorB39
set_option linter.unusedVariables false
set_option linter.unusedSimpArgs false
set_option maxHeartbeats 4000000
set_option maxRecDepth 100000
section
namespace Go.Proofs.YtnfhajhdpdidlaaGreatDoor
open Go.RowKit Go.Shelf
theorem mk_inj2 {x y : List UInt8} (h : mk x = mk y) : x = y := by
 have := congrArg (fun b => b.data.toList) h
 simpa [mk] using this
theorem le_fr (qsc : ByteArray) (qus : ByteArray) (qpw : ByteArray) (qhk : Int) (qhn : ByteArray) (qha : Int) (qpo : Int) (qop : ByteArray) (qhq : Bool) (qqu : ByteArray) (qhf : Bool) (rfr qfr : ByteArray) (a a' : Option Addr) (n c c' : Nat) (w : World) (g : ¬ rfr = qfr) :
  Calls Tryz.prog 60 #[.agg #[(.string qsc), (.string qus), (.string qpw), (.int .i64 qhk), (.string qhn), (.int .i64 qha), (.int .i64 qpo), (.slice a n c), (.string qop), (.bool qhq), (.string qqu), (.bool qhf), (.string rfr)], .agg #[(.string qsc), (.string qus), (.string qpw), (.int .i64 qhk), (.string qhn), (.int .i64 qha), (.int .i64 qpo), (.slice a' n c'), (.string qop), (.bool qhq), (.string qqu), (.bool qhf), (.string qfr)]] w fun e w' => e = .returned (.bool false) ∧ Below w.heap.size w w' := by
 have HB : Hid (Below w.heap.size w ((w.alloc (.cells #[(.string qsc), (.string qus), (.string qpw), (.int .i64 qhk), (.string qhn), (.int .i64 qha), (.int .i64 qpo), (.slice a n c), (.string qop), (.bool qhq), (.string qqu), (.bool qhf), (.string rfr)] 31)).alloc (.cells #[(.string qsc), (.string qus), (.string qpw), (.int .i64 qhk), (.string qhn), (.int .i64 qha), (.int .i64 qpo), (.slice a' n c'), (.string qop), (.bool qhq), (.string qqu), (.bool qhf), (.string qfr)] 31))) := below2 w _ _
 have g2 := tl_ne g
 have g3 := tlb_ne g
 go_enter Tryz.func60, Tryz.ntmps60
 go_wp2
 go_ret
 exact ⟨rfl, HB.out⟩
theorem le_all (qsc : ByteArray) (qus : ByteArray) (qpw : ByteArray) (qhk : Int) (qhn : ByteArray) (qha : Int) (qpo : Int) (qop : ByteArray) (qhq : Bool) (qqu : ByteArray) (qhf : Bool) (qfr : ByteArray) (a a' : Option Addr) (n c c' : Nat) (w : World) (rs qs : List (List UInt8)) (hr : StrsOf a n rs w) (hq : StrsOf a' n qs w) (hn : n ≤ 1048576) (b : Bool) (hb : b = true ↔ rs = qs) :
  Calls Tryz.prog 60 #[.agg #[(.string qsc), (.string qus), (.string qpw), (.int .i64 qhk), (.string qhn), (.int .i64 qha), (.int .i64 qpo), (.slice a n c), (.string qop), (.bool qhq), (.string qqu), (.bool qhf), (.string qfr)], .agg #[(.string qsc), (.string qus), (.string qpw), (.int .i64 qhk), (.string qhn), (.int .i64 qha), (.int .i64 qpo), (.slice a' n c'), (.string qop), (.bool qhq), (.string qqu), (.bool qhf), (.string qfr)]] w fun e w' => e = .returned (.bool b) ∧ Below w.heap.size w w' := by
 have H0 : Hid (Tw w #[(.string qsc), (.string qus), (.string qpw), (.int .i64 qhk), (.string qhn), (.int .i64 qha), (.int .i64 qpo), (.slice a n c), (.string qop), (.bool qhq), (.string qqu), (.bool qhf), (.string qfr)] #[(.string qsc), (.string qus), (.string qpw), (.int .i64 qhk), (.string qhn), (.int .i64 qha), (.int .i64 qpo), (.slice a' n c'), (.string qop), (.bool qhq), (.string qqu), (.bool qhf), (.string qfr)] ((w.alloc (.cells #[(.string qsc), (.string qus), (.string qpw), (.int .i64 qhk), (.string qhn), (.int .i64 qha), (.int .i64 qpo), (.slice a n c), (.string qop), (.bool qhq), (.string qqu), (.bool qhf), (.string qfr)] 31)).alloc (.cells #[(.string qsc), (.string qus), (.string qpw), (.int .i64 qhk), (.string qhn), (.int .i64 qha), (.int .i64 qpo), (.slice a' n c'), (.string qop), (.bool qhq), (.string qqu), (.bool qhf), (.string qfr)] 31))) := Tw.start w _ _
 have HR : Hid (∀ W, Below w.heap.size w W → StrsOf a n rs W) := fun W d => hr.later d
 have HQ : Hid (∀ W, Below w.heap.size w W → StrsOf a' n qs W) := fun W d => hq.later d
 have HN : Hid (n = rs.length) := hr.1
 have HN' : Hid (n = qs.length) := hq.1
 have HB : Hid (b = true ↔ rs = qs) := hb
 clear hr hq hb
 go_enter Tryz.func60, Tryz.ntmps60
 go_wp2
 go_loopw [5] (fun i wr => ∃ k : Nat, k ≤ n ∧ i = .int .i64 k ∧ Hid (Tw w #[(.string qsc), (.string qus), (.string qpw), (.int .i64 qhk), (.string qhn), (.int .i64 qha), (.int .i64 qpo), (.slice a n c), (.string qop), (.bool qhq), (.string qqu), (.bool qhf), (.string qfr)] #[(.string qsc), (.string qus), (.string qpw), (.int .i64 qhk), (.string qhn), (.int .i64 qha), (.int .i64 qpo), (.slice a' n c'), (.string qop), (.bool qhq), (.string qqu), (.bool qhf), (.string qfr)] wr) ∧ Hid (∀ j (h : j < rs.length) (h' : j < qs.length), j < k → rs[j] = qs[j])) (fun i wr => n - (intOf i).toNat)
 case atStart => exact ⟨0, Nat.zero_le _, rfl, H0, fun j _ _ h => absurd h (Nat.not_lt_zero _)⟩
 case round =>
  clear H0
  obtain ⟨k, hk, rfl, HX, HE⟩ := hrel
  have c7 : wr.cell? ⟨w.heap.size, 7, none⟩ = some (.slice a n c) := HX.out.b1.cell 7
  have d7 : wr.cell? ⟨w.heap.size + 1, 7, none⟩ = some (.slice a' n c') := HX.out.b2.cell 7
  have HL : Hid (∀ m, Tw w #[(.string qsc), (.string qus), (.string qpw), (.int .i64 qhk), (.string qhn), (.int .i64 qha), (.int .i64 qpo), (.slice a n c), (.string qop), (.bool qhq), (.string qqu), (.bool qhf), (.string qfr)] #[(.string qsc), (.string qus), (.string qpw), (.int .i64 qhk), (.string qhn), (.int .i64 qha), (.int .i64 qpo), (.slice a' n c'), (.string qop), (.bool qhq), (.string qqu), (.bool qhf), (.string qfr)] (wr.drewN m)) := fun m => HX.out.later (below_drewN (Below.refl _ _) m)
  by_cases hp : k < n
  ·have hki : (k : Int) < (n : Int) := by omega
   have hkr : k < rs.length := by have := HN.out; omega
   have hkq : k < qs.length := by have := HN'.out; omega
   obtain ⟨b1, o1, z, ha, hz, hzm, hzs⟩ := (HR.out wr HX.out.bw).at k hkr
   obtain ⟨b2, o2, z', ha', hz', hzm', hzs'⟩ := (HQ.out wr HX.out.bw).at k hkq
   by_cases hzz : z = z'
   ·have HS : Hid (rs[k] = qs[k]) := mk_inj2 (by rw [← hzm, ← hzm', hzz])
    subst ha ha' hzz
    clear hzm hzm' hzs hzs' HR HQ HB
    go_wp2
    go_quiet (fail)
    go_wp2
    go_roundw
    case rel =>
     refine ⟨k + 1, by omega, by go_num, HL.out _, fun j h h' hj => ?_⟩
     by_cases hjk : j < k
     ·exact HE.out j h h' hjk
     ·obtain rfl : j = k := by omega
      exact HS.out
    case measure => simp [intOf]; omega
   ·have HF : Hid (b = false) := by
     show b = false
     cases b with
     | false => rfl
     | true =>
      have e := HB.out.1 rfl
      subst e
      exact absurd (hzm.trans hzm'.symm) hzz
    have g1 := tl_ne hzz
    have g2 := tlb_ne hzz
    subst ha ha'
    clear hzm hzm' hzs hzs' HR HQ HB HE
    go_wp2
    go_quiet (fail)
    go_wp2
    go_ret
    exact ⟨by rw [HF.out]; rfl, (HL.out _).bw⟩
  ·have hkk : k = n := by omega
   have HF : Hid (b = true) := HB.out.2 (List.ext_getElem (by rw [← HN.out, ← HN'.out]) fun j h h' => HE.out j h h' (by have := HN.out; omega))
   subst hkk
   clear HR HQ HB HE
   go_wp2
   go_ret
   exact ⟨by rw [HF.out]; rfl, HX.out.bw⟩
end Go.Proofs.YtnfhajhdpdidlaaGreatDoor
end
section
namespace Go.Proofs.YtnfhajhdpdidlaaGreatDoor
open Go.RowKit Go.Shelf
theorem l3Equal (r q : P) (a a' : Option Addr) (n n' c c' : Nat) (w : World) (hr : StrsOf a n r.ps w) (hq : StrsOf a' n' q.ps w) (hn : n ≤ 1048576) (hn' : n' ≤ 1048576) (b : Bool) (hb : b = true ↔ r = q) :
  Calls Tryz.prog 60 #[.agg (r.cells (.slice a n c)), .agg (q.cells (.slice a' n' c'))] w fun e w' => e = .returned (.bool b) ∧ Below w.heap.size w w' := by
 have HF : ¬ r = q → b = false := fun h => by
  cases b with
  | false => rfl
  | true => exact absurd (hb.1 rfl) h
 have HT : r = q → b = true := hb.2
 clear hb
 obtain ⟨rsc, rus, rpw, rhk, rhn, rha, rpo, rps, rop, rhq, rqu, rhf, rfr⟩ := r
 obtain ⟨qsc, qus, qpw, qhk, qhn, qha, qpo, qps, qop, qhq, qqu, qhf, qfr⟩ := q
 show Calls _ _ #[.agg #[(.string rsc), (.string rus), (.string rpw), (.int .i64 rhk), (.string rhn), (.int .i64 rha), (.int .i64 rpo), (.slice a n c), (.string rop), (.bool rhq), (.string rqu), (.bool rhf), (.string rfr)], .agg #[(.string qsc), (.string qus), (.string qpw), (.int .i64 qhk), (.string qhn), (.int .i64 qha), (.int .i64 qpo), (.slice a' n' c'), (.string qop), (.bool qhq), (.string qqu), (.bool qhf), (.string qfr)]] _ _
 by_cases gl : n = n'
 case neg =>
  rw [HF (fun h => gl (by rw [P.mk.injEq] at h; rw [hr.1, hq.1]; exact congrArg List.length h.2.2.2.2.2.2.2.1))]
  exact le_len rsc qsc rus qus rpw qpw rhk qhk rhn qhn rha qha rpo qpo rop qop rhq qhq rqu qqu rhf qhf rfr qfr a a' n n' c c' w gl
 subst gl
 by_cases gsc : rsc = qsc
 case neg => rw [HF (fun h => gsc (by rw [P.mk.injEq] at h; exact h.1))]; exact le_sc rsc qsc rus qus rpw qpw rhk qhk rhn qhn rha qha rpo qpo rop qop rhq qhq rqu qqu rhf qhf rfr qfr a a' n c c' w gsc
 subst gsc
 by_cases gus : rus = qus
 case neg => rw [HF (fun h => gus (by rw [P.mk.injEq] at h; exact h.2.1))]; exact le_us rsc rus qus rpw qpw rhk qhk rhn qhn rha qha rpo qpo rop qop rhq qhq rqu qqu rhf qhf rfr qfr a a' n c c' w gus
 subst gus
 by_cases gpw : rpw = qpw
 case neg => rw [HF (fun h => gpw (by rw [P.mk.injEq] at h; exact h.2.2.1))]; exact le_pw rsc rus rpw qpw rhk qhk rhn qhn rha qha rpo qpo rop qop rhq qhq rqu qqu rhf qhf rfr qfr a a' n c c' w gpw
 subst gpw
 by_cases ghk : rhk = qhk
 case neg => rw [HF (fun h => ghk (by rw [P.mk.injEq] at h; exact h.2.2.2.1))]; exact le_hk rsc rus rpw rhk qhk rhn qhn rha qha rpo qpo rop qop rhq qhq rqu qqu rhf qhf rfr qfr a a' n c c' w ghk
 subst ghk
 by_cases ghn : rhn = qhn
 case neg => rw [HF (fun h => ghn (by rw [P.mk.injEq] at h; exact h.2.2.2.2.1))]; exact le_hn rsc rus rpw rhk rhn qhn rha qha rpo qpo rop qop rhq qhq rqu qqu rhf qhf rfr qfr a a' n c c' w ghn
 subst ghn
 by_cases gha : rha = qha
 case neg => rw [HF (fun h => gha (by rw [P.mk.injEq] at h; exact h.2.2.2.2.2.1))]; exact le_ha rsc rus rpw rhk rhn rha qha rpo qpo rop qop rhq qhq rqu qqu rhf qhf rfr qfr a a' n c c' w gha
 subst gha
 by_cases gpo : rpo = qpo
 case neg => rw [HF (fun h => gpo (by rw [P.mk.injEq] at h; exact h.2.2.2.2.2.2.1))]; exact le_po rsc rus rpw rhk rhn rha rpo qpo rop qop rhq qhq rqu qqu rhf qhf rfr qfr a a' n c c' w gpo
 subst gpo
 by_cases gop : rop = qop
 case neg => rw [HF (fun h => gop (by rw [P.mk.injEq] at h; exact h.2.2.2.2.2.2.2.2.1))]; exact le_op rsc rus rpw rhk rhn rha rpo rop qop rhq qhq rqu qqu rhf qhf rfr qfr a a' n c c' w gop
 subst gop
 by_cases ghq : rhq = qhq
 case neg => rw [HF (fun h => ghq (by rw [P.mk.injEq] at h; exact h.2.2.2.2.2.2.2.2.2.1))]; exact le_hq rsc rus rpw rhk rhn rha rpo rop rhq qhq rqu qqu rhf qhf rfr qfr a a' n c c' w ghq
 subst ghq
 by_cases gqu : rqu = qqu
 case neg => rw [HF (fun h => gqu (by rw [P.mk.injEq] at h; exact h.2.2.2.2.2.2.2.2.2.2.1))]; exact le_qu rsc rus rpw rhk rhn rha rpo rop rhq rqu qqu rhf qhf rfr qfr a a' n c c' w gqu
 subst gqu
 by_cases ghf : rhf = qhf
 case neg => rw [HF (fun h => ghf (by rw [P.mk.injEq] at h; exact h.2.2.2.2.2.2.2.2.2.2.2.1))]; exact le_hf rsc rus rpw rhk rhn rha rpo rop rhq rqu rhf qhf rfr qfr a a' n c c' w ghf
 subst ghf
 by_cases gfr : rfr = qfr
 case neg => rw [HF (fun h => gfr (by rw [P.mk.injEq] at h; exact h.2.2.2.2.2.2.2.2.2.2.2.2))]; exact le_fr rsc rus rpw rhk rhn rha rpo rop rhq rqu rhf rfr qfr a a' n c c' w gfr
 subst gfr
 exact le_all rsc rus rpw rhk rhn rha rpo rop rhq rqu rhf rfr a a' n c c' w rps qps hr hq hn b ⟨fun h => by rcases Decidable.em (rps = qps) with e | e; exact e; exact absurd h (by rw [HF (fun h => e (by rw [P.mk.injEq] at h; exact h.2.2.2.2.2.2.2.1))]; decide), fun h => HT (by rw [h])⟩
end Go.Proofs.YtnfhajhdpdidlaaGreatDoor
end

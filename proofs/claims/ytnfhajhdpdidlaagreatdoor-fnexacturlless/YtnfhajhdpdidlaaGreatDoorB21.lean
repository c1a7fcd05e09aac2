/- impl.urlEqual: whether two addresses are the same. -/
import Derived.Test.YtnfhajhdpdidlaaGreatDoorB17
import Derived.Test.YtnfhajhdpdidlaaGreatDoorB18
import Derived.Test.YtnfhajhdpdidlaaGreatDoorB19
import Derived.Test.YtnfhajhdpdidlaaGreatDoorB20
set_option linter.unusedVariables false
set_option linter.unusedSimpArgs false
set_option maxHeartbeats 1000000
section
namespace Go.Proofs.YtnfhajhdpdidlaaGreatDoor
open Go.RowKit Go.Shelf
theorem mk_inj {x y : List UInt8} (h : mk x = mk y) : x = y := by
 have := congrArg (fun b => b.data.toList) h
 simpa [mk] using this
theorem map_mk_inj {xs ys : List (List UInt8)} (h : xs.map mk = ys.map mk) : xs = ys := by
 induction xs generalizing ys with
 | nil => cases ys with
  | nil => rfl
  | cons y ys => simp at h
 | cons x xs ih => cases ys with
  | nil => simp at h
  | cons y ys =>
   simp only [List.map_cons, List.cons.injEq] at h
   rw [mk_inj h.1, ih h.2]
theorem StrsOf.texts {a : Option Addr} {n : Nat} {ss : List (List UInt8)} {w : World} (h : StrsOf a n ss w) (hne : ss ≠ []) : ∃ b o, a = some ⟨b, o, none⟩ ∧ ∀ j, j < (ss.map mk).length → w.cell? ⟨b, o + j, none⟩ = some (.string ((ss.map mk).getD j ByteArray.empty)) := by
 rcases h.2 with h0 | ⟨b, o, ha, hc⟩
 ·exact absurd h0 hne
 ·refine ⟨b, o, ha, fun j hj => ?_⟩
  have hj' : j < ss.length := by simpa using hj
  rw [hc j hj']
  simp [List.getD_eq_getElem?_getD, hj']
theorem slicesEqual (a a' : Option Addr) (n n' c c' : Nat) (r q : List (List UInt8)) (w : World) (hr : StrsOf a n r w) (hq : StrsOf a' n' q w) (hn : n ≤ 1048576) (hn' : n' ≤ 1048576) (b : Bool) (hb : b = true ↔ r = q) :
  Calls Tryz.prog 124 #[.slice a n c, .slice a' n' c'] w fun e w' => e = .returned (.bool b) ∧ Below w.heap.size w w' := by
 have e1 := hr.1
 have e2 := hq.1
 by_cases hl : n = n'
 ·by_cases h0 : n = 0
  ·have h0' : n' = 0 := by omega
   have hrq : r = q := by rw [List.length_eq_zero_iff.1 (by omega : r.length = 0), List.length_eq_zero_iff.1 (by omega : q.length = 0)]
   have hbt : b = true := hb.2 hrq
   subst hbt
   subst h0
   refine (Tryz.slices_Equal_string_empty a a' c n' c' w (by omega)).mono fun e w' ⟨he, hw⟩ => ?_
   rw [he, hw, h0']
   exact ⟨rfl, Below.refl _ _⟩
  ·obtain ⟨b1, o1, ha1, hc1⟩ := hr.texts (by intro h; rw [h] at e1; simp at e1; omega)
   obtain ⟨b2, o2, ha2, hc2⟩ := hq.texts (by intro h; rw [h] at e2; simp at e2; omega)
   subst ha1 ha2
   refine (Tryz.slices_Equal_string b1 o1 n c b2 o2 n' c' (r.map mk) (q.map mk) w (by simp; omega) (by simp; omega) (by omega) (by omega) hc1 hc2).mono fun e w' ⟨he, k, hw⟩ => ?_
   rw [he, hw]
   refine ⟨?_, below_drewN (Below.refl _ _) k⟩
   rw [List.take_of_length_le (by simp; omega), List.take_of_length_le (by simp; omega)]
   congr 2
   rw [Bool.eq_iff_iff, decide_eq_true_iff, hb]
   exact ⟨map_mk_inj, fun h => by rw [h]⟩
 ·have hbf : b = false := by
   cases b with
   | false => rfl
   | true => exact absurd (congrArg List.length (hb.1 rfl)) (by omega)
  subst hbf
  refine (Tryz.slices_Equal_string_lens a a' n c n' c' w hl).mono fun e w' ⟨he, hw⟩ => ?_
  rw [he, hw]
  exact ⟨rfl, Below.refl _ _⟩
theorem urlEqual (r q : P) (a a' : Option Addr) (n n' c c' : Nat) (w : World) (hr : StrsOf a n r.ps w) (hq : StrsOf a' n' q.ps w) (hn : n ≤ 1048576) (hn' : n' ≤ 1048576) (b : Bool) (hb : b = true ↔ r = q) :
  Calls Tryz.prog 98 #[.agg (r.cells (.slice a n c)), .agg (q.cells (.slice a' n' c'))] w fun e w' => e = .returned (.bool b) ∧ Below w.heap.size w w' := by
 have HF : ¬ r = q → b = false := fun h => by
  cases b with
  | false => rfl
  | true => exact absurd (hb.1 rfl) h
 have HT : r = q → b = true := hb.2
 clear hb
 obtain ⟨rsc, rus, rpw, rhk, rhn, rha, rpo, rps, rop, rhq, rqu, rhf, rfr⟩ := r
 obtain ⟨qsc, qus, qpw, qhk, qhn, qha, qpo, qps, qop, qhq, qqu, qhf, qfr⟩ := q
 show Calls _ _ #[.agg #[(.string rsc), (.string rus), (.string rpw), (.int .i64 rhk), (.string rhn), (.int .i64 rha), (.int .i64 rpo), (.slice a n c), (.string rop), (.bool rhq), (.string rqu), (.bool rhf), (.string rfr)], .agg #[(.string qsc), (.string qus), (.string qpw), (.int .i64 qhk), (.string qhn), (.int .i64 qha), (.int .i64 qpo), (.slice a' n' c'), (.string qop), (.bool qhq), (.string qqu), (.bool qhf), (.string qfr)]] _ _
 have CP : ∀ b W, (b = true ↔ rps = qps) → Below w.heap.size w W → Calls Tryz.prog 124 #[.slice a n c, .slice a' n' c'] W fun e w' => e = .returned (.bool b) ∧ Below W.heap.size W w' := fun b W h d => slicesEqual a a' n n' c c' rps qps W (hr.later d) (hq.later d) hn hn' b h
 by_cases gsc : rsc = qsc
 case neg => rw [HF (fun h => gsc (by rw [P.mk.injEq] at h; exact h.1))]; exact ue_sc rsc qsc rus qus rpw qpw rhk qhk rhn qhn rha qha rpo qpo rop qop rhq qhq rqu qqu rhf qhf rfr qfr a a' n n' c c' w gsc
 subst gsc
 by_cases gus : rus = qus
 case neg => rw [HF (fun h => gus (by rw [P.mk.injEq] at h; exact h.2.1))]; exact ue_us rsc rus qus rpw qpw rhk qhk rhn qhn rha qha rpo qpo rop qop rhq qhq rqu qqu rhf qhf rfr qfr a a' n n' c c' w gus
 subst gus
 by_cases gpw : rpw = qpw
 case neg => rw [HF (fun h => gpw (by rw [P.mk.injEq] at h; exact h.2.2.1))]; exact ue_pw rsc rus rpw qpw rhk qhk rhn qhn rha qha rpo qpo rop qop rhq qhq rqu qqu rhf qhf rfr qfr a a' n n' c c' w gpw
 subst gpw
 by_cases ghk : rhk = qhk
 case neg => rw [HF (fun h => ghk (by rw [P.mk.injEq] at h; exact h.2.2.2.1))]; exact ue_hk rsc rus rpw rhk qhk rhn qhn rha qha rpo qpo rop qop rhq qhq rqu qqu rhf qhf rfr qfr a a' n n' c c' w ghk
 subst ghk
 by_cases ghn : rhn = qhn
 case neg => rw [HF (fun h => ghn (by rw [P.mk.injEq] at h; exact h.2.2.2.2.1))]; exact ue_hn rsc rus rpw rhk rhn qhn rha qha rpo qpo rop qop rhq qhq rqu qqu rhf qhf rfr qfr a a' n n' c c' w ghn
 subst ghn
 by_cases gha : rha = qha
 case neg => rw [HF (fun h => gha (by rw [P.mk.injEq] at h; exact h.2.2.2.2.2.1))]; exact ue_ha rsc rus rpw rhk rhn rha qha rpo qpo rop qop rhq qhq rqu qqu rhf qhf rfr qfr a a' n n' c c' w gha
 subst gha
 by_cases gpo : rpo = qpo
 case neg => rw [HF (fun h => gpo (by rw [P.mk.injEq] at h; exact h.2.2.2.2.2.2.1))]; exact ue_po rsc rus rpw rhk rhn rha rpo qpo rop qop rhq qhq rqu qqu rhf qhf rfr qfr a a' n n' c c' w gpo
 subst gpo
 by_cases gps : rps = qps
 case neg => rw [HF (fun h => gps (by rw [P.mk.injEq] at h; exact h.2.2.2.2.2.2.2.1))]; exact ue_ps rsc rus rpw rhk rhn rha rpo rop qop rhq qhq rqu qqu rhf qhf rfr qfr a a' n n' c c' w (fun W d => CP false W (by simp [gps]) d)
 subst gps
 by_cases gop : rop = qop
 case neg => rw [HF (fun h => gop (by rw [P.mk.injEq] at h; exact h.2.2.2.2.2.2.2.2.1))]; exact ue_op rsc rus rpw rhk rhn rha rpo rop qop rhq qhq rqu qqu rhf qhf rfr qfr a a' n n' c c' w gop (fun W d => CP true W (by simp) d)
 subst gop
 by_cases ghq : rhq = qhq
 case neg => rw [HF (fun h => ghq (by rw [P.mk.injEq] at h; exact h.2.2.2.2.2.2.2.2.2.1))]; exact ue_hq rsc rus rpw rhk rhn rha rpo rop rhq qhq rqu qqu rhf qhf rfr qfr a a' n n' c c' w ghq (fun W d => CP true W (by simp) d)
 subst ghq
 by_cases gqu : rqu = qqu
 case neg => rw [HF (fun h => gqu (by rw [P.mk.injEq] at h; exact h.2.2.2.2.2.2.2.2.2.2.1))]; exact ue_qu rsc rus rpw rhk rhn rha rpo rop rhq rqu qqu rhf qhf rfr qfr a a' n n' c c' w gqu (fun W d => CP true W (by simp) d)
 subst gqu
 by_cases ghf : rhf = qhf
 case neg => rw [HF (fun h => ghf (by rw [P.mk.injEq] at h; exact h.2.2.2.2.2.2.2.2.2.2.2.1))]; exact ue_hf rsc rus rpw rhk rhn rha rpo rop rhq rqu rhf qhf rfr qfr a a' n n' c c' w ghf (fun W d => CP true W (by simp) d)
 subst ghf
 by_cases gfr : rfr = qfr
 case neg => rw [HF (fun h => gfr (by rw [P.mk.injEq] at h; exact h.2.2.2.2.2.2.2.2.2.2.2.2))]; exact ue_fr rsc rus rpw rhk rhn rha rpo rop rhq rqu rhf rfr qfr a a' n n' c c' w gfr (fun W d => CP true W (by simp) d)
 subst gfr
 rw [HT rfl]; exact ue_all rsc rus rpw rhk rhn rha rpo rop rhq rqu rhf rfr a a' n n' c c' w (fun W d => CP true W (by simp) d)
end Go.Proofs.YtnfhajhdpdidlaaGreatDoor
end

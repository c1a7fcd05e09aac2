/- spec.HostPut: a host, written. spec.l3Put: an address, written. spec.l3Fits: whether an address is not too great. What spec reads of a text is what impl reads. -/
import Derived.Test.YtnfhajhdpdidlaaGreatDoorB33
import Derived.Test.YtnfhajhdpdidlaaGreatDoorB12
import Derived.Deep.Cut
import Derived.Test.YtnfhajhdpdidlaaGreatDoorB24
import Derived.Test.YtnfhajhdpdidlaaGreatDoorB14
import Derived.Test.YtnfhajhdpdidlaaGreatDoorB27
set_option linter.unusedVariables false
set_option linter.unusedSimpArgs false
set_option maxHeartbeats 4000000
set_option maxRecDepth 100000
section
namespace Go.Proofs.YtnfhajhdpdidlaaGreatDoor
open Go.RowKit Go.Shelf
theorem specPut (k : Int) (s : ByteArray) (a : Int) (w : World) (hs : s.size ≤ 1048576) :
  Calls Tryz.prog 78 #[.agg #[.int .i64 k, .string s, .int .i64 a]] w fun e w' => e = .returned (.string (mk (putT k s a))) ∧ Below w.heap.size w w' := by
 cases h1 : named k s a with
 | true =>
  obtain ⟨rfl, rfl, h60⟩ := named_facts h1
  have CO : Hid (∀ W, Calls Tryz.prog 76 #[.agg #[.int .i64 1, .string s, .int .i64 0]] W fun e w' => e = .returned (.bool true) ∧ Below W.heap.size W w') := fun W => by
   have : okH 1 s 0 = true := by unfold okH; rw [h1]; simp
   rw [← this]; exact specOk 1 s 0 W hs
  rw [put_named h1, mk_list]
  clear h1
  go_enter Tryz.func78, Tryz.ntmps78
  go_wp2_with fail
  refine (CO.out _).mono ?_
  rintro e W1 ⟨rfl, b1⟩
  have B1 : Below w.heap.size w W1 := box_below b1
  have c0 : W1.cell? ⟨w.heap.size, 0, none⟩ = some (.int .i64 1) := box_cell b1 0
  have c1 : W1.cell? ⟨w.heap.size, 1, none⟩ = some (.string s) := box_cell b1 1
  clear b1
  go_wp2
  go_ret
  exact ⟨rfl, B1⟩
 | false =>
  cases h2 : numbered k s a with
  | true =>
   obtain ⟨rfl, h0, h9, _⟩ := numbered_facts h2
   rw [put_numbered h1 h2]
   exact specPutFour s a w (by unfold okH; rw [h2]; simp) h0 h9 hs
  | false =>
   rw [put_none h1 h2]
   cases hok : okH k s a with
   | true =>
    have hn : noneH k s a = true := by unfold okH at hok; rw [h1, h2] at hok; simpa using hok
    unfold noneH at hn
    simp only [Bool.and_eq_true, decide_eq_true_eq, List.isEmpty_iff] at hn
    obtain ⟨⟨rfl, rfl⟩, he⟩ := hn
    have hs0 : s = ⟨#[]⟩ := zero_text s (by have : s.data.toList.length = s.size := by simp
                                            rw [he] at this; simpa using this.symm)
    subst hs0
    exact specPutNone w
   | false =>
    have CO : Hid (∀ W, Calls Tryz.prog 76 #[.agg #[.int .i64 k, .string s, .int .i64 a]] W fun e w' => e = .returned (.bool false) ∧ Below W.heap.size W w') := fun W => by
     rw [← hok]; exact specOk k s a W hs
    clear h1 h2 hok
    go_enter Tryz.func78, Tryz.ntmps78
    go_wp2_with fail
    refine (CO.out _).mono ?_
    rintro e W1 ⟨rfl, b1⟩
    have B1 : Below w.heap.size w W1 := box_below b1
    clear b1
    go_wp2
    go_ret
    exact ⟨rfl, B1⟩
end Go.Proofs.YtnfhajhdpdidlaaGreatDoor
end
section
namespace Go.Proofs.YtnfhajhdpdidlaaGreatDoor
open Go.RowKit Go.Shelf
structure Wp (w : World) (q : P) (v : Value) (W : World) : Prop where
 make ::
 bx : Blk w.heap.size (q.cells v) 31 W
 bw : Below w.heap.size w W
theorem Wp.start (w : World) (q : P) (v : Value) : Wp w q v (w.alloc (.cells (q.cells v) 31)) := ⟨Blk.new w _ _, (Below.refl _ w).alloc (Nat.le_refl _) _⟩
theorem Wp.later {w W W' : World} {q : P} {v : Value} (h : Wp w q v W) (b : Below W.heap.size W W') : Wp w q v W' := ⟨h.bx.below b h.bx.lt, h.bw.trans (b.mono h.bw.size)⟩
theorem Wp.cells {w W : World} {q : P} {v : Value} (h : Wp w q v W) :
  W.cell? ⟨w.heap.size, 0, none⟩ = some (.string q.sc) ∧ W.cell? ⟨w.heap.size, 1, none⟩ = some (.string q.us) ∧ W.cell? ⟨w.heap.size, 2, none⟩ = some (.string q.pw) ∧ W.cell? ⟨w.heap.size, 3, none⟩ = some (.int .i64 q.hk) ∧ W.cell? ⟨w.heap.size, 4, none⟩ = some (.string q.hn) ∧ W.cell? ⟨w.heap.size, 5, none⟩ = some (.int .i64 q.ha) ∧ W.cell? ⟨w.heap.size, 6, none⟩ = some (.int .i64 q.po) ∧ W.cell? ⟨w.heap.size, 7, none⟩ = some v ∧ W.cell? ⟨w.heap.size, 8, none⟩ = some (.string q.op) ∧ W.cell? ⟨w.heap.size, 9, none⟩ = some (.bool q.hq) ∧ W.cell? ⟨w.heap.size, 10, none⟩ = some (.string q.qu) ∧ W.cell? ⟨w.heap.size, 11, none⟩ = some (.bool q.hf) ∧ W.cell? ⟨w.heap.size, 12, none⟩ = some (.string q.fr) :=
 ⟨h.bx.cell 0, h.bx.cell 1, h.bx.cell 2, h.bx.cell 3, h.bx.cell 4, h.bx.cell 5, h.bx.cell 6, h.bx.cell 7, h.bx.cell 8, h.bx.cell 9, h.bx.cell 10, h.bx.cell 11, h.bx.cell 12⟩
theorem sz_le {x y : ByteArray} {m n : Nat} (hx : x.size ≤ m) (hy : y.size ≤ n) : (x ++ y).size ≤ m + n := by rw [ByteArray.size_append]; exact Nat.add_le_add hx hy
theorem sz_one (b : UInt8) : (⟨#[b]⟩ : ByteArray).size ≤ 1 := Nat.le_refl 1
theorem sz_two (b c : UInt8) : (⟨#[b, c]⟩ : ByteArray).size ≤ 2 := Nat.le_refl 2
theorem app_eq {x y : ByteArray} {l m : List UInt8} (hx : x = mk l) (hy : y.data.toList = m) : x ++ y = mk (l ++ m) := by
 rw [hx, ← hy]
 apply ByteArray.ext
 apply Array.ext'
 simp [mk]
theorem l3Put (q : P) (a : Option Addr) (c : Nat) (w : World) (hS : StrsOf a q.ps.length q.ps w) (hs : q.tot ≤ 1048576) (hpo : q.po ≤ 9223372036854775807)
  (hD : 0 ≤ q.po → ∀ W, Calls Tryz.prog 79 #[.int .i64 q.po] W fun e w' => e = .returned (.string (mk (dg q.po))) ∧ Below W.heap.size W w') :
  Calls Tryz.prog 63 #[.agg (q.cells (.slice a q.ps.length c))] w fun e w' => e = .returned (.string (mk (writL q))) ∧ Below w.heap.size w w' := by
 have hq1 : q.qu.size ≤ 1048576 := by unfold P.tot at hs; omega
 have hf1 : q.fr.size ≤ 1048576 := by unfold P.tot at hs; omega
 have hp1 : q.pw.size ≤ 1048576 := by unfold P.tot at hs; omega
 have hu1 : q.us.size ≤ 1048576 := by unfold P.tot at hs; omega
 have hs1 : q.sc.size ≤ 1048576 := by unfold P.tot at hs; omega
 have ho1 : q.op.size ≤ 1048576 := by unfold P.tot at hs; omega
 have hn1 : q.hn.size ≤ 1048576 := by unfold P.tot at hs; omega
 have hps : q.ps.length + Go.Proofs.YtnfhajhdpdidlaaGreatDoor.tot q.ps ≤ 1048576 := by unfold P.tot at hs; omega
 obtain ⟨tp, htp⟩ : ∃ tp, tp = mk (putL q.ps) := ⟨_, rfl⟩
 have hpl : tp.size ≤ 3000000 := by rw [htp, mk_size, putL_len]; omega
 have HTP : Hid (tp.data.toList = putL q.ps) := by show _ = _; rw [htp]; rfl
 obtain ⟨th, hth⟩ : ∃ th, th = mk (putT q.hk q.hn q.ha) := ⟨_, rfl⟩
 have hhl : th.size ≤ 60 := by rw [hth, mk_size]; exact putT_len _ _ _
 have HTH : Hid (th.data.toList = putT q.hk q.hn q.ha) := by show _ = _; rw [hth]; rfl
 obtain ⟨td, htd⟩ : ∃ td, td = mk (dg q.po) := ⟨_, rfl⟩
 have HDL : Hid (0 ≤ q.po → td.size ≤ 20) := fun h0 => by rw [htd, mk_size]; exact dg_len20 q.po h0 hpo
 have HTD : Hid (td.data.toList = dg q.po) := by show _ = _; rw [htd]; rfl
 have CD : Hid (0 ≤ q.po → ∀ W, Calls Tryz.prog 79 #[.int .i64 q.po] W fun e w' => e = .returned (.string td) ∧ Below W.heap.size W w') := by rw [htd]; exact hD
 obtain ⟨n, hn⟩ : ∃ n, n = q.ps.length := ⟨_, rfl⟩
 have CP : Hid (∀ W, Below w.heap.size w W → Calls Tryz.prog 64 #[.slice a n c] W fun e w' => e = .returned (.string tp) ∧ w' = W) := fun W b => by rw [htp, hn]; exact specPathPut a _ c q.ps W (hS.later b) (by omega)
 have CH : Hid (∀ W, Calls Tryz.prog 78 #[.agg #[.int .i64 q.hk, .string q.hn, .int .i64 q.ha]] W fun e w' => e = .returned (.string th) ∧ Below W.heap.size W w') := fun W => by rw [hth]; exact specPut q.hk q.hn q.ha W hn1
 obtain ⟨own, hown⟩ : ∃ o, o = ownZ q.sc := ⟨_, rfl⟩
 have COW : Hid (∀ W, Calls Tryz.prog 62 #[.string q.sc] W fun e w' => e = .returned (.int .i64 own) ∧ w' = W) := fun W => by rw [hown]; exact l3Own q.sc W
 have HMY : Hid (own < 0 → mainL q = q.op.data.toList) := by intro h; unfold mainL; rw [← hown, if_neg (by omega)]
 have HMN : Hid (¬ own < 0 → mainL q = [47, 47] ++ (autL q ++ putL q.ps)) := by intro h; unfold mainL; rw [← hown, if_pos (by omega)]
 rw [← hn]
 have H0 : Hid (Wp w q (.slice a n c) (w.alloc (.cells (q.cells (.slice a n c)) 31))) := Wp.start w q _
 clear hs hpo hD htp hth htd hn hS hown
 unfold P.cells at H0 ⊢
 go_enter Tryz.func63, Tryz.ntmps63
 go_upto_if 10 with (go_at_call 62; refine (COW.out _).mono ?_; rintro e W0 ⟨rfl, hW0⟩; have hW0' := hW0.symm; subst hW0')
 generalize w.alloc (Obj.cells #[(.string q.sc), (.string q.us), (.string q.pw), (.int .i64 q.hk), (.string q.hn), (.int .i64 q.ha), (.int .i64 q.po), (.slice a n c), (.string q.op), (.bool q.hq), (.string q.qu), (.bool q.hf), (.string q.fr)] 31) = W0 at *
 go_cut [3] from 4 (fun s3 wx => ∃ x : ByteArray, s3 = .string x ∧ x.size ≤ 90000000 ∧ Hid (x = mk (q.sc.data.toList ++ ([58] ++ mainL q))) ∧ Hid (Wp w q (.slice a n c) wx))
 case first =>
  have HX : Hid (Wp w q (.slice a n c) W0) := H0.out
  clear H0 COW
  obtain ⟨k0, k1, k2, k3, k4, k5, k6, k7, k8, k9, k10, k11, k12⟩ := HX.out.cells
  by_cases ho : own < 0
  ·have HR : Hid ((q.sc ++ ⟨#[58]⟩) ++ q.op = mk (q.sc.data.toList ++ ([58] ++ mainL q))) := by
    show _ = _
    refine (app_eq (app_eq (show q.sc = mk q.sc.data.toList from (mk_list _).symm) rfl) rfl).trans ?_
    rw [HMY.out ho]
    simp
   clear HMY HMN CD CP CH
   go_wp2
   go_meet
   case rel => exact ⟨_, rfl, Nat.le_trans (sz_le (sz_le hs1 (sz_one _)) ho1) (by decide), HR, HX⟩
  ·have HMM : Hid (mainL q = [47, 47] ++ (autL q ++ putL q.ps)) := HMN.out (by omega)
   clear HMY HMN
   by_cases hpw : q.pw.data.toList = []
   ·by_cases hus : q.us.data.toList = []
    ·by_cases hpo : 0 ≤ q.po
     ·have htd := HDL.out hpo
      have CDD : Hid (∀ W, Calls Tryz.prog 79 #[.int .i64 q.po] W fun e w' => e = .returned (.string td) ∧ Below W.heap.size W w') := CD.out hpo
      have HPP : Hid (porL q = 58 :: dg q.po) := by show _ = _; unfold porL; rw [if_pos hpo]
      have HW : Hid (pwL q = []) := by show _ = _; unfold pwL; rw [if_pos hpw]
      have HEW : Hid (q.pw = ⟨#[]⟩) := text_none _ hpw
      have HA : Hid (atL' q = []) := by show _ = _; unfold atL'; rw [if_pos ⟨hus, hpw⟩]
      have HES : Hid (q.us = ⟨#[]⟩) := text_none _ hus
      have HEU : Hid (q.us.data.toList = []) := hus
      have HR : Hid (((((((q.sc ++ ⟨#[58]⟩) ++ ⟨#[47, 47]⟩) ++ th) ++ ⟨#[58]⟩) ++ td) ++ tp) = mk (q.sc.data.toList ++ ([58] ++ mainL q))) := by
       show _ = _
       refine (app_eq (app_eq (app_eq (app_eq (app_eq (app_eq (show q.sc = mk q.sc.data.toList from (mk_list _).symm) rfl) rfl) HTH.out) rfl) HTD.out) HTP.out).trans ?_
       rw [HMM.out]
       unfold autL
       rw [HW.out, HA.out, HPP.out, HEU.out]
       simp
      clear hpw hus CD HDL HMM
      rw [HES.out] at k1
      rw [HEW.out] at k2
      go_wp2_with fail
      refine (CH.out _).mono ?_
      rintro e W1 ⟨rfl, d1⟩
      have HX1 : Hid (Wp w q (.slice a n c) W1) := HX.out.later d1
      clear d1 k0 k1 k2 k3 k4 k5 k6 k7 k8 k9 k10 k11 k12
      obtain ⟨k0, k1, k2, k3, k4, k5, k6, k7, k8, k9, k10, k11, k12⟩ := HX1.out.cells
      go_wp2_with fail
      refine (CDD.out _).mono ?_
      rintro e W2 ⟨rfl, d2⟩
      have HX2 : Hid (Wp w q (.slice a n c) W2) := HX1.out.later d2
      clear d2 k0 k1 k2 k3 k4 k5 k6 k7 k8 k9 k10 k11 k12
      obtain ⟨k0, k1, k2, k3, k4, k5, k6, k7, k8, k9, k10, k11, k12⟩ := HX2.out.cells
      go_wp2_with fail
      refine (CP.out _ HX2.out.bw).mono ?_
      rintro e W4 ⟨rfl, hW4⟩
      have HX4 : Hid (Wp w q (.slice a n c) W4) := by rw [hW4]; exact HX2.out
      clear hW4 k0 k1 k2 k3 k4 k5 k6 k7 k8 k9 k10 k11 k12
      go_wp2
      go_meet
      case rel => exact ⟨_, rfl, Nat.le_trans (sz_le (sz_le (sz_le (sz_le (sz_le (sz_le hs1 (sz_one _)) (sz_two _ _)) hhl) (sz_one _)) htd) hpl) (by decide), HR, HX4⟩
     ·have HPP : Hid (porL q = []) := by show _ = _; unfold porL; rw [if_neg (by omega)]
      have HW : Hid (pwL q = []) := by show _ = _; unfold pwL; rw [if_pos hpw]
      have HEW : Hid (q.pw = ⟨#[]⟩) := text_none _ hpw
      have HA : Hid (atL' q = []) := by show _ = _; unfold atL'; rw [if_pos ⟨hus, hpw⟩]
      have HES : Hid (q.us = ⟨#[]⟩) := text_none _ hus
      have HEU : Hid (q.us.data.toList = []) := hus
      have HR : Hid (((((q.sc ++ ⟨#[58]⟩) ++ ⟨#[47, 47]⟩) ++ th) ++ tp) = mk (q.sc.data.toList ++ ([58] ++ mainL q))) := by
       show _ = _
       refine (app_eq (app_eq (app_eq (app_eq (show q.sc = mk q.sc.data.toList from (mk_list _).symm) rfl) rfl) HTH.out) HTP.out).trans ?_
       rw [HMM.out]
       unfold autL
       rw [HW.out, HA.out, HPP.out, HEU.out]
       simp
      clear hpw hus CD HDL HMM
      rw [HES.out] at k1
      rw [HEW.out] at k2
      go_wp2_with fail
      refine (CH.out _).mono ?_
      rintro e W1 ⟨rfl, d1⟩
      have HX1 : Hid (Wp w q (.slice a n c) W1) := HX.out.later d1
      clear d1 k0 k1 k2 k3 k4 k5 k6 k7 k8 k9 k10 k11 k12
      obtain ⟨k0, k1, k2, k3, k4, k5, k6, k7, k8, k9, k10, k11, k12⟩ := HX1.out.cells
      go_wp2_with fail
      refine (CP.out _ HX1.out.bw).mono ?_
      rintro e W4 ⟨rfl, hW4⟩
      have HX4 : Hid (Wp w q (.slice a n c) W4) := by rw [hW4]; exact HX1.out
      clear hW4 k0 k1 k2 k3 k4 k5 k6 k7 k8 k9 k10 k11 k12
      go_wp2
      go_meet
      case rel => exact ⟨_, rfl, Nat.le_trans (sz_le (sz_le (sz_le (sz_le hs1 (sz_one _)) (sz_two _ _)) hhl) hpl) (by decide), HR, HX4⟩
    ·by_cases hpo : 0 ≤ q.po
     ·have htd := HDL.out hpo
      have CDD : Hid (∀ W, Calls Tryz.prog 79 #[.int .i64 q.po] W fun e w' => e = .returned (.string td) ∧ Below W.heap.size W w') := CD.out hpo
      have HPP : Hid (porL q = 58 :: dg q.po) := by show _ = _; unfold porL; rw [if_pos hpo]
      have HW : Hid (pwL q = []) := by show _ = _; unfold pwL; rw [if_pos hpw]
      have HEW : Hid (q.pw = ⟨#[]⟩) := text_none _ hpw
      have HA : Hid (atL' q = [64]) := by show _ = _; unfold atL'; rw [if_neg (fun h => hus h.1)]
      obtain ⟨hv1, hv2⟩ := text_full _ hus
      have HR : Hid (((((((((q.sc ++ ⟨#[58]⟩) ++ ⟨#[47, 47]⟩) ++ q.us) ++ ⟨#[64]⟩) ++ th) ++ ⟨#[58]⟩) ++ td) ++ tp) = mk (q.sc.data.toList ++ ([58] ++ mainL q))) := by
       show _ = _
       refine (app_eq (app_eq (app_eq (app_eq (app_eq (app_eq (app_eq (app_eq (show q.sc = mk q.sc.data.toList from (mk_list _).symm) rfl) rfl) rfl) rfl) HTH.out) rfl) HTD.out) HTP.out).trans ?_
       rw [HMM.out]
       unfold autL
       rw [HW.out, HA.out, HPP.out]
       simp
      clear hpw hus CD HDL HMM
      rw [HEW.out] at k2
      go_wp2_with fail
      refine (CH.out _).mono ?_
      rintro e W1 ⟨rfl, d1⟩
      have HX1 : Hid (Wp w q (.slice a n c) W1) := HX.out.later d1
      clear d1 k0 k1 k2 k3 k4 k5 k6 k7 k8 k9 k10 k11 k12
      obtain ⟨k0, k1, k2, k3, k4, k5, k6, k7, k8, k9, k10, k11, k12⟩ := HX1.out.cells
      go_wp2_with fail
      refine (CDD.out _).mono ?_
      rintro e W2 ⟨rfl, d2⟩
      have HX2 : Hid (Wp w q (.slice a n c) W2) := HX1.out.later d2
      clear d2 k0 k1 k2 k3 k4 k5 k6 k7 k8 k9 k10 k11 k12
      obtain ⟨k0, k1, k2, k3, k4, k5, k6, k7, k8, k9, k10, k11, k12⟩ := HX2.out.cells
      go_wp2_with fail
      refine (CP.out _ HX2.out.bw).mono ?_
      rintro e W4 ⟨rfl, hW4⟩
      have HX4 : Hid (Wp w q (.slice a n c) W4) := by rw [hW4]; exact HX2.out
      clear hW4 k0 k1 k2 k3 k4 k5 k6 k7 k8 k9 k10 k11 k12
      go_wp2
      go_meet
      case rel => exact ⟨_, rfl, Nat.le_trans (sz_le (sz_le (sz_le (sz_le (sz_le (sz_le (sz_le (sz_le hs1 (sz_one _)) (sz_two _ _)) hu1) (sz_one _)) hhl) (sz_one _)) htd) hpl) (by decide), HR, HX4⟩
     ·have HPP : Hid (porL q = []) := by show _ = _; unfold porL; rw [if_neg (by omega)]
      have HW : Hid (pwL q = []) := by show _ = _; unfold pwL; rw [if_pos hpw]
      have HEW : Hid (q.pw = ⟨#[]⟩) := text_none _ hpw
      have HA : Hid (atL' q = [64]) := by show _ = _; unfold atL'; rw [if_neg (fun h => hus h.1)]
      obtain ⟨hv1, hv2⟩ := text_full _ hus
      have HR : Hid (((((((q.sc ++ ⟨#[58]⟩) ++ ⟨#[47, 47]⟩) ++ q.us) ++ ⟨#[64]⟩) ++ th) ++ tp) = mk (q.sc.data.toList ++ ([58] ++ mainL q))) := by
       show _ = _
       refine (app_eq (app_eq (app_eq (app_eq (app_eq (app_eq (show q.sc = mk q.sc.data.toList from (mk_list _).symm) rfl) rfl) rfl) rfl) HTH.out) HTP.out).trans ?_
       rw [HMM.out]
       unfold autL
       rw [HW.out, HA.out, HPP.out]
       simp
      clear hpw hus CD HDL HMM
      rw [HEW.out] at k2
      go_wp2_with fail
      refine (CH.out _).mono ?_
      rintro e W1 ⟨rfl, d1⟩
      have HX1 : Hid (Wp w q (.slice a n c) W1) := HX.out.later d1
      clear d1 k0 k1 k2 k3 k4 k5 k6 k7 k8 k9 k10 k11 k12
      obtain ⟨k0, k1, k2, k3, k4, k5, k6, k7, k8, k9, k10, k11, k12⟩ := HX1.out.cells
      go_wp2_with fail
      refine (CP.out _ HX1.out.bw).mono ?_
      rintro e W4 ⟨rfl, hW4⟩
      have HX4 : Hid (Wp w q (.slice a n c) W4) := by rw [hW4]; exact HX1.out
      clear hW4 k0 k1 k2 k3 k4 k5 k6 k7 k8 k9 k10 k11 k12
      go_wp2
      go_meet
      case rel => exact ⟨_, rfl, Nat.le_trans (sz_le (sz_le (sz_le (sz_le (sz_le (sz_le hs1 (sz_one _)) (sz_two _ _)) hu1) (sz_one _)) hhl) hpl) (by decide), HR, HX4⟩
   ·by_cases hus : q.us.data.toList = []
    ·by_cases hpo : 0 ≤ q.po
     ·have htd := HDL.out hpo
      have CDD : Hid (∀ W, Calls Tryz.prog 79 #[.int .i64 q.po] W fun e w' => e = .returned (.string td) ∧ Below W.heap.size W w') := CD.out hpo
      have HPP : Hid (porL q = 58 :: dg q.po) := by show _ = _; unfold porL; rw [if_pos hpo]
      have HW : Hid (pwL q = 58 :: q.pw.data.toList) := by show _ = _; unfold pwL; rw [if_neg hpw]
      have HA : Hid (atL' q = [64]) := by show _ = _; unfold atL'; rw [if_neg (fun h => hpw h.2)]
      obtain ⟨hw1, hw2⟩ := text_full _ hpw
      have HES : Hid (q.us = ⟨#[]⟩) := text_none _ hus
      have HEU : Hid (q.us.data.toList = []) := hus
      have HR : Hid (((((((((((q.sc ++ ⟨#[58]⟩) ++ ⟨#[47, 47]⟩) ++ ⟨#[]⟩) ++ ⟨#[58]⟩) ++ q.pw) ++ ⟨#[64]⟩) ++ th) ++ ⟨#[58]⟩) ++ td) ++ tp) = mk (q.sc.data.toList ++ ([58] ++ mainL q))) := by
       show _ = _
       refine (app_eq (app_eq (app_eq (app_eq (app_eq (app_eq (app_eq (app_eq (app_eq (app_eq (show q.sc = mk q.sc.data.toList from (mk_list _).symm) rfl) rfl) rfl) rfl) rfl) rfl) HTH.out) rfl) HTD.out) HTP.out).trans ?_
       rw [HMM.out]
       unfold autL
       rw [HW.out, HA.out, HPP.out, HEU.out]
       simp
      clear hpw hus CD HDL HMM
      rw [HES.out] at k1
      go_wp2_with fail
      refine (CH.out _).mono ?_
      rintro e W1 ⟨rfl, d1⟩
      have HX1 : Hid (Wp w q (.slice a n c) W1) := HX.out.later d1
      clear d1 k0 k1 k2 k3 k4 k5 k6 k7 k8 k9 k10 k11 k12
      obtain ⟨k0, k1, k2, k3, k4, k5, k6, k7, k8, k9, k10, k11, k12⟩ := HX1.out.cells
      go_wp2_with fail
      refine (CDD.out _).mono ?_
      rintro e W2 ⟨rfl, d2⟩
      have HX2 : Hid (Wp w q (.slice a n c) W2) := HX1.out.later d2
      clear d2 k0 k1 k2 k3 k4 k5 k6 k7 k8 k9 k10 k11 k12
      obtain ⟨k0, k1, k2, k3, k4, k5, k6, k7, k8, k9, k10, k11, k12⟩ := HX2.out.cells
      go_wp2_with fail
      refine (CP.out _ HX2.out.bw).mono ?_
      rintro e W4 ⟨rfl, hW4⟩
      have HX4 : Hid (Wp w q (.slice a n c) W4) := by rw [hW4]; exact HX2.out
      clear hW4 k0 k1 k2 k3 k4 k5 k6 k7 k8 k9 k10 k11 k12
      go_wp2
      go_meet
      case rel => exact ⟨_, rfl, Nat.le_trans (sz_le (sz_le (sz_le (sz_le (sz_le (sz_le (sz_le (sz_le (sz_le (sz_le hs1 (sz_one _)) (sz_two _ _)) (Nat.zero_le 0)) (sz_one _)) hp1) (sz_one _)) hhl) (sz_one _)) htd) hpl) (by decide), HR, HX4⟩
     ·have HPP : Hid (porL q = []) := by show _ = _; unfold porL; rw [if_neg (by omega)]
      have HW : Hid (pwL q = 58 :: q.pw.data.toList) := by show _ = _; unfold pwL; rw [if_neg hpw]
      have HA : Hid (atL' q = [64]) := by show _ = _; unfold atL'; rw [if_neg (fun h => hpw h.2)]
      obtain ⟨hw1, hw2⟩ := text_full _ hpw
      have HES : Hid (q.us = ⟨#[]⟩) := text_none _ hus
      have HEU : Hid (q.us.data.toList = []) := hus
      have HR : Hid (((((((((q.sc ++ ⟨#[58]⟩) ++ ⟨#[47, 47]⟩) ++ ⟨#[]⟩) ++ ⟨#[58]⟩) ++ q.pw) ++ ⟨#[64]⟩) ++ th) ++ tp) = mk (q.sc.data.toList ++ ([58] ++ mainL q))) := by
       show _ = _
       refine (app_eq (app_eq (app_eq (app_eq (app_eq (app_eq (app_eq (app_eq (show q.sc = mk q.sc.data.toList from (mk_list _).symm) rfl) rfl) rfl) rfl) rfl) rfl) HTH.out) HTP.out).trans ?_
       rw [HMM.out]
       unfold autL
       rw [HW.out, HA.out, HPP.out, HEU.out]
       simp
      clear hpw hus CD HDL HMM
      rw [HES.out] at k1
      go_wp2_with fail
      refine (CH.out _).mono ?_
      rintro e W1 ⟨rfl, d1⟩
      have HX1 : Hid (Wp w q (.slice a n c) W1) := HX.out.later d1
      clear d1 k0 k1 k2 k3 k4 k5 k6 k7 k8 k9 k10 k11 k12
      obtain ⟨k0, k1, k2, k3, k4, k5, k6, k7, k8, k9, k10, k11, k12⟩ := HX1.out.cells
      go_wp2_with fail
      refine (CP.out _ HX1.out.bw).mono ?_
      rintro e W4 ⟨rfl, hW4⟩
      have HX4 : Hid (Wp w q (.slice a n c) W4) := by rw [hW4]; exact HX1.out
      clear hW4 k0 k1 k2 k3 k4 k5 k6 k7 k8 k9 k10 k11 k12
      go_wp2
      go_meet
      case rel => exact ⟨_, rfl, Nat.le_trans (sz_le (sz_le (sz_le (sz_le (sz_le (sz_le (sz_le (sz_le hs1 (sz_one _)) (sz_two _ _)) (Nat.zero_le 0)) (sz_one _)) hp1) (sz_one _)) hhl) hpl) (by decide), HR, HX4⟩
    ·by_cases hpo : 0 ≤ q.po
     ·have htd := HDL.out hpo
      have CDD : Hid (∀ W, Calls Tryz.prog 79 #[.int .i64 q.po] W fun e w' => e = .returned (.string td) ∧ Below W.heap.size W w') := CD.out hpo
      have HPP : Hid (porL q = 58 :: dg q.po) := by show _ = _; unfold porL; rw [if_pos hpo]
      have HW : Hid (pwL q = 58 :: q.pw.data.toList) := by show _ = _; unfold pwL; rw [if_neg hpw]
      have HA : Hid (atL' q = [64]) := by show _ = _; unfold atL'; rw [if_neg (fun h => hpw h.2)]
      obtain ⟨hw1, hw2⟩ := text_full _ hpw
      obtain ⟨hv1, hv2⟩ := text_full _ hus
      have HR : Hid (((((((((((q.sc ++ ⟨#[58]⟩) ++ ⟨#[47, 47]⟩) ++ q.us) ++ ⟨#[58]⟩) ++ q.pw) ++ ⟨#[64]⟩) ++ th) ++ ⟨#[58]⟩) ++ td) ++ tp) = mk (q.sc.data.toList ++ ([58] ++ mainL q))) := by
       show _ = _
       refine (app_eq (app_eq (app_eq (app_eq (app_eq (app_eq (app_eq (app_eq (app_eq (app_eq (show q.sc = mk q.sc.data.toList from (mk_list _).symm) rfl) rfl) rfl) rfl) rfl) rfl) HTH.out) rfl) HTD.out) HTP.out).trans ?_
       rw [HMM.out]
       unfold autL
       rw [HW.out, HA.out, HPP.out]
       simp
      clear hpw hus CD HDL HMM
      go_wp2_with fail
      refine (CH.out _).mono ?_
      rintro e W1 ⟨rfl, d1⟩
      have HX1 : Hid (Wp w q (.slice a n c) W1) := HX.out.later d1
      clear d1 k0 k1 k2 k3 k4 k5 k6 k7 k8 k9 k10 k11 k12
      obtain ⟨k0, k1, k2, k3, k4, k5, k6, k7, k8, k9, k10, k11, k12⟩ := HX1.out.cells
      go_wp2_with fail
      refine (CDD.out _).mono ?_
      rintro e W2 ⟨rfl, d2⟩
      have HX2 : Hid (Wp w q (.slice a n c) W2) := HX1.out.later d2
      clear d2 k0 k1 k2 k3 k4 k5 k6 k7 k8 k9 k10 k11 k12
      obtain ⟨k0, k1, k2, k3, k4, k5, k6, k7, k8, k9, k10, k11, k12⟩ := HX2.out.cells
      go_wp2_with fail
      refine (CP.out _ HX2.out.bw).mono ?_
      rintro e W4 ⟨rfl, hW4⟩
      have HX4 : Hid (Wp w q (.slice a n c) W4) := by rw [hW4]; exact HX2.out
      clear hW4 k0 k1 k2 k3 k4 k5 k6 k7 k8 k9 k10 k11 k12
      go_wp2
      go_meet
      case rel => exact ⟨_, rfl, Nat.le_trans (sz_le (sz_le (sz_le (sz_le (sz_le (sz_le (sz_le (sz_le (sz_le (sz_le hs1 (sz_one _)) (sz_two _ _)) hu1) (sz_one _)) hp1) (sz_one _)) hhl) (sz_one _)) htd) hpl) (by decide), HR, HX4⟩
     ·have HPP : Hid (porL q = []) := by show _ = _; unfold porL; rw [if_neg (by omega)]
      have HW : Hid (pwL q = 58 :: q.pw.data.toList) := by show _ = _; unfold pwL; rw [if_neg hpw]
      have HA : Hid (atL' q = [64]) := by show _ = _; unfold atL'; rw [if_neg (fun h => hpw h.2)]
      obtain ⟨hw1, hw2⟩ := text_full _ hpw
      obtain ⟨hv1, hv2⟩ := text_full _ hus
      have HR : Hid (((((((((q.sc ++ ⟨#[58]⟩) ++ ⟨#[47, 47]⟩) ++ q.us) ++ ⟨#[58]⟩) ++ q.pw) ++ ⟨#[64]⟩) ++ th) ++ tp) = mk (q.sc.data.toList ++ ([58] ++ mainL q))) := by
       show _ = _
       refine (app_eq (app_eq (app_eq (app_eq (app_eq (app_eq (app_eq (app_eq (show q.sc = mk q.sc.data.toList from (mk_list _).symm) rfl) rfl) rfl) rfl) rfl) rfl) HTH.out) HTP.out).trans ?_
       rw [HMM.out]
       unfold autL
       rw [HW.out, HA.out, HPP.out]
       simp
      clear hpw hus CD HDL HMM
      go_wp2_with fail
      refine (CH.out _).mono ?_
      rintro e W1 ⟨rfl, d1⟩
      have HX1 : Hid (Wp w q (.slice a n c) W1) := HX.out.later d1
      clear d1 k0 k1 k2 k3 k4 k5 k6 k7 k8 k9 k10 k11 k12
      obtain ⟨k0, k1, k2, k3, k4, k5, k6, k7, k8, k9, k10, k11, k12⟩ := HX1.out.cells
      go_wp2_with fail
      refine (CP.out _ HX1.out.bw).mono ?_
      rintro e W4 ⟨rfl, hW4⟩
      have HX4 : Hid (Wp w q (.slice a n c) W4) := by rw [hW4]; exact HX1.out
      clear hW4 k0 k1 k2 k3 k4 k5 k6 k7 k8 k9 k10 k11 k12
      go_wp2
      go_meet
      case rel => exact ⟨_, rfl, Nat.le_trans (sz_le (sz_le (sz_le (sz_le (sz_le (sz_le (sz_le (sz_le hs1 (sz_one _)) (sz_two _ _)) hu1) (sz_one _)) hp1) (sz_one _)) hhl) hpl) (by decide), HR, HX4⟩
 case rest =>
  clear H0 COW CD CP CH HMY HMN HDL HTP HTH HTD hpl hhl
  obtain ⟨x, rfl, hxs, HR, HX⟩ := hcut
  obtain ⟨k0, k1, k2, k3, k4, k5, k6, k7, k8, k9, k10, k11, k12⟩ := HX.out.cells
  have HT : Hid (writL q = (q.sc.data.toList ++ ([58] ++ mainL q)) ++ tailL q) := by show _ = _; unfold writL; simp
  cases hq : q.hq with
  | true =>
   cases hf : q.hf with
   | true =>
    have HQ : Hid (queL q = 63 :: q.qu.data.toList) := by show _ = _; unfold queL; rw [hq]; rfl
    have HF : Hid (frgL q = 35 :: q.fr.data.toList) := by show _ = _; unfold frgL; rw [hf]; rfl
    have HE : Hid (((((x ++ ⟨#[63]⟩) ++ q.qu) ++ ⟨#[35]⟩) ++ q.fr) = mk (writL q)) := by
     show _ = _
     refine Eq.trans (app_eq (app_eq (app_eq (app_eq HR.out rfl) rfl) rfl) rfl) ?_
     rw [HT.out]
     unfold tailL
     rw [HQ.out, HF.out]
     simp
    rw [hq] at k9
    rw [hf] at k11
    have HBW : Hid (Below w.heap.size w wc) := HX.out.bw
    clear HX HR HT HQ HF
    go_wp2
    go_ret
    rw [← HE.out]
    exact ⟨rfl, HBW.out⟩
   | false =>
    have HQ : Hid (queL q = 63 :: q.qu.data.toList) := by show _ = _; unfold queL; rw [hq]; rfl
    have HF : Hid (frgL q = []) := by show _ = _; unfold frgL; rw [hf]; rfl
    have HE : Hid (((x ++ ⟨#[63]⟩) ++ q.qu) = mk (writL q)) := by
     show _ = _
     refine Eq.trans (app_eq (app_eq HR.out rfl) rfl) ?_
     rw [HT.out]
     unfold tailL
     rw [HQ.out, HF.out]
     simp
    rw [hq] at k9
    rw [hf] at k11
    have HBW : Hid (Below w.heap.size w wc) := HX.out.bw
    clear HX HR HT HQ HF
    go_wp2
    go_ret
    rw [← HE.out]
    exact ⟨rfl, HBW.out⟩
  | false =>
   cases hf : q.hf with
   | true =>
    have HQ : Hid (queL q = []) := by show _ = _; unfold queL; rw [hq]; rfl
    have HF : Hid (frgL q = 35 :: q.fr.data.toList) := by show _ = _; unfold frgL; rw [hf]; rfl
    have HE : Hid (((x ++ ⟨#[35]⟩) ++ q.fr) = mk (writL q)) := by
     show _ = _
     refine Eq.trans (app_eq (app_eq HR.out rfl) rfl) ?_
     rw [HT.out]
     unfold tailL
     rw [HQ.out, HF.out]
     simp
    rw [hq] at k9
    rw [hf] at k11
    have HBW : Hid (Below w.heap.size w wc) := HX.out.bw
    clear HX HR HT HQ HF
    go_wp2
    go_ret
    rw [← HE.out]
    exact ⟨rfl, HBW.out⟩
   | false =>
    have HQ : Hid (queL q = []) := by show _ = _; unfold queL; rw [hq]; rfl
    have HF : Hid (frgL q = []) := by show _ = _; unfold frgL; rw [hf]; rfl
    have HE : Hid (x = mk (writL q)) := by
     show _ = _
     refine Eq.trans HR.out ?_
     rw [HT.out]
     unfold tailL
     rw [HQ.out, HF.out]
     simp
    rw [hq] at k9
    rw [hf] at k11
    have HBW : Hid (Below w.heap.size w wc) := HX.out.bw
    clear HX HR HT HQ HF
    go_wp2
    go_ret
    rw [← HE.out]
    exact ⟨rfl, HBW.out⟩
end Go.Proofs.YtnfhajhdpdidlaaGreatDoor
end
section
namespace Go.Proofs.YtnfhajhdpdidlaaGreatDoor
open Go.RowKit Go.Shelf
theorem l3Fits (q : P) (a : Option Addr) (c : Nat) (w : World) (hS : StrsOf a q.ps.length q.ps w) (hs : q.tot ≤ 1048576) (hpo : q.po ≤ 9223372036854775807)
  (hD : 0 ≤ q.po → ∀ W, Calls Tryz.prog 79 #[.int .i64 q.po] W fun e w' => e = .returned (.string (mk (dg q.po))) ∧ Below W.heap.size W w') :
  Calls Tryz.prog 113 #[.agg (q.cells (.slice a q.ps.length c))] w fun e w' => e = .returned (.bool (decide (q.ps.length ≤ 12 ∧ (writL q).length ≤ 600))) ∧ Below w.heap.size w w' := by
 have hps : q.ps.length ≤ 1048576 := by unfold P.tot at hs; omega
 obtain ⟨x, hx⟩ : ∃ x, x = mk (writL q) := ⟨_, rfl⟩
 have HXS : Hid (x.size = (writL q).length) := by show _ = _; rw [hx, mk_size]
 obtain ⟨n, hn⟩ : ∃ n, n = q.ps.length := ⟨_, rfl⟩
 have HN : Hid (n = q.ps.length) := hn
 have hnn : n ≤ 1048576 := by omega
 have CP : Hid (∀ W, Below w.heap.size w W → Calls Tryz.prog 63 #[.agg #[(.string q.sc), (.string q.us), (.string q.pw), (.int .i64 q.hk), (.string q.hn), (.int .i64 q.ha), (.int .i64 q.po), (.slice a n c), (.string q.op), (.bool q.hq), (.string q.qu), (.bool q.hf), (.string q.fr)]] W fun e w' => e = .returned (.string x) ∧ Below W.heap.size W w') := fun W b => by
  rw [hx, hn]; exact l3Put q a c W (hS.later b) hs hpo hD
 have H0 : Hid (Wp w q (.slice a n c) (w.alloc (.cells (q.cells (.slice a n c)) 31))) := Wp.start w q _
 rw [← hn]
 have HA : Hid (¬ n ≤ 12 → decide (n ≤ 12 ∧ (writL q).length ≤ 600) = false) := fun h => by simp [h]
 have HB : Hid (n ≤ 12 → x.size ≤ 600 → decide (n ≤ 12 ∧ (writL q).length ≤ 600) = true) := fun h h2 => by rw [HXS.out] at h2; simp [h, h2]
 have HC : Hid (¬ x.size ≤ 600 → decide (n ≤ 12 ∧ (writL q).length ≤ 600) = false) := fun h2 => by rw [HXS.out] at h2; simp [h2]
 generalize decide (n ≤ 12 ∧ (writL q).length ≤ 600) = ans at *
 clear hs hpo hD hn hS hx HN HXS hps
 unfold P.cells at H0 ⊢
 go_enter Tryz.func113, Tryz.ntmps113
 by_cases h12 : n ≤ 12
 ·go_wp2_with fail
  refine (CP.out _ H0.out.bw).mono ?_
  rintro e W1 ⟨rfl, d1⟩
  have HX : Hid (Below w.heap.size w W1) := H0.out.bw.trans (d1.mono H0.out.bw.size)
  clear d1 H0 CP HA
  have HE : Hid (decide ((x.size : Int) ≤ 600) = ans) := by
   show _ = _
   by_cases hx6 : x.size ≤ 600
   ·rw [HB.out h12 hx6, decide_eq_true_eq]; omega
   ·rw [HC.out hx6, decide_eq_false_iff_not]; omega
  clear HB HC
  go_wp2
  go_ret
  rw [← HE.out]
  exact ⟨rfl, HX.out⟩
 ·have HE := HA.out h12
  have HX : Hid (Below w.heap.size w (w.alloc (.cells #[(.string q.sc), (.string q.us), (.string q.pw), (.int .i64 q.hk), (.string q.hn), (.int .i64 q.ha), (.int .i64 q.po), (.slice a n c), (.string q.op), (.bool q.hq), (.string q.qu), (.bool q.hf), (.string q.fr)] 31))) := H0.out.bw
  clear HA HB HC CP H0
  subst HE
  go_wp2
  go_ret
  exact ⟨rfl, HX.out⟩
end Go.Proofs.YtnfhajhdpdidlaaGreatDoor
end
section
namespace Go.Proofs.YtnfhajhdpdidlaaGreatDoor
open Go.RowKit Go.Shelf
theorem drop_hit (S l : List UInt8) : l.drop (upL S l).length = [] ∨ ∃ c b, l.drop (upL S l).length = c :: b ∧ among S c = true := by
 rcases up_cases S l with ⟨e, h⟩ | ⟨a, c, b, e, hu, hc, h⟩
 ·left; rw [e]; simp
 ·right; refine ⟨c, b, ?_, hc⟩
  rw [hu, e]; simp
theorem frag_tail1 (p : P) (l : List UInt8) : tail1 p l = fragP p (l.drop (upL [35] l).length) := by
 unfold tail1 fragP
 rcases up_cases [35] l with ⟨e, h⟩ | ⟨a, c, b, e, hu, hc, h⟩
 ·rw [e]; simp [passB]
 ·rw [hu, e]
  simp [passB, hc]
theorem tail_que (p : P) (l : List UInt8) (h : l = [] ∨ ∃ c b, l = c :: b ∧ among [63, 35] c = true) : tailS p l = queP p l := by
 unfold tailS
 rw [frag_tail1]
 rcases h with rfl | ⟨c, b, rfl, hc⟩
 ·rfl
 ·have hc' : c = 63 ∨ c = 35 := by simpa [among] using hc
  rcases hc' with rfl | rfl
  ·have hu : upL [35] (63 :: b) = 63 :: upL [35] b := by
    unfold upL; rw [List.takeWhile_cons, if_pos (by decide)]
   rw [hu]
   unfold queP tail2
   rw [if_pos (show passB [63] (63 :: b) = true from rfl), if_neg (by simp)]
   simp only [List.tail_cons, List.length_cons, List.drop_succ_cons]
   unfold fragP
   split <;> rfl
  ·have hu : upL [35] (35 :: b) = [] := by
    unfold upL; rw [List.takeWhile_cons, if_neg (by decide)]
   rw [hu]
   unfold queP tail2
   rw [if_pos rfl, if_neg (show ¬ passB [63] (35 :: b) = true from by simp [passB, among])]
   simp
theorem beh_drop (l : List UInt8) : behind l = l.drop ((upL [58] l).length + 1) := by
 unfold behind; rw [List.tail_drop]
theorem wr_none : wrT 4 [] = ⟨#[]⟩ := by
 unfold wrT encode
 rw [if_pos (by decide)]
 rfl
theorem who_both (p : P) (l : List UInt8) (hp : p.pw = ⟨#[]⟩) : au1 p l = whoP p l := by
 unfold au1 whoP
 cases atSplit l with
 | none => rfl
 | some q =>
  obtain ⟨a, b⟩ := q
  show whoS p a = _
  unfold whoS
  simp only [beh_drop]
  split
  ·rfl
  ·rename_i h
   have e : a.drop ((upL [58] a).length + 1) = [] := by
    apply List.drop_eq_nil_of_le
    omega
   rw [e, wr_none, ← hp]
theorem own_le (s : ByteArray) : ownZ s ≤ 65535 := by
 unfold ownZ
 (repeat' split) <;> decide
theorem port_au (p : P) (l : List UInt8) : (portB (behind (whereL l)) (ownZ p.sc) = true ∧ portV (behind (whereL l)) (ownZ p.sc) = auPo p l ∧ auPo p l ≠ -2) ∨ (portB (behind (whereL l)) (ownZ p.sc) = false ∧ auPo p l = -2) := by
 have := port_both (behind (whereL l)) (ownZ p.sc) (own_le _)
 unfold auPo
 split
 ·rw [beh_drop] at this ⊢; exact this
 ·rename_i h
  have e : behind (whereL l) = [] := by
   rw [beh_drop]
   apply List.drop_eq_nil_of_le
   omega
  rw [e] at this ⊢
  have hs : portS [] (ownZ p.sc) = -1 := by unfold portS; rw [if_pos rfl]
  rw [hs] at this
  exact this
theorem aut_both (p : P) (l : List UInt8) (hp : p.pw = ⟨#[]⟩) : autP p l = if auB p l = true then some (auS p l) else none := by
 unfold autP autB auB autQ auS
 rw [who_both p l hp]
 rcases port_au p l with ⟨h1, h2, h3⟩ | ⟨h1, h2⟩
 ·rw [h1, h2]
  simp [h3]
 ·rw [h1, h2]
  simp
theorem hos_both (p : P) (l : List UInt8) (hp : p.pw = ⟨#[]⟩) : hoS p l = hosP p l := by
 unfold hoS hosP
 rw [aut_both _ _ hp]
 show (if auB p (hoA l) = true then _ else _) = Option.map _ (if auB p (hoA l) = true then some (auS p (hoA l)) else none)
 split
 ·show some _ = some (patP _ (hoR l))
  unfold patP
  rw [tail_que _ _ (drop_hit _ _)]
  rfl
 ·rfl
theorem sch_both (t : List UInt8) : schP P.zero t = (sch3 t).bind fun q => reS (mk q.1) q.2 := by
 unfold schP sch3
 split
 ·show _ = reS (mk (low (upL [58] t))) (t.drop ((upL [58] t).length + 1))
  unfold reS
  by_cases h : 0 ≤ ownZ (mk (low (upL [58] t)))
  ·rw [if_pos h, if_neg (by omega), hos_both _ _ rfl]
   rfl
  ·rw [if_neg h, if_pos (by omega), tail_que _ _ (drop_hit _ _)]
   rfl
 ·rfl
end Go.Proofs.YtnfhajhdpdidlaaGreatDoor
end

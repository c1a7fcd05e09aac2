/- impl.authorityWrite: who, the host and the port, written. impl.urlWrite: an address, written. Plain facts on figures that are read back. Plain facts: what is written as figures is read as what it was; written again it is the same; all of it can be seen. Plain facts on paths: what is read is read back; a step back; a piece behind. -/
import Derived.Test.YtnfhajhdpdidlaaGreatDoorB12
import Derived.Test.YtnfhajhdpdidlaaGreatDoorB02
import Derived.Test.YtnfhajhdpdidlaaGreatDoorB03
import Derived.Test.YtnfhajhdpdidlaaGreatDoorB04
set_option linter.unusedVariables false
set_option linter.unusedSimpArgs false
set_option maxHeartbeats 4000000
set_option maxRecDepth 100000
section
namespace Go.Proofs.YtnfhajhdpdidlaaGreatDoor
open Go.RowKit Go.Shelf
theorem dg_lenk : ∀ (k : Nat) (n : Int), 0 ≤ n → n < (10 : Int) ^ (k + 1) → (dg n).length ≤ k + 1 := by
 intro k
 induction k with
 | zero => intro n h0 h; rw [dg_one n h0 (by simpa using h)]; simp
 | succ k ih =>
  intro n h0 h
  by_cases h10 : n < 10
  ·rw [dg_one n h0 h10]; simp
  ·rw [dg_more n (by omega), List.length_append]
   have hp : (10 : Int) ^ (k + 1 + 1) = (10 : Int) ^ (k + 1) * 10 := Int.pow_succ _ _
   have := ih (n / 10) (by omega) (by omega)
   simp; omega
theorem dg_len20 (n : Int) (h0 : 0 ≤ n) (h : n ≤ 9223372036854775807) : (dg n).length ≤ 20 := by
 have := dg_lenk 19 n h0 (by omega)
 omega
theorem itoaC (x : Int) (h0 : 0 ≤ x) (h1 : x ≤ 9223372036854775807) (W : World) (ht : Lib.TabIs Tryz.prog W "internal/strconv.uint64pow10" .u64 Lib.pow10Tab) :
  Calls Tryz.prog 106 #[.int .i64 x] W fun e w' => e = .returned (.string (mk (dg x))) ∧ Below W.heap.size W w' := by
 refine (Tryz.strconv_Itoa x (by omega) h1 W ht).mono ?_
 rintro e w' ⟨rfl, k, os, rfl⟩
 exact ⟨by rw [itoa_dg x h0]; rfl, Lib.below_grow _ _ (Nat.le_refl _) k os⟩
structure Lean0 (w : World) : Prop where
 make ::
 mx : MaxL w
 lt : 4 < w.heap.size
 tab : Lib.TabIs Tryz.prog w "internal/strconv.uint64pow10" .u64 Lib.pow10Tab
theorem MaxL.lt {w : World} (h : MaxL w) : 0 < w.heap.size := by
 obtain ⟨m, h⟩ := h
 exact cell_in h
theorem MaxL.below {w w' : World} {B : Nat} (h : MaxL w) (b : Below B w w') (hB : w.heap.size ≤ B) : MaxL w' := by
 have hl := h.lt
 obtain ⟨m, h⟩ := h
 exact ⟨m, (b.cell (p := ⟨0, 0, none⟩) (Nat.lt_of_lt_of_le hl hB)).trans h⟩
theorem Lean0.below {w w' : World} (h : Lean0 w) (b : Below w.heap.size w w') : Lean0 w' :=
 ⟨h.mx.below b (Nat.le_refl _), Nat.lt_of_lt_of_le h.lt b.size, tab_below h.tab b h.lt⟩
theorem Lean0.put {w : World} (h : Lean0 w) (k : Int) (s : ByteArray) (a : Int) (hs : s.size ≤ 1048576) :
  Calls Tryz.prog 105 #[.agg #[.int .i64 k, .string s, .int .i64 a]] w fun e w' => e = .returned (.string (mk (putT k s a))) ∧ Below w.heap.size w w' := implPut k s a w h.mx h.lt h.tab hs
theorem authorityWrite (p : P) (v : Value) (w : World) (hL : Lean0 w) (hs : p.tot ≤ 1048576) (hpo : p.po ≤ 9223372036854775807) :
  Calls Tryz.prog 96 #[.agg (p.cells v)] w fun e w' => e = .returned (.string (mk (autL p))) ∧ Below w.heap.size w w' := by
 have HT : Hid (autL p = p.us.data.toList ++ (pwL p ++ (atL' p ++ (putT p.hk p.hn p.ha ++ porL p)))) := rfl
 have hq1 : p.qu.size ≤ 1048576 := by unfold P.tot at hs; omega
 have hf1 : p.fr.size ≤ 1048576 := by unfold P.tot at hs; omega
 have hp1 : p.pw.size ≤ 1048576 := by unfold P.tot at hs; omega
 have hu1 : p.us.size ≤ 1048576 := by unfold P.tot at hs; omega
 have hs1 : p.sc.size ≤ 1048576 := by unfold P.tot at hs; omega
 have ho1 : p.op.size ≤ 1048576 := by unfold P.tot at hs; omega
 have hn1 : p.hn.size ≤ 1048576 := by unfold P.tot at hs; omega
 have hpt : (mk (putT p.hk p.hn p.ha)).size ≤ 60 := by rw [mk_size]; exact putT_len _ _ _
 have CH : Hid (∀ W, Below w.heap.size w W → Calls Tryz.prog 105 #[.agg #[.int .i64 p.hk, .string p.hn, .int .i64 p.ha]] W fun e w' => e = .returned (.string (mk (putT p.hk p.hn p.ha))) ∧ Below W.heap.size W w') := fun W b => (hL.below b).put _ _ _ hn1
 have CI : Hid (0 ≤ p.po → ∀ W, Below w.heap.size w W → Calls Tryz.prog 106 #[.int .i64 p.po] W fun e w' => e = .returned (.string (mk (dg p.po))) ∧ Below W.heap.size W w') := fun h0 W b => itoaC p.po h0 hpo W (hL.below b).tab
 have HDG : Hid (0 ≤ p.po → (mk (dg p.po)).size ≤ 20) := fun h0 => by rw [mk_size]; exact dg_len20 p.po h0 hpo
 have H0 : Hid (Wr w p v 0 [] ((w.alloc (.cells (p.cells v) 31)).alloc (.cells #[.pointer none, .slice none 0 0] 67))) := Wr.start w p v
 obtain ⟨k0, k1, k2, k3, k4, k5, k6, k7, k8, k9, k10, k11, k12⟩ := H0.out.cells
 unfold P.cells at H0 ⊢
 clear hs hL hpo
 by_cases hpw : p.pw.data.toList = []
 ·by_cases hus : p.us.data.toList = []
  ·by_cases hpo : 0 ≤ p.po
   ·have hdg := HDG.out hpo
    have CIT := CI.out hpo
    have CIH : Hid (∀ W, Below w.heap.size w W → Calls Tryz.prog 106 #[.int .i64 p.po] W fun e w' => e = .returned (.string (mk (dg p.po))) ∧ Below W.heap.size W w') := CIT
    clear CIT
    have HP : Hid (porL p = 58 :: dg p.po) := by show _ = _; unfold porL; rw [if_pos hpo]
    clear CI HDG
    have HW : Hid (pwL p = []) := by show _ = _; unfold pwL; rw [if_pos hpw]
    have HA : Hid (atL' p = []) := by show _ = _; unfold atL'; rw [if_pos ⟨hus, hpw⟩]
    have heu := text_none _ hus
    have HEU : Hid (p.us.data.toList = []) := hus
    rw [heu] at H0 k1
    clear hus
    have hew := text_none _ hpw
    rw [hew] at H0 k2
    clear hpw
    go_enter Tryz.func96, Tryz.ntmps96
    go_wp2_with fail
    refine (H0.out.ws (ByteArray.mk #[]) (by decide)).mono ?_
    rintro e W1 ⟨rfl, h1⟩
    have H1 : Hid (Wr w p v (0) ([]) W1) := h1
    clear k0 k1 k2 k3 k4 k5 k6 k7 k8 k9 k10 k11 k12
    obtain ⟨k0, k1, k2, k3, k4, k5, k6, k7, k8, k9, k10, k11, k12⟩ := h1.cells
    clear h1 H0
    go_wp2_with fail
    refine (CH.out _ H1.out.bw).mono ?_
    rintro e W2 ⟨rfl, d2⟩
    have h2 := H1.out.later d2
    clear d2
    have H2 : Hid (Wr w p v (0) ([]) W2) := h2
    clear k0 k1 k2 k3 k4 k5 k6 k7 k8 k9 k10 k11 k12
    obtain ⟨k0, k1, k2, k3, k4, k5, k6, k7, k8, k9, k10, k11, k12⟩ := h2.cells
    clear h2 H1
    go_wp2_with fail
    refine (H2.out.ws (mk (putT p.hk p.hn p.ha)) (by omega)).mono ?_
    rintro e W3 ⟨rfl, h3⟩
    have H3 : Hid (Wr w p v (0 + ((mk (putT p.hk p.hn p.ha))).size) (([]) ++ putT p.hk p.hn p.ha) W3) := h3
    clear k0 k1 k2 k3 k4 k5 k6 k7 k8 k9 k10 k11 k12
    obtain ⟨k0, k1, k2, k3, k4, k5, k6, k7, k8, k9, k10, k11, k12⟩ := h3.cells
    clear h3 H2
    go_wp2_with fail
    refine (H3.out.wb 58 _ rfl (by omega)).mono ?_
    rintro e W4 ⟨rfl, h4⟩
    have H4 : Hid (Wr w p v (0 + ((mk (putT p.hk p.hn p.ha))).size + 1) ((([]) ++ putT p.hk p.hn p.ha) ++ [58]) W4) := h4
    clear k0 k1 k2 k3 k4 k5 k6 k7 k8 k9 k10 k11 k12
    obtain ⟨k0, k1, k2, k3, k4, k5, k6, k7, k8, k9, k10, k11, k12⟩ := h4.cells
    clear h4 H3
    go_wp2_with fail
    refine (CIH.out _ H4.out.bw).mono ?_
    rintro e W5 ⟨rfl, d5⟩
    have h5 := H4.out.later d5
    clear d5
    have H5 : Hid (Wr w p v (0 + ((mk (putT p.hk p.hn p.ha))).size + 1) ((([]) ++ putT p.hk p.hn p.ha) ++ [58]) W5) := h5
    clear k0 k1 k2 k3 k4 k5 k6 k7 k8 k9 k10 k11 k12
    obtain ⟨k0, k1, k2, k3, k4, k5, k6, k7, k8, k9, k10, k11, k12⟩ := h5.cells
    clear h5 H4
    go_wp2_with fail
    refine (H5.out.ws (mk (dg p.po)) (by omega)).mono ?_
    rintro e W6 ⟨rfl, h6⟩
    have H6 : Hid (Wr w p v (0 + ((mk (putT p.hk p.hn p.ha))).size + 1 + ((mk (dg p.po))).size) (((([]) ++ putT p.hk p.hn p.ha) ++ [58]) ++ dg p.po) W6) := h6
    clear k0 k1 k2 k3 k4 k5 k6 k7 k8 k9 k10 k11 k12
    obtain ⟨k0, k1, k2, k3, k4, k5, k6, k7, k8, k9, k10, k11, k12⟩ := h6.cells
    clear h6 H5
    go_wp2_with fail
    refine H6.out.str.mono ?_
    rintro e W7 ⟨rfl, b⟩
    go_wp2
    go_ret
    refine ⟨?_, b⟩
    rw [HT.out, HW.out, HA.out, HP.out, HEU.out]
    simp [mk]
   ·have HP : Hid (porL p = []) := by show _ = _; unfold porL; rw [if_neg (by omega)]
    clear CI HDG
    have HW : Hid (pwL p = []) := by show _ = _; unfold pwL; rw [if_pos hpw]
    have HA : Hid (atL' p = []) := by show _ = _; unfold atL'; rw [if_pos ⟨hus, hpw⟩]
    have heu := text_none _ hus
    have HEU : Hid (p.us.data.toList = []) := hus
    rw [heu] at H0 k1
    clear hus
    have hew := text_none _ hpw
    rw [hew] at H0 k2
    clear hpw
    go_enter Tryz.func96, Tryz.ntmps96
    go_wp2_with fail
    refine (H0.out.ws (ByteArray.mk #[]) (by decide)).mono ?_
    rintro e W1 ⟨rfl, h1⟩
    have H1 : Hid (Wr w p v (0) ([]) W1) := h1
    clear k0 k1 k2 k3 k4 k5 k6 k7 k8 k9 k10 k11 k12
    obtain ⟨k0, k1, k2, k3, k4, k5, k6, k7, k8, k9, k10, k11, k12⟩ := h1.cells
    clear h1 H0
    go_wp2_with fail
    refine (CH.out _ H1.out.bw).mono ?_
    rintro e W2 ⟨rfl, d2⟩
    have h2 := H1.out.later d2
    clear d2
    have H2 : Hid (Wr w p v (0) ([]) W2) := h2
    clear k0 k1 k2 k3 k4 k5 k6 k7 k8 k9 k10 k11 k12
    obtain ⟨k0, k1, k2, k3, k4, k5, k6, k7, k8, k9, k10, k11, k12⟩ := h2.cells
    clear h2 H1
    go_wp2_with fail
    refine (H2.out.ws (mk (putT p.hk p.hn p.ha)) (by omega)).mono ?_
    rintro e W3 ⟨rfl, h3⟩
    have H3 : Hid (Wr w p v (0 + ((mk (putT p.hk p.hn p.ha))).size) (([]) ++ putT p.hk p.hn p.ha) W3) := h3
    clear k0 k1 k2 k3 k4 k5 k6 k7 k8 k9 k10 k11 k12
    obtain ⟨k0, k1, k2, k3, k4, k5, k6, k7, k8, k9, k10, k11, k12⟩ := h3.cells
    clear h3 H2
    go_wp2_with fail
    refine H3.out.str.mono ?_
    rintro e W4 ⟨rfl, b⟩
    go_wp2
    go_ret
    refine ⟨?_, b⟩
    rw [HT.out, HW.out, HA.out, HP.out, HEU.out]
    simp [mk]
  ·by_cases hpo : 0 ≤ p.po
   ·have hdg := HDG.out hpo
    have CIT := CI.out hpo
    have CIH : Hid (∀ W, Below w.heap.size w W → Calls Tryz.prog 106 #[.int .i64 p.po] W fun e w' => e = .returned (.string (mk (dg p.po))) ∧ Below W.heap.size W w') := CIT
    clear CIT
    have HP : Hid (porL p = 58 :: dg p.po) := by show _ = _; unfold porL; rw [if_pos hpo]
    clear CI HDG
    have HW : Hid (pwL p = []) := by show _ = _; unfold pwL; rw [if_pos hpw]
    have HA : Hid (atL' p = [64]) := by show _ = _; unfold atL'; rw [if_neg (fun h => hus h.1)]
    obtain ⟨hu1', hu2'⟩ := text_full _ hus
    clear hus
    have hew := text_none _ hpw
    rw [hew] at H0 k2
    clear hpw
    go_enter Tryz.func96, Tryz.ntmps96
    go_wp2_with fail
    refine (H0.out.ws p.us (by omega)).mono ?_
    rintro e W1 ⟨rfl, h1⟩
    have H1 : Hid (Wr w p v (0 + (p.us).size) (([]) ++ p.us.data.toList) W1) := h1
    clear k0 k1 k2 k3 k4 k5 k6 k7 k8 k9 k10 k11 k12
    obtain ⟨k0, k1, k2, k3, k4, k5, k6, k7, k8, k9, k10, k11, k12⟩ := h1.cells
    clear h1 H0
    go_wp2_with fail
    refine (H1.out.wb 64 _ rfl (by omega)).mono ?_
    rintro e W2 ⟨rfl, h2⟩
    have H2 : Hid (Wr w p v (0 + (p.us).size + 1) ((([]) ++ p.us.data.toList) ++ [64]) W2) := h2
    clear k0 k1 k2 k3 k4 k5 k6 k7 k8 k9 k10 k11 k12
    obtain ⟨k0, k1, k2, k3, k4, k5, k6, k7, k8, k9, k10, k11, k12⟩ := h2.cells
    clear h2 H1
    go_wp2_with fail
    refine (CH.out _ H2.out.bw).mono ?_
    rintro e W3 ⟨rfl, d3⟩
    have h3 := H2.out.later d3
    clear d3
    have H3 : Hid (Wr w p v (0 + (p.us).size + 1) ((([]) ++ p.us.data.toList) ++ [64]) W3) := h3
    clear k0 k1 k2 k3 k4 k5 k6 k7 k8 k9 k10 k11 k12
    obtain ⟨k0, k1, k2, k3, k4, k5, k6, k7, k8, k9, k10, k11, k12⟩ := h3.cells
    clear h3 H2
    go_wp2_with fail
    refine (H3.out.ws (mk (putT p.hk p.hn p.ha)) (by omega)).mono ?_
    rintro e W4 ⟨rfl, h4⟩
    have H4 : Hid (Wr w p v (0 + (p.us).size + 1 + ((mk (putT p.hk p.hn p.ha))).size) (((([]) ++ p.us.data.toList) ++ [64]) ++ putT p.hk p.hn p.ha) W4) := h4
    clear k0 k1 k2 k3 k4 k5 k6 k7 k8 k9 k10 k11 k12
    obtain ⟨k0, k1, k2, k3, k4, k5, k6, k7, k8, k9, k10, k11, k12⟩ := h4.cells
    clear h4 H3
    go_wp2_with fail
    refine (H4.out.wb 58 _ rfl (by omega)).mono ?_
    rintro e W5 ⟨rfl, h5⟩
    have H5 : Hid (Wr w p v (0 + (p.us).size + 1 + ((mk (putT p.hk p.hn p.ha))).size + 1) ((((([]) ++ p.us.data.toList) ++ [64]) ++ putT p.hk p.hn p.ha) ++ [58]) W5) := h5
    clear k0 k1 k2 k3 k4 k5 k6 k7 k8 k9 k10 k11 k12
    obtain ⟨k0, k1, k2, k3, k4, k5, k6, k7, k8, k9, k10, k11, k12⟩ := h5.cells
    clear h5 H4
    go_wp2_with fail
    refine (CIH.out _ H5.out.bw).mono ?_
    rintro e W6 ⟨rfl, d6⟩
    have h6 := H5.out.later d6
    clear d6
    have H6 : Hid (Wr w p v (0 + (p.us).size + 1 + ((mk (putT p.hk p.hn p.ha))).size + 1) ((((([]) ++ p.us.data.toList) ++ [64]) ++ putT p.hk p.hn p.ha) ++ [58]) W6) := h6
    clear k0 k1 k2 k3 k4 k5 k6 k7 k8 k9 k10 k11 k12
    obtain ⟨k0, k1, k2, k3, k4, k5, k6, k7, k8, k9, k10, k11, k12⟩ := h6.cells
    clear h6 H5
    go_wp2_with fail
    refine (H6.out.ws (mk (dg p.po)) (by omega)).mono ?_
    rintro e W7 ⟨rfl, h7⟩
    have H7 : Hid (Wr w p v (0 + (p.us).size + 1 + ((mk (putT p.hk p.hn p.ha))).size + 1 + ((mk (dg p.po))).size) (((((([]) ++ p.us.data.toList) ++ [64]) ++ putT p.hk p.hn p.ha) ++ [58]) ++ dg p.po) W7) := h7
    clear k0 k1 k2 k3 k4 k5 k6 k7 k8 k9 k10 k11 k12
    obtain ⟨k0, k1, k2, k3, k4, k5, k6, k7, k8, k9, k10, k11, k12⟩ := h7.cells
    clear h7 H6
    go_wp2_with fail
    refine H7.out.str.mono ?_
    rintro e W8 ⟨rfl, b⟩
    go_wp2
    go_ret
    refine ⟨?_, b⟩
    rw [HT.out, HW.out, HA.out, HP.out]
    simp [mk]
   ·have HP : Hid (porL p = []) := by show _ = _; unfold porL; rw [if_neg (by omega)]
    clear CI HDG
    have HW : Hid (pwL p = []) := by show _ = _; unfold pwL; rw [if_pos hpw]
    have HA : Hid (atL' p = [64]) := by show _ = _; unfold atL'; rw [if_neg (fun h => hus h.1)]
    obtain ⟨hu1', hu2'⟩ := text_full _ hus
    clear hus
    have hew := text_none _ hpw
    rw [hew] at H0 k2
    clear hpw
    go_enter Tryz.func96, Tryz.ntmps96
    go_wp2_with fail
    refine (H0.out.ws p.us (by omega)).mono ?_
    rintro e W1 ⟨rfl, h1⟩
    have H1 : Hid (Wr w p v (0 + (p.us).size) (([]) ++ p.us.data.toList) W1) := h1
    clear k0 k1 k2 k3 k4 k5 k6 k7 k8 k9 k10 k11 k12
    obtain ⟨k0, k1, k2, k3, k4, k5, k6, k7, k8, k9, k10, k11, k12⟩ := h1.cells
    clear h1 H0
    go_wp2_with fail
    refine (H1.out.wb 64 _ rfl (by omega)).mono ?_
    rintro e W2 ⟨rfl, h2⟩
    have H2 : Hid (Wr w p v (0 + (p.us).size + 1) ((([]) ++ p.us.data.toList) ++ [64]) W2) := h2
    clear k0 k1 k2 k3 k4 k5 k6 k7 k8 k9 k10 k11 k12
    obtain ⟨k0, k1, k2, k3, k4, k5, k6, k7, k8, k9, k10, k11, k12⟩ := h2.cells
    clear h2 H1
    go_wp2_with fail
    refine (CH.out _ H2.out.bw).mono ?_
    rintro e W3 ⟨rfl, d3⟩
    have h3 := H2.out.later d3
    clear d3
    have H3 : Hid (Wr w p v (0 + (p.us).size + 1) ((([]) ++ p.us.data.toList) ++ [64]) W3) := h3
    clear k0 k1 k2 k3 k4 k5 k6 k7 k8 k9 k10 k11 k12
    obtain ⟨k0, k1, k2, k3, k4, k5, k6, k7, k8, k9, k10, k11, k12⟩ := h3.cells
    clear h3 H2
    go_wp2_with fail
    refine (H3.out.ws (mk (putT p.hk p.hn p.ha)) (by omega)).mono ?_
    rintro e W4 ⟨rfl, h4⟩
    have H4 : Hid (Wr w p v (0 + (p.us).size + 1 + ((mk (putT p.hk p.hn p.ha))).size) (((([]) ++ p.us.data.toList) ++ [64]) ++ putT p.hk p.hn p.ha) W4) := h4
    clear k0 k1 k2 k3 k4 k5 k6 k7 k8 k9 k10 k11 k12
    obtain ⟨k0, k1, k2, k3, k4, k5, k6, k7, k8, k9, k10, k11, k12⟩ := h4.cells
    clear h4 H3
    go_wp2_with fail
    refine H4.out.str.mono ?_
    rintro e W5 ⟨rfl, b⟩
    go_wp2
    go_ret
    refine ⟨?_, b⟩
    rw [HT.out, HW.out, HA.out, HP.out]
    simp [mk]
 ·by_cases hus : p.us.data.toList = []
  ·by_cases hpo : 0 ≤ p.po
   ·have hdg := HDG.out hpo
    have CIT := CI.out hpo
    have CIH : Hid (∀ W, Below w.heap.size w W → Calls Tryz.prog 106 #[.int .i64 p.po] W fun e w' => e = .returned (.string (mk (dg p.po))) ∧ Below W.heap.size W w') := CIT
    clear CIT
    have HP : Hid (porL p = 58 :: dg p.po) := by show _ = _; unfold porL; rw [if_pos hpo]
    clear CI HDG
    have HW : Hid (pwL p = 58 :: p.pw.data.toList) := by show _ = _; unfold pwL; rw [if_neg hpw]
    have HA : Hid (atL' p = [64]) := by show _ = _; unfold atL'; rw [if_neg (fun h => hpw h.2)]
    obtain ⟨hw1, hw2⟩ := text_full _ hpw
    clear hpw
    have heu := text_none _ hus
    have HEU : Hid (p.us.data.toList = []) := hus
    rw [heu] at H0 k1
    clear hus
    go_enter Tryz.func96, Tryz.ntmps96
    go_wp2_with fail
    refine (H0.out.ws (ByteArray.mk #[]) (by decide)).mono ?_
    rintro e W1 ⟨rfl, h1⟩
    have H1 : Hid (Wr w p v (0) ([]) W1) := h1
    clear k0 k1 k2 k3 k4 k5 k6 k7 k8 k9 k10 k11 k12
    obtain ⟨k0, k1, k2, k3, k4, k5, k6, k7, k8, k9, k10, k11, k12⟩ := h1.cells
    clear h1 H0
    go_wp2_with fail
    refine (H1.out.wb 58 _ rfl (by omega)).mono ?_
    rintro e W2 ⟨rfl, h2⟩
    have H2 : Hid (Wr w p v (0 + 1) (([]) ++ [58]) W2) := h2
    clear k0 k1 k2 k3 k4 k5 k6 k7 k8 k9 k10 k11 k12
    obtain ⟨k0, k1, k2, k3, k4, k5, k6, k7, k8, k9, k10, k11, k12⟩ := h2.cells
    clear h2 H1
    go_wp2_with fail
    refine (H2.out.ws p.pw (by omega)).mono ?_
    rintro e W3 ⟨rfl, h3⟩
    have H3 : Hid (Wr w p v (0 + 1 + (p.pw).size) ((([]) ++ [58]) ++ p.pw.data.toList) W3) := h3
    clear k0 k1 k2 k3 k4 k5 k6 k7 k8 k9 k10 k11 k12
    obtain ⟨k0, k1, k2, k3, k4, k5, k6, k7, k8, k9, k10, k11, k12⟩ := h3.cells
    clear h3 H2
    go_wp2_with fail
    refine (H3.out.wb 64 _ rfl (by omega)).mono ?_
    rintro e W4 ⟨rfl, h4⟩
    have H4 : Hid (Wr w p v (0 + 1 + (p.pw).size + 1) (((([]) ++ [58]) ++ p.pw.data.toList) ++ [64]) W4) := h4
    clear k0 k1 k2 k3 k4 k5 k6 k7 k8 k9 k10 k11 k12
    obtain ⟨k0, k1, k2, k3, k4, k5, k6, k7, k8, k9, k10, k11, k12⟩ := h4.cells
    clear h4 H3
    go_wp2_with fail
    refine (CH.out _ H4.out.bw).mono ?_
    rintro e W5 ⟨rfl, d5⟩
    have h5 := H4.out.later d5
    clear d5
    have H5 : Hid (Wr w p v (0 + 1 + (p.pw).size + 1) (((([]) ++ [58]) ++ p.pw.data.toList) ++ [64]) W5) := h5
    clear k0 k1 k2 k3 k4 k5 k6 k7 k8 k9 k10 k11 k12
    obtain ⟨k0, k1, k2, k3, k4, k5, k6, k7, k8, k9, k10, k11, k12⟩ := h5.cells
    clear h5 H4
    go_wp2_with fail
    refine (H5.out.ws (mk (putT p.hk p.hn p.ha)) (by omega)).mono ?_
    rintro e W6 ⟨rfl, h6⟩
    have H6 : Hid (Wr w p v (0 + 1 + (p.pw).size + 1 + ((mk (putT p.hk p.hn p.ha))).size) ((((([]) ++ [58]) ++ p.pw.data.toList) ++ [64]) ++ putT p.hk p.hn p.ha) W6) := h6
    clear k0 k1 k2 k3 k4 k5 k6 k7 k8 k9 k10 k11 k12
    obtain ⟨k0, k1, k2, k3, k4, k5, k6, k7, k8, k9, k10, k11, k12⟩ := h6.cells
    clear h6 H5
    go_wp2_with fail
    refine (H6.out.wb 58 _ rfl (by omega)).mono ?_
    rintro e W7 ⟨rfl, h7⟩
    have H7 : Hid (Wr w p v (0 + 1 + (p.pw).size + 1 + ((mk (putT p.hk p.hn p.ha))).size + 1) (((((([]) ++ [58]) ++ p.pw.data.toList) ++ [64]) ++ putT p.hk p.hn p.ha) ++ [58]) W7) := h7
    clear k0 k1 k2 k3 k4 k5 k6 k7 k8 k9 k10 k11 k12
    obtain ⟨k0, k1, k2, k3, k4, k5, k6, k7, k8, k9, k10, k11, k12⟩ := h7.cells
    clear h7 H6
    go_wp2_with fail
    refine (CIH.out _ H7.out.bw).mono ?_
    rintro e W8 ⟨rfl, d8⟩
    have h8 := H7.out.later d8
    clear d8
    have H8 : Hid (Wr w p v (0 + 1 + (p.pw).size + 1 + ((mk (putT p.hk p.hn p.ha))).size + 1) (((((([]) ++ [58]) ++ p.pw.data.toList) ++ [64]) ++ putT p.hk p.hn p.ha) ++ [58]) W8) := h8
    clear k0 k1 k2 k3 k4 k5 k6 k7 k8 k9 k10 k11 k12
    obtain ⟨k0, k1, k2, k3, k4, k5, k6, k7, k8, k9, k10, k11, k12⟩ := h8.cells
    clear h8 H7
    go_wp2_with fail
    refine (H8.out.ws (mk (dg p.po)) (by omega)).mono ?_
    rintro e W9 ⟨rfl, h9⟩
    have H9 : Hid (Wr w p v (0 + 1 + (p.pw).size + 1 + ((mk (putT p.hk p.hn p.ha))).size + 1 + ((mk (dg p.po))).size) ((((((([]) ++ [58]) ++ p.pw.data.toList) ++ [64]) ++ putT p.hk p.hn p.ha) ++ [58]) ++ dg p.po) W9) := h9
    clear k0 k1 k2 k3 k4 k5 k6 k7 k8 k9 k10 k11 k12
    obtain ⟨k0, k1, k2, k3, k4, k5, k6, k7, k8, k9, k10, k11, k12⟩ := h9.cells
    clear h9 H8
    go_wp2_with fail
    refine H9.out.str.mono ?_
    rintro e W10 ⟨rfl, b⟩
    go_wp2
    go_ret
    refine ⟨?_, b⟩
    rw [HT.out, HW.out, HA.out, HP.out, HEU.out]
    simp [mk]
   ·have HP : Hid (porL p = []) := by show _ = _; unfold porL; rw [if_neg (by omega)]
    clear CI HDG
    have HW : Hid (pwL p = 58 :: p.pw.data.toList) := by show _ = _; unfold pwL; rw [if_neg hpw]
    have HA : Hid (atL' p = [64]) := by show _ = _; unfold atL'; rw [if_neg (fun h => hpw h.2)]
    obtain ⟨hw1, hw2⟩ := text_full _ hpw
    clear hpw
    have heu := text_none _ hus
    have HEU : Hid (p.us.data.toList = []) := hus
    rw [heu] at H0 k1
    clear hus
    go_enter Tryz.func96, Tryz.ntmps96
    go_wp2_with fail
    refine (H0.out.ws (ByteArray.mk #[]) (by decide)).mono ?_
    rintro e W1 ⟨rfl, h1⟩
    have H1 : Hid (Wr w p v (0) ([]) W1) := h1
    clear k0 k1 k2 k3 k4 k5 k6 k7 k8 k9 k10 k11 k12
    obtain ⟨k0, k1, k2, k3, k4, k5, k6, k7, k8, k9, k10, k11, k12⟩ := h1.cells
    clear h1 H0
    go_wp2_with fail
    refine (H1.out.wb 58 _ rfl (by omega)).mono ?_
    rintro e W2 ⟨rfl, h2⟩
    have H2 : Hid (Wr w p v (0 + 1) (([]) ++ [58]) W2) := h2
    clear k0 k1 k2 k3 k4 k5 k6 k7 k8 k9 k10 k11 k12
    obtain ⟨k0, k1, k2, k3, k4, k5, k6, k7, k8, k9, k10, k11, k12⟩ := h2.cells
    clear h2 H1
    go_wp2_with fail
    refine (H2.out.ws p.pw (by omega)).mono ?_
    rintro e W3 ⟨rfl, h3⟩
    have H3 : Hid (Wr w p v (0 + 1 + (p.pw).size) ((([]) ++ [58]) ++ p.pw.data.toList) W3) := h3
    clear k0 k1 k2 k3 k4 k5 k6 k7 k8 k9 k10 k11 k12
    obtain ⟨k0, k1, k2, k3, k4, k5, k6, k7, k8, k9, k10, k11, k12⟩ := h3.cells
    clear h3 H2
    go_wp2_with fail
    refine (H3.out.wb 64 _ rfl (by omega)).mono ?_
    rintro e W4 ⟨rfl, h4⟩
    have H4 : Hid (Wr w p v (0 + 1 + (p.pw).size + 1) (((([]) ++ [58]) ++ p.pw.data.toList) ++ [64]) W4) := h4
    clear k0 k1 k2 k3 k4 k5 k6 k7 k8 k9 k10 k11 k12
    obtain ⟨k0, k1, k2, k3, k4, k5, k6, k7, k8, k9, k10, k11, k12⟩ := h4.cells
    clear h4 H3
    go_wp2_with fail
    refine (CH.out _ H4.out.bw).mono ?_
    rintro e W5 ⟨rfl, d5⟩
    have h5 := H4.out.later d5
    clear d5
    have H5 : Hid (Wr w p v (0 + 1 + (p.pw).size + 1) (((([]) ++ [58]) ++ p.pw.data.toList) ++ [64]) W5) := h5
    clear k0 k1 k2 k3 k4 k5 k6 k7 k8 k9 k10 k11 k12
    obtain ⟨k0, k1, k2, k3, k4, k5, k6, k7, k8, k9, k10, k11, k12⟩ := h5.cells
    clear h5 H4
    go_wp2_with fail
    refine (H5.out.ws (mk (putT p.hk p.hn p.ha)) (by omega)).mono ?_
    rintro e W6 ⟨rfl, h6⟩
    have H6 : Hid (Wr w p v (0 + 1 + (p.pw).size + 1 + ((mk (putT p.hk p.hn p.ha))).size) ((((([]) ++ [58]) ++ p.pw.data.toList) ++ [64]) ++ putT p.hk p.hn p.ha) W6) := h6
    clear k0 k1 k2 k3 k4 k5 k6 k7 k8 k9 k10 k11 k12
    obtain ⟨k0, k1, k2, k3, k4, k5, k6, k7, k8, k9, k10, k11, k12⟩ := h6.cells
    clear h6 H5
    go_wp2_with fail
    refine H6.out.str.mono ?_
    rintro e W7 ⟨rfl, b⟩
    go_wp2
    go_ret
    refine ⟨?_, b⟩
    rw [HT.out, HW.out, HA.out, HP.out, HEU.out]
    simp [mk]
  ·by_cases hpo : 0 ≤ p.po
   ·have hdg := HDG.out hpo
    have CIT := CI.out hpo
    have CIH : Hid (∀ W, Below w.heap.size w W → Calls Tryz.prog 106 #[.int .i64 p.po] W fun e w' => e = .returned (.string (mk (dg p.po))) ∧ Below W.heap.size W w') := CIT
    clear CIT
    have HP : Hid (porL p = 58 :: dg p.po) := by show _ = _; unfold porL; rw [if_pos hpo]
    clear CI HDG
    have HW : Hid (pwL p = 58 :: p.pw.data.toList) := by show _ = _; unfold pwL; rw [if_neg hpw]
    have HA : Hid (atL' p = [64]) := by show _ = _; unfold atL'; rw [if_neg (fun h => hpw h.2)]
    obtain ⟨hw1, hw2⟩ := text_full _ hpw
    clear hpw
    obtain ⟨hu1', hu2'⟩ := text_full _ hus
    clear hus
    go_enter Tryz.func96, Tryz.ntmps96
    go_wp2_with fail
    refine (H0.out.ws p.us (by omega)).mono ?_
    rintro e W1 ⟨rfl, h1⟩
    have H1 : Hid (Wr w p v (0 + (p.us).size) (([]) ++ p.us.data.toList) W1) := h1
    clear k0 k1 k2 k3 k4 k5 k6 k7 k8 k9 k10 k11 k12
    obtain ⟨k0, k1, k2, k3, k4, k5, k6, k7, k8, k9, k10, k11, k12⟩ := h1.cells
    clear h1 H0
    go_wp2_with fail
    refine (H1.out.wb 58 _ rfl (by omega)).mono ?_
    rintro e W2 ⟨rfl, h2⟩
    have H2 : Hid (Wr w p v (0 + (p.us).size + 1) ((([]) ++ p.us.data.toList) ++ [58]) W2) := h2
    clear k0 k1 k2 k3 k4 k5 k6 k7 k8 k9 k10 k11 k12
    obtain ⟨k0, k1, k2, k3, k4, k5, k6, k7, k8, k9, k10, k11, k12⟩ := h2.cells
    clear h2 H1
    go_wp2_with fail
    refine (H2.out.ws p.pw (by omega)).mono ?_
    rintro e W3 ⟨rfl, h3⟩
    have H3 : Hid (Wr w p v (0 + (p.us).size + 1 + (p.pw).size) (((([]) ++ p.us.data.toList) ++ [58]) ++ p.pw.data.toList) W3) := h3
    clear k0 k1 k2 k3 k4 k5 k6 k7 k8 k9 k10 k11 k12
    obtain ⟨k0, k1, k2, k3, k4, k5, k6, k7, k8, k9, k10, k11, k12⟩ := h3.cells
    clear h3 H2
    go_wp2_with fail
    refine (H3.out.wb 64 _ rfl (by omega)).mono ?_
    rintro e W4 ⟨rfl, h4⟩
    have H4 : Hid (Wr w p v (0 + (p.us).size + 1 + (p.pw).size + 1) ((((([]) ++ p.us.data.toList) ++ [58]) ++ p.pw.data.toList) ++ [64]) W4) := h4
    clear k0 k1 k2 k3 k4 k5 k6 k7 k8 k9 k10 k11 k12
    obtain ⟨k0, k1, k2, k3, k4, k5, k6, k7, k8, k9, k10, k11, k12⟩ := h4.cells
    clear h4 H3
    go_wp2_with fail
    refine (CH.out _ H4.out.bw).mono ?_
    rintro e W5 ⟨rfl, d5⟩
    have h5 := H4.out.later d5
    clear d5
    have H5 : Hid (Wr w p v (0 + (p.us).size + 1 + (p.pw).size + 1) ((((([]) ++ p.us.data.toList) ++ [58]) ++ p.pw.data.toList) ++ [64]) W5) := h5
    clear k0 k1 k2 k3 k4 k5 k6 k7 k8 k9 k10 k11 k12
    obtain ⟨k0, k1, k2, k3, k4, k5, k6, k7, k8, k9, k10, k11, k12⟩ := h5.cells
    clear h5 H4
    go_wp2_with fail
    refine (H5.out.ws (mk (putT p.hk p.hn p.ha)) (by omega)).mono ?_
    rintro e W6 ⟨rfl, h6⟩
    have H6 : Hid (Wr w p v (0 + (p.us).size + 1 + (p.pw).size + 1 + ((mk (putT p.hk p.hn p.ha))).size) (((((([]) ++ p.us.data.toList) ++ [58]) ++ p.pw.data.toList) ++ [64]) ++ putT p.hk p.hn p.ha) W6) := h6
    clear k0 k1 k2 k3 k4 k5 k6 k7 k8 k9 k10 k11 k12
    obtain ⟨k0, k1, k2, k3, k4, k5, k6, k7, k8, k9, k10, k11, k12⟩ := h6.cells
    clear h6 H5
    go_wp2_with fail
    refine (H6.out.wb 58 _ rfl (by omega)).mono ?_
    rintro e W7 ⟨rfl, h7⟩
    have H7 : Hid (Wr w p v (0 + (p.us).size + 1 + (p.pw).size + 1 + ((mk (putT p.hk p.hn p.ha))).size + 1) ((((((([]) ++ p.us.data.toList) ++ [58]) ++ p.pw.data.toList) ++ [64]) ++ putT p.hk p.hn p.ha) ++ [58]) W7) := h7
    clear k0 k1 k2 k3 k4 k5 k6 k7 k8 k9 k10 k11 k12
    obtain ⟨k0, k1, k2, k3, k4, k5, k6, k7, k8, k9, k10, k11, k12⟩ := h7.cells
    clear h7 H6
    go_wp2_with fail
    refine (CIH.out _ H7.out.bw).mono ?_
    rintro e W8 ⟨rfl, d8⟩
    have h8 := H7.out.later d8
    clear d8
    have H8 : Hid (Wr w p v (0 + (p.us).size + 1 + (p.pw).size + 1 + ((mk (putT p.hk p.hn p.ha))).size + 1) ((((((([]) ++ p.us.data.toList) ++ [58]) ++ p.pw.data.toList) ++ [64]) ++ putT p.hk p.hn p.ha) ++ [58]) W8) := h8
    clear k0 k1 k2 k3 k4 k5 k6 k7 k8 k9 k10 k11 k12
    obtain ⟨k0, k1, k2, k3, k4, k5, k6, k7, k8, k9, k10, k11, k12⟩ := h8.cells
    clear h8 H7
    go_wp2_with fail
    refine (H8.out.ws (mk (dg p.po)) (by omega)).mono ?_
    rintro e W9 ⟨rfl, h9⟩
    have H9 : Hid (Wr w p v (0 + (p.us).size + 1 + (p.pw).size + 1 + ((mk (putT p.hk p.hn p.ha))).size + 1 + ((mk (dg p.po))).size) (((((((([]) ++ p.us.data.toList) ++ [58]) ++ p.pw.data.toList) ++ [64]) ++ putT p.hk p.hn p.ha) ++ [58]) ++ dg p.po) W9) := h9
    clear k0 k1 k2 k3 k4 k5 k6 k7 k8 k9 k10 k11 k12
    obtain ⟨k0, k1, k2, k3, k4, k5, k6, k7, k8, k9, k10, k11, k12⟩ := h9.cells
    clear h9 H8
    go_wp2_with fail
    refine H9.out.str.mono ?_
    rintro e W10 ⟨rfl, b⟩
    go_wp2
    go_ret
    refine ⟨?_, b⟩
    rw [HT.out, HW.out, HA.out, HP.out]
    simp [mk]
   ·have HP : Hid (porL p = []) := by show _ = _; unfold porL; rw [if_neg (by omega)]
    clear CI HDG
    have HW : Hid (pwL p = 58 :: p.pw.data.toList) := by show _ = _; unfold pwL; rw [if_neg hpw]
    have HA : Hid (atL' p = [64]) := by show _ = _; unfold atL'; rw [if_neg (fun h => hpw h.2)]
    obtain ⟨hw1, hw2⟩ := text_full _ hpw
    clear hpw
    obtain ⟨hu1', hu2'⟩ := text_full _ hus
    clear hus
    go_enter Tryz.func96, Tryz.ntmps96
    go_wp2_with fail
    refine (H0.out.ws p.us (by omega)).mono ?_
    rintro e W1 ⟨rfl, h1⟩
    have H1 : Hid (Wr w p v (0 + (p.us).size) (([]) ++ p.us.data.toList) W1) := h1
    clear k0 k1 k2 k3 k4 k5 k6 k7 k8 k9 k10 k11 k12
    obtain ⟨k0, k1, k2, k3, k4, k5, k6, k7, k8, k9, k10, k11, k12⟩ := h1.cells
    clear h1 H0
    go_wp2_with fail
    refine (H1.out.wb 58 _ rfl (by omega)).mono ?_
    rintro e W2 ⟨rfl, h2⟩
    have H2 : Hid (Wr w p v (0 + (p.us).size + 1) ((([]) ++ p.us.data.toList) ++ [58]) W2) := h2
    clear k0 k1 k2 k3 k4 k5 k6 k7 k8 k9 k10 k11 k12
    obtain ⟨k0, k1, k2, k3, k4, k5, k6, k7, k8, k9, k10, k11, k12⟩ := h2.cells
    clear h2 H1
    go_wp2_with fail
    refine (H2.out.ws p.pw (by omega)).mono ?_
    rintro e W3 ⟨rfl, h3⟩
    have H3 : Hid (Wr w p v (0 + (p.us).size + 1 + (p.pw).size) (((([]) ++ p.us.data.toList) ++ [58]) ++ p.pw.data.toList) W3) := h3
    clear k0 k1 k2 k3 k4 k5 k6 k7 k8 k9 k10 k11 k12
    obtain ⟨k0, k1, k2, k3, k4, k5, k6, k7, k8, k9, k10, k11, k12⟩ := h3.cells
    clear h3 H2
    go_wp2_with fail
    refine (H3.out.wb 64 _ rfl (by omega)).mono ?_
    rintro e W4 ⟨rfl, h4⟩
    have H4 : Hid (Wr w p v (0 + (p.us).size + 1 + (p.pw).size + 1) ((((([]) ++ p.us.data.toList) ++ [58]) ++ p.pw.data.toList) ++ [64]) W4) := h4
    clear k0 k1 k2 k3 k4 k5 k6 k7 k8 k9 k10 k11 k12
    obtain ⟨k0, k1, k2, k3, k4, k5, k6, k7, k8, k9, k10, k11, k12⟩ := h4.cells
    clear h4 H3
    go_wp2_with fail
    refine (CH.out _ H4.out.bw).mono ?_
    rintro e W5 ⟨rfl, d5⟩
    have h5 := H4.out.later d5
    clear d5
    have H5 : Hid (Wr w p v (0 + (p.us).size + 1 + (p.pw).size + 1) ((((([]) ++ p.us.data.toList) ++ [58]) ++ p.pw.data.toList) ++ [64]) W5) := h5
    clear k0 k1 k2 k3 k4 k5 k6 k7 k8 k9 k10 k11 k12
    obtain ⟨k0, k1, k2, k3, k4, k5, k6, k7, k8, k9, k10, k11, k12⟩ := h5.cells
    clear h5 H4
    go_wp2_with fail
    refine (H5.out.ws (mk (putT p.hk p.hn p.ha)) (by omega)).mono ?_
    rintro e W6 ⟨rfl, h6⟩
    have H6 : Hid (Wr w p v (0 + (p.us).size + 1 + (p.pw).size + 1 + ((mk (putT p.hk p.hn p.ha))).size) (((((([]) ++ p.us.data.toList) ++ [58]) ++ p.pw.data.toList) ++ [64]) ++ putT p.hk p.hn p.ha) W6) := h6
    clear k0 k1 k2 k3 k4 k5 k6 k7 k8 k9 k10 k11 k12
    obtain ⟨k0, k1, k2, k3, k4, k5, k6, k7, k8, k9, k10, k11, k12⟩ := h6.cells
    clear h6 H5
    go_wp2_with fail
    refine H6.out.str.mono ?_
    rintro e W7 ⟨rfl, b⟩
    go_wp2
    go_ret
    refine ⟨?_, b⟩
    rw [HT.out, HW.out, HA.out, HP.out]
    simp [mk]
end Go.Proofs.YtnfhajhdpdidlaaGreatDoor
end
section
namespace Go.Proofs.YtnfhajhdpdidlaaGreatDoor
open Go.RowKit Go.Shelf
theorem autL_len (p : P) (hpo : p.po ≤ 9223372036854775807) : (autL p).length ≤ p.us.size + p.pw.size + 100 := by
 have h1 := text_len p.us
 have h2 := text_len p.pw
 have h3 := putT_len p.hk p.hn p.ha
 have h4 : (pwL p).length ≤ p.pw.size + 1 := by unfold pwL; split <;> simp <;> omega
 have h5 : (atL' p).length ≤ 1 := by unfold atL'; split <;> simp
 have h6 : (porL p).length ≤ 21 := by
  unfold porL; split
  ·rename_i h; have := dg_len20 p.po h hpo; simp; omega
  ·simp
 unfold autL
 simp only [List.length_append]
 omega
theorem writL_len (p : P) (hpo : p.po ≤ 9223372036854775807) : (writL p).length ≤ p.tot + 200 := by
 have h1 := autL_len p hpo
 have h2 := tailL_len p
 have h3 := text_len p.sc
 have h4 := text_len p.op
 have h5 := putL_len p.ps
 unfold writL mainL
 simp only [List.length_append, List.length_cons, List.length_nil]
 unfold P.tot
 split
 ·simp only [List.length_append, List.length_cons, List.length_nil]; omega
 ·omega
theorem urlWrite (p : P) (a : Option Addr) (c : Nat) (w : World) (hL : Lean0 w) (hS : StrsOf a p.ps.length p.ps w) (hs : p.tot ≤ 1048576) (hpo : p.po ≤ 9223372036854775807) :
  Calls Tryz.prog 58 #[.agg (p.cells (.slice a p.ps.length c))] w fun e w' => e = .returned (.string (mk (writL p))) ∧ Below w.heap.size w w' := by
 have HT : Hid (writL p = p.sc.data.toList ++ ([58] ++ (mainL p ++ tailL p))) := rfl
 have hq1 : p.qu.size ≤ 1048576 := by unfold P.tot at hs; omega
 have hf1 : p.fr.size ≤ 1048576 := by unfold P.tot at hs; omega
 have hp1 : p.pw.size ≤ 1048576 := by unfold P.tot at hs; omega
 have hu1 : p.us.size ≤ 1048576 := by unfold P.tot at hs; omega
 have hs1 : p.sc.size ≤ 1048576 := by unfold P.tot at hs; omega
 have ho1 : p.op.size ≤ 1048576 := by unfold P.tot at hs; omega
 have hn1 : p.hn.size ≤ 1048576 := by unfold P.tot at hs; omega
 have hps : p.ps.length + Go.Proofs.YtnfhajhdpdidlaaGreatDoor.tot p.ps ≤ 1048576 := by unfold P.tot at hs; omega
 have hat : (mk (autL p)).size ≤ 3000000 := by rw [mk_size]; have := autL_len p hpo; omega
 have htl : (mk (tailL p)).size ≤ 3000000 := by rw [mk_size]; have := tailL_len p; omega
 have hpl : (mk (putL p.ps)).size ≤ 3000000 := by rw [mk_size, putL_len]; omega
 obtain ⟨v, hv⟩ : ∃ v, v = Value.slice a p.ps.length c := ⟨_, rfl⟩
 have CT : Hid (∀ W, Calls Tryz.prog 70 #[.agg #[.string p.sc, .string p.us, .string p.pw, .int .i64 p.hk, .string p.hn, .int .i64 p.ha, .int .i64 p.po, v, .string p.op, .bool p.hq, .string p.qu, .bool p.hf, .string p.fr]] W fun e w' => e = .returned (.string (mk (tailL p))) ∧ Below W.heap.size W w') := fun W => tailWrite p v W hs
 have CA : Hid (∀ W, Below w.heap.size w W → Calls Tryz.prog 96 #[.agg #[.string p.sc, .string p.us, .string p.pw, .int .i64 p.hk, .string p.hn, .int .i64 p.ha, .int .i64 p.po, v, .string p.op, .bool p.hq, .string p.qu, .bool p.hf, .string p.fr]] W fun e w' => e = .returned (.string (mk (autL p))) ∧ Below W.heap.size W w') := fun W b => authorityWrite p v W (hL.below b) hs hpo
 have CP : Hid (∀ W, Below w.heap.size w W → Calls Tryz.prog 16 #[v] W fun e w' => e = .returned (.string (mk (putL p.ps))) ∧ Below W.heap.size W w') := fun W b => by rw [hv]; exact implPathPut a _ c p.ps W (hS.later b) (by omega)
 have CH : Hid (∀ W, Calls Tryz.prog 67 #[.agg #[.string p.sc, .string p.us, .string p.pw, .int .i64 p.hk, .string p.hn, .int .i64 p.ha, .int .i64 p.po, v, .string p.op, .bool p.hq, .string p.qu, .bool p.hf, .string p.fr]] W fun e w' => e = .returned (.bool (decide (0 ≤ ownZ p.sc))) ∧ Below W.heap.size W w') := fun W => hasHost (p.u v) W
 rw [← hv]
 have H0 : Hid (Wr w p v 0 [] ((w.alloc (.cells (p.cells v) 31)).alloc (.cells #[.pointer none, .slice none 0 0] 67))) := Wr.start w p v
 obtain ⟨k0, k1, k2, k3, k4, k5, k6, k7, k8, k9, k10, k11, k12⟩ := H0.out.cells
 unfold P.cells at H0 ⊢
 clear hs hL hpo hv hS
 by_cases ho : 0 ≤ ownZ p.sc
 ·have HMN : Hid (mainL p = [47, 47] ++ (autL p ++ putL p.ps)) := by show _ = _; unfold mainL; rw [if_pos ho]
  rw [decide_eq_true ho] at CH
  clear ho
  go_enter Tryz.func58, Tryz.ntmps58
  go_wp2_with fail
  refine (H0.out.ws p.sc (by omega)).mono ?_
  rintro e W1 ⟨rfl, h1⟩
  have H1 : Hid (Wr w p v (0 + (p.sc).size) (([]) ++ p.sc.data.toList) W1) := h1
  clear k0 k1 k2 k3 k4 k5 k6 k7 k8 k9 k10 k11 k12
  obtain ⟨k0, k1, k2, k3, k4, k5, k6, k7, k8, k9, k10, k11, k12⟩ := h1.cells
  clear h1 H0
  go_wp2_with fail
  refine (H1.out.wb 58 _ rfl (by omega)).mono ?_
  rintro e W2 ⟨rfl, h2⟩
  have H2 : Hid (Wr w p v (0 + (p.sc).size + 1) ((([]) ++ p.sc.data.toList) ++ [58]) W2) := h2
  clear k0 k1 k2 k3 k4 k5 k6 k7 k8 k9 k10 k11 k12
  obtain ⟨k0, k1, k2, k3, k4, k5, k6, k7, k8, k9, k10, k11, k12⟩ := h2.cells
  clear h2 H1
  go_wp2_with fail
  refine (CH.out _).mono ?_
  rintro e W3 ⟨rfl, d3⟩
  have h3 := H2.out.later d3
  clear d3
  have H3 : Hid (Wr w p v (0 + (p.sc).size + 1) ((([]) ++ p.sc.data.toList) ++ [58]) W3) := h3
  clear k0 k1 k2 k3 k4 k5 k6 k7 k8 k9 k10 k11 k12
  obtain ⟨k0, k1, k2, k3, k4, k5, k6, k7, k8, k9, k10, k11, k12⟩ := h3.cells
  clear h3 H2
  go_wp2_with fail
  refine (H3.out.ws (ByteArray.mk #[47, 47]) (by show _ + 2 ≤ _; omega)).mono ?_
  rintro e W4 ⟨rfl, h4⟩
  have H4 : Hid (Wr w p v (0 + (p.sc).size + 1 + 2) (((([]) ++ p.sc.data.toList) ++ [58]) ++ [47, 47]) W4) := h4
  clear k0 k1 k2 k3 k4 k5 k6 k7 k8 k9 k10 k11 k12
  obtain ⟨k0, k1, k2, k3, k4, k5, k6, k7, k8, k9, k10, k11, k12⟩ := h4.cells
  clear h4 H3
  go_wp2_with fail
  refine (CA.out _ H4.out.bw).mono ?_
  rintro e W5 ⟨rfl, d5⟩
  have h5 := H4.out.later d5
  clear d5
  have H5 : Hid (Wr w p v (0 + (p.sc).size + 1 + 2) (((([]) ++ p.sc.data.toList) ++ [58]) ++ [47, 47]) W5) := h5
  clear k0 k1 k2 k3 k4 k5 k6 k7 k8 k9 k10 k11 k12
  obtain ⟨k0, k1, k2, k3, k4, k5, k6, k7, k8, k9, k10, k11, k12⟩ := h5.cells
  clear h5 H4
  go_wp2_with fail
  refine (H5.out.ws (mk (autL p)) (by omega)).mono ?_
  rintro e W6 ⟨rfl, h6⟩
  have H6 : Hid (Wr w p v (0 + (p.sc).size + 1 + 2 + ((mk (autL p))).size) ((((([]) ++ p.sc.data.toList) ++ [58]) ++ [47, 47]) ++ autL p) W6) := h6
  clear k0 k1 k2 k3 k4 k5 k6 k7 k8 k9 k10 k11 k12
  obtain ⟨k0, k1, k2, k3, k4, k5, k6, k7, k8, k9, k10, k11, k12⟩ := h6.cells
  clear h6 H5
  go_wp2_with fail
  refine (CP.out _ H6.out.bw).mono ?_
  rintro e W7 ⟨rfl, d7⟩
  have h7 := H6.out.later d7
  clear d7
  have H7 : Hid (Wr w p v (0 + (p.sc).size + 1 + 2 + ((mk (autL p))).size) ((((([]) ++ p.sc.data.toList) ++ [58]) ++ [47, 47]) ++ autL p) W7) := h7
  clear k0 k1 k2 k3 k4 k5 k6 k7 k8 k9 k10 k11 k12
  obtain ⟨k0, k1, k2, k3, k4, k5, k6, k7, k8, k9, k10, k11, k12⟩ := h7.cells
  clear h7 H6
  go_wp2_with fail
  refine (H7.out.ws (mk (putL p.ps)) (by omega)).mono ?_
  rintro e W8 ⟨rfl, h8⟩
  have H8 : Hid (Wr w p v (0 + (p.sc).size + 1 + 2 + ((mk (autL p))).size + ((mk (putL p.ps))).size) (((((([]) ++ p.sc.data.toList) ++ [58]) ++ [47, 47]) ++ autL p) ++ putL p.ps) W8) := h8
  clear k0 k1 k2 k3 k4 k5 k6 k7 k8 k9 k10 k11 k12
  obtain ⟨k0, k1, k2, k3, k4, k5, k6, k7, k8, k9, k10, k11, k12⟩ := h8.cells
  clear h8 H7
  go_wp2_with fail
  refine (CT.out _).mono ?_
  rintro e W9 ⟨rfl, d9⟩
  have h9 := H8.out.later d9
  clear d9
  have H9 : Hid (Wr w p v (0 + (p.sc).size + 1 + 2 + ((mk (autL p))).size + ((mk (putL p.ps))).size) (((((([]) ++ p.sc.data.toList) ++ [58]) ++ [47, 47]) ++ autL p) ++ putL p.ps) W9) := h9
  clear k0 k1 k2 k3 k4 k5 k6 k7 k8 k9 k10 k11 k12
  obtain ⟨k0, k1, k2, k3, k4, k5, k6, k7, k8, k9, k10, k11, k12⟩ := h9.cells
  clear h9 H8
  go_wp2_with fail
  refine (H9.out.ws (mk (tailL p)) (by omega)).mono ?_
  rintro e W10 ⟨rfl, h10⟩
  have H10 : Hid (Wr w p v (0 + (p.sc).size + 1 + 2 + ((mk (autL p))).size + ((mk (putL p.ps))).size + ((mk (tailL p))).size) ((((((([]) ++ p.sc.data.toList) ++ [58]) ++ [47, 47]) ++ autL p) ++ putL p.ps) ++ tailL p) W10) := h10
  clear k0 k1 k2 k3 k4 k5 k6 k7 k8 k9 k10 k11 k12
  obtain ⟨k0, k1, k2, k3, k4, k5, k6, k7, k8, k9, k10, k11, k12⟩ := h10.cells
  clear h10 H9
  go_wp2_with fail
  refine H10.out.str.mono ?_
  rintro e W11 ⟨rfl, b⟩
  go_wp2
  go_ret
  refine ⟨?_, b⟩
  rw [HT.out, HMN.out]
  simp
 ·have HMN : Hid (mainL p = p.op.data.toList) := by show _ = _; unfold mainL; rw [if_neg ho]
  rw [decide_eq_false ho] at CH
  clear ho
  go_enter Tryz.func58, Tryz.ntmps58
  go_wp2_with fail
  refine (H0.out.ws p.sc (by omega)).mono ?_
  rintro e W1 ⟨rfl, h1⟩
  have H1 : Hid (Wr w p v (0 + (p.sc).size) (([]) ++ p.sc.data.toList) W1) := h1
  clear k0 k1 k2 k3 k4 k5 k6 k7 k8 k9 k10 k11 k12
  obtain ⟨k0, k1, k2, k3, k4, k5, k6, k7, k8, k9, k10, k11, k12⟩ := h1.cells
  clear h1 H0
  go_wp2_with fail
  refine (H1.out.wb 58 _ rfl (by omega)).mono ?_
  rintro e W2 ⟨rfl, h2⟩
  have H2 : Hid (Wr w p v (0 + (p.sc).size + 1) ((([]) ++ p.sc.data.toList) ++ [58]) W2) := h2
  clear k0 k1 k2 k3 k4 k5 k6 k7 k8 k9 k10 k11 k12
  obtain ⟨k0, k1, k2, k3, k4, k5, k6, k7, k8, k9, k10, k11, k12⟩ := h2.cells
  clear h2 H1
  go_wp2_with fail
  refine (CH.out _).mono ?_
  rintro e W3 ⟨rfl, d3⟩
  have h3 := H2.out.later d3
  clear d3
  have H3 : Hid (Wr w p v (0 + (p.sc).size + 1) ((([]) ++ p.sc.data.toList) ++ [58]) W3) := h3
  clear k0 k1 k2 k3 k4 k5 k6 k7 k8 k9 k10 k11 k12
  obtain ⟨k0, k1, k2, k3, k4, k5, k6, k7, k8, k9, k10, k11, k12⟩ := h3.cells
  clear h3 H2
  go_wp2_with fail
  refine (H3.out.ws p.op (by omega)).mono ?_
  rintro e W4 ⟨rfl, h4⟩
  have H4 : Hid (Wr w p v (0 + (p.sc).size + 1 + (p.op).size) (((([]) ++ p.sc.data.toList) ++ [58]) ++ p.op.data.toList) W4) := h4
  clear k0 k1 k2 k3 k4 k5 k6 k7 k8 k9 k10 k11 k12
  obtain ⟨k0, k1, k2, k3, k4, k5, k6, k7, k8, k9, k10, k11, k12⟩ := h4.cells
  clear h4 H3
  go_wp2_with fail
  refine (CT.out _).mono ?_
  rintro e W5 ⟨rfl, d5⟩
  have h5 := H4.out.later d5
  clear d5
  have H5 : Hid (Wr w p v (0 + (p.sc).size + 1 + (p.op).size) (((([]) ++ p.sc.data.toList) ++ [58]) ++ p.op.data.toList) W5) := h5
  clear k0 k1 k2 k3 k4 k5 k6 k7 k8 k9 k10 k11 k12
  obtain ⟨k0, k1, k2, k3, k4, k5, k6, k7, k8, k9, k10, k11, k12⟩ := h5.cells
  clear h5 H4
  go_wp2_with fail
  refine (H5.out.ws (mk (tailL p)) (by omega)).mono ?_
  rintro e W6 ⟨rfl, h6⟩
  have H6 : Hid (Wr w p v (0 + (p.sc).size + 1 + (p.op).size + ((mk (tailL p))).size) ((((([]) ++ p.sc.data.toList) ++ [58]) ++ p.op.data.toList) ++ tailL p) W6) := h6
  clear k0 k1 k2 k3 k4 k5 k6 k7 k8 k9 k10 k11 k12
  obtain ⟨k0, k1, k2, k3, k4, k5, k6, k7, k8, k9, k10, k11, k12⟩ := h6.cells
  clear h6 H5
  go_wp2_with fail
  refine H6.out.str.mono ?_
  rintro e W7 ⟨rfl, b⟩
  go_wp2
  go_ret
  refine ⟨?_, b⟩
  rw [HT.out, HMN.out]
  simp
end Go.Proofs.YtnfhajhdpdidlaaGreatDoor
end
section
namespace Go.Proofs.YtnfhajhdpdidlaaGreatDoor
open Go.RowKit
theorem hexV_fig (n : Nat) (h : n < 16) : hexV (fig n) = (n : Int) := by
 match n, h with
 | 0, _ => decide
 | 1, _ => decide
 | 2, _ => decide
 | 3, _ => decide
 | 4, _ => decide
 | 5, _ => decide
 | 6, _ => decide
 | 7, _ => decide
 | 8, _ => decide
 | 9, _ => decide
 | 10, _ => decide
 | 11, _ => decide
 | 12, _ => decide
 | 13, _ => decide
 | 14, _ => decide
 | 15, _ => decide
 | n + 16, h => exact absurd h (by omega)
def two : List UInt8 → Bool
 | a :: b :: _ => decide (0 ≤ hexV a) && decide (0 ≤ hexV b)
 | _ => false
theorem enc_cons (P : UInt8 → Bool) (c : UInt8) (l : List UInt8) : enc P (c :: l) = encB P c ++ enc P l := by simp [enc]
end Go.Proofs.YtnfhajhdpdidlaaGreatDoor
end
section
namespace Go.Proofs.YtnfhajhdpdidlaaGreatDoor
open Go.RowKit
theorem encB_out (P : UInt8 → Bool) (h37 : P 37 = false) (hhex : ∀ a, 0 ≤ hexV a → P a = false) (c d : UInt8) (h : d ∈ encB P c) : P d = false := by
 cases hc : P c with
 | true =>
  rw [encB_yes P c hc] at h
  have hcl := c.toNat_lt
  simp only [List.mem_cons, List.not_mem_nil, or_false] at h
  rcases h with rfl | rfl | rfl
  ·exact h37
  ·exact hhex _ (by rw [hexV_fig _ (by omega)]; omega)
  ·exact hhex _ (by rw [hexV_fig _ (by omega)]; omega)
 | false =>
  rw [encB_no P c hc] at h
  simp only [List.mem_cons, List.not_mem_nil, or_false] at h
  rw [h]; exact hc
theorem enc_out (P : UInt8 → Bool) (h37 : P 37 = false) (hhex : ∀ a, 0 ≤ hexV a → P a = false) (l : List UInt8) (d : UInt8) (h : d ∈ enc P l) : P d = false := by
 unfold enc at h
 rw [List.mem_flatMap] at h
 obtain ⟨c, _, hd⟩ := h
 exact encB_out P h37 hhex c d hd
theorem enc_same (P : UInt8 → Bool) (l : List UInt8) (h : ∀ d ∈ l, P d = false) : enc P l = l := by
 induction l with
 | nil => rfl
 | cons c r ih =>
  have e : enc P (c :: r) = encB P c ++ enc P r := by simp [enc]
  rw [e, encB_no P c (h c (by simp)), ih (fun d hd => h d (by simp [hd]))]; rfl
theorem enc_enc (P : UInt8 → Bool) (h37 : P 37 = false) (hhex : ∀ a, 0 ≤ hexV a → P a = false) (l : List UInt8) : enc P (enc P l) = enc P l := enc_same P _ (enc_out P h37 hhex l)
theorem set_hex (set : Int) (a : UInt8) (h : a ∈ setB set) : hexV a < 0 := by
 unfold setB at h
 (repeat' split at h) <;> simp only [List.mem_cons, List.not_mem_nil, or_false] at h
 ·rcases h with rfl | rfl | rfl | rfl | rfl | rfl | rfl | rfl | rfl <;> decide
 ·rcases h with rfl | rfl | rfl | rfl | rfl | rfl <;> decide
 ·rcases h with rfl | rfl | rfl | rfl | rfl <;> decide
 ·rcases h with rfl | rfl | rfl | rfl | rfl | rfl | rfl | rfl | rfl | rfl | rfl | rfl | rfl | rfl | rfl | rfl | rfl | rfl | rfl <;> decide
 ·subst h; decide
theorem isIn_hex (set : Int) (a : UInt8) (h : 0 ≤ hexV a) : isIn set a = false := by
 have hr : 48 ≤ a.toNat ∧ a.toNat ≤ 102 := by
  unfold hexV at h
  (repeat' split at h) <;> omega
 rw [isIn_mid set a (by omega) (by omega)]
 unfold hasB
 rw [Bool.eq_false_iff]
 intro hc
 rw [List.contains_iff_mem] at hc
 have := set_hex set a hc
 omega
theorem isIn_sign (set : Int) : isIn set 37 = false := by
 rw [isIn_mid set 37 (by decide) (by decide)]
 unfold setB
 (repeat' split) <;> decide
end Go.Proofs.YtnfhajhdpdidlaaGreatDoor
end
section
namespace Go.Proofs.YtnfhajhdpdidlaaGreatDoor
open Go.RowKit
def fixP (q : List UInt8) : Prop := dots q = 0 ∧ encT q = q ∧ (∀ c ∈ q, c ≠ 47) ∧ (∀ c ∈ q, c ≠ 92)
theorem fix_nil : fixP [] := ⟨by decide, rfl, by simp, by simp⟩
theorem cutL_free (b : UInt8) (l : List UInt8) : ∀ q ∈ cutL b l, ∀ c ∈ q, c ≠ b ∧ c ∈ l := by
 induction l with
 | nil => intro q hq c hc; simp [cutL] at hq; subst hq; simp at hc
 | cons x r ih =>
  intro q hq c hc
  by_cases h : x = b
  ·subst h
   rw [cutL_b] at hq
   rcases List.mem_cons.1 hq with rfl | hq
   ·simp at hc
   ·have := ih q hq c hc; exact ⟨this.1, by simp [this.2]⟩
  ·obtain ⟨p, ps, hp⟩ : ∃ p ps, cutL b r = p :: ps := by
    match hh : cutL b r with
    | [] => exact absurd hh (cutL_ne b r)
    | p :: ps => exact ⟨p, ps, rfl⟩
   rw [cutL_c b x r p ps h hp] at hq
   rcases List.mem_cons.1 hq with rfl | hq
   ·rcases List.mem_cons.1 hc with rfl | hc
    ·exact ⟨h, by simp⟩
    ·have := ih p (by rw [hp]; simp) c hc; exact ⟨this.1, by simp [this.2]⟩
   ·have := ih q (by rw [hp]; simp [hq]) c hc; exact ⟨this.1, by simp [this.2]⟩
theorem cutL_tot (b : UInt8) (l : List UInt8) : tot (cutL b l) + (cutL b l).length = l.length + 1 := by
 induction l with
 | nil => rfl
 | cons x r ih =>
  by_cases h : x = b
  ·subst h
   rw [cutL_b]
   have e : tot ([] :: cutL x r) = tot (cutL x r) := by simp [tot]
   rw [e, List.length_cons, List.length_cons]; omega
  ·obtain ⟨p, ps, hp⟩ : ∃ p ps, cutL b r = p :: ps := by
    match hh : cutL b r with
    | [] => exact absurd hh (cutL_ne b r)
    | p :: ps => exact ⟨p, ps, rfl⟩
   rw [cutL_c b x r p ps h hp]
   rw [hp] at ih
   simp [tot] at ih ⊢
   omega
theorem slashL_free (l : List UInt8) : ∀ c ∈ slashL l, c ≠ 92 := by
 intro c hc
 obtain ⟨x, _, rfl⟩ := List.mem_map.1 hc
 split
 ·decide
 ·assumption
theorem slashL_same (l : List UInt8) (h : ∀ c ∈ l, c ≠ 92) : slashL l = l := by
 unfold slashL turnL
 conv => rhs; rw [← List.map_id l]
 exact List.map_congr_left (fun c hc => by rw [if_neg (h c hc)]; rfl)
theorem trim1_mem (l : List UInt8) : ∀ c ∈ trim1 l, c ∈ l := by
 intro c hc; unfold trim1 at hc; split at hc
 ·exact List.mem_of_mem_tail hc
 ·exact hc
theorem pieces_free (l : List UInt8) : ∀ q ∈ piecesL l, (∀ c ∈ q, c ≠ 47) ∧ (∀ c ∈ q, c ≠ 92) := by
 intro q hq
 exact ⟨fun c hc => (cutL_free 47 _ q hq c hc).1, fun c hc => slashL_free l c (trim1_mem _ c (cutL_free 47 _ q hq c hc).2)⟩
theorem fig_cases (n : Nat) (h : n < 16) : fig n ≠ 47 ∧ fig n ≠ 92 ∧ (lowB (fig n) = 50 → n = 2) ∧ (lowB (fig n) = 101 → n = 14) := by
 have : n = 0 ∨ n = 1 ∨ n = 2 ∨ n = 3 ∨ n = 4 ∨ n = 5 ∨ n = 6 ∨ n = 7 ∨ n = 8 ∨ n = 9 ∨ n = 10 ∨ n = 11 ∨ n = 12 ∨ n = 13 ∨ n = 14 ∨ n = 15 := by omega
 rcases this with rfl | rfl | rfl | rfl | rfl | rfl | rfl | rfl | rfl | rfl | rfl | rfl | rfl | rfl | rfl | rfl <;> decide
theorem encT_free (p : List UInt8) (h1 : ∀ c ∈ p, c ≠ 47) (h2 : ∀ c ∈ p, c ≠ 92) : (∀ c ∈ encT p, c ≠ 47) ∧ (∀ c ∈ encT p, c ≠ 92) := by
 have key : ∀ c ∈ encT p, c ≠ 47 ∧ c ≠ 92 := by
  intro c hc
  obtain ⟨x, hx, hc⟩ := List.mem_flatMap.1 hc
  have hb := x.toNat_lt
  unfold encB at hc
  split at hc
  ·simp only [List.mem_cons, List.not_mem_nil, or_false] at hc
   rcases hc with rfl | rfl | rfl
   ·decide
   ·have := fig_cases (x.toNat / 16) (by omega); exact ⟨this.1, this.2.1⟩
   ·have := fig_cases (x.toNat % 16) (by omega); exact ⟨this.1, this.2.1⟩
  ·simp only [List.mem_cons, List.not_mem_nil, or_false] at hc
   subst hc; exact ⟨h1 _ hx, h2 _ hx⟩
 exact ⟨fun c hc => (key c hc).1, fun c hc => (key c hc).2⟩
def goodT : List UInt8 → Bool
 | [] => true
 | c :: r => (if c = 37 then r.head? == some 50 && r.tail.head? == some 101 else true) && goodT r
theorem good_enc (l : List UInt8) (h : goodT (low (encT l)) = true) : encT l = l := by
 induction l with
 | nil => rfl
 | cons c r ih =>
  have e : encT (c :: r) = encB (isIn 1) c ++ encT r := enc_cons _ c r
  by_cases hc : isIn 1 c = true
  ·rw [e, encB_yes _ c hc] at h
   have hb := c.toNat_lt
   have h1 : lowB (fig (c.toNat / 16)) = 50 ∧ lowB (fig (c.toNat % 16)) = 101 := by
    simp [low, goodT, lowB_not 37 (by decide)] at h
    exact ⟨h.1.1, h.1.2⟩
   have f1 := (fig_cases (c.toNat / 16) (by omega)).2.2.1 h1.1
   have f2 := (fig_cases (c.toNat % 16) (by omega)).2.2.2 h1.2
   have : c = 46 := UInt8.toNat_inj.1 (by show _ = 46; omega)
   subst this
   exact absurd hc (by decide)
  ·have hc' : isIn 1 c = false := by simpa using hc
   rw [encB_no _ c hc'] at e
   rw [e] at h ⊢
   have h2 : goodT (low (encT r)) = true := by
    simp only [List.cons_append, List.nil_append, low, List.map_cons, goodT, Bool.and_eq_true] at h
    exact h.2
   rw [ih h2]; rfl
theorem dots_enc (p : List UInt8) (h : dots p = 0) : dots (encT p) = 0 := by
 by_cases hd : dots (encT p) = 0
 ·exact hd
 ·have hg : goodT (low (encT p)) = true := by
   unfold dots at hd
   by_cases h1 : low (encT p) = [46] ∨ low (encT p) = [37, 50, 101]
   ·rcases h1 with h1 | h1 <;> (rw [h1]; decide)
   ·rw [if_neg h1] at hd
    by_cases h2 : low (encT p) = [46, 46] ∨ low (encT p) = [46, 37, 50, 101] ∨ low (encT p) = [37, 50, 101, 46] ∨ low (encT p) = [37, 50, 101, 37, 50, 101]
    ·rcases h2 with h2 | h2 | h2 | h2 <;> (rw [h2]; decide)
    ·rw [if_neg h2] at hd; exact absurd rfl hd
  rw [good_enc p hg]; exact h
theorem fix_enc (p : List UInt8) (h : dots p = 0) (h1 : ∀ c ∈ p, c ≠ 47) (h2 : ∀ c ∈ p, c ≠ 92) : fixP (encT p) :=
 ⟨dots_enc p h, enc_enc (isIn 1) (isIn_sign 1) (isIn_hex 1) p, (encT_free p h1 h2).1, (encT_free p h1 h2).2⟩
theorem step_fix (path : List (List UInt8)) (p : List UInt8) (b : Bool) (h : ∀ q ∈ path, fixP q) (h1 : ∀ c ∈ p, c ≠ 47) (h2 : ∀ c ∈ p, c ≠ 92) : ∀ q ∈ stepL path p b, fixP q := by
 have hb : ∀ q ∈ backL path p, fixP q := by
  intro q hq; unfold backL at hq; split at hq
  ·exact h q (List.dropLast_subset _ hq)
  ·exact h q hq
 intro q hq
 unfold stepL at hq
 split at hq
 ·rename_i hd
  rcases List.mem_append.1 hq with hq | hq
  ·exact hb q hq
  ·simp at hq; subst hq; exact fix_enc p hd h1 h2
 ·split at hq
  ·rcases List.mem_append.1 hq with hq | hq
   ·exact hb q hq
   ·simp at hq; subst hq; exact fix_nil
  ·exact hb q hq
theorem walk_fix (ps : List (List UInt8)) (path : List (List UInt8)) (h : ∀ q ∈ path, fixP q) (hp : ∀ p ∈ ps, (∀ c ∈ p, c ≠ 47) ∧ (∀ c ∈ p, c ≠ 92)) : ∀ q ∈ walkL path ps, fixP q := by
 induction ps generalizing path with
 | nil => exact h
 | cons p ps ih =>
  have e : walkL path (p :: ps) = walkL (stepL path p ps.isEmpty) ps := rfl
  rw [e]
  exact ih _ (step_fix path p _ h (hp p (by simp)).1 (hp p (by simp)).2) (fun q hq => hp q (by simp [hq]))
theorem path_fix (l : List UInt8) : ∀ q ∈ pathL l, fixP q := by
 intro q hq
 unfold pathL at hq
 split at hq
 ·exact walk_fix _ [] (by simp) (pieces_free l) q hq
 ·simp at hq
theorem walkL_ne (ps : List (List UInt8)) (path : List (List UInt8)) (h : ps ≠ []) : walkL path ps ≠ [] := by
 induction ps generalizing path with
 | nil => exact absurd rfl h
 | cons p ps ih =>
  have e : walkL path (p :: ps) = walkL (stepL path p ps.isEmpty) ps := rfl
  rw [e]
  by_cases h0 : ps = []
  ·subst h0
   show stepL path p true ≠ []
   unfold stepL
   split
   ·simp
   ·simp
  ·exact ih _ h0
theorem path_ne (l : List UInt8) (h : l.length ≤ 200) : pathL l ≠ [] := by
 rw [pathL_small l h]; exact walkL_ne _ _ (piecesL_ne l)
theorem walk_same (ps : List (List UInt8)) (path : List (List UInt8)) (h : ∀ q ∈ ps, fixP q) : walkL path ps = path ++ ps := by
 induction ps generalizing path with
 | nil => simp [walkL]
 | cons p ps ih =>
  have e : walkL path (p :: ps) = walkL (stepL path p ps.isEmpty) ps := rfl
  have hp := h p (by simp)
  have es : stepL path p ps.isEmpty = path ++ [p] := by
   unfold stepL backL
   rw [if_pos hp.1, hp.2.1, if_neg (by rw [hp.1]; decide)]
  rw [e, es, ih _ (fun q hq => h q (by simp [hq]))]; simp
theorem cut_put (ps : List (List UInt8)) (p : List UInt8) (hp : ∀ c ∈ p, c ≠ 47) (h : ∀ q ∈ ps, ∀ c ∈ q, c ≠ 47) : cutL 47 (p ++ putL ps) = p :: ps := by
 induction ps generalizing p with
 | nil =>
  have e : putL [] = [] := rfl
  rw [e, List.append_nil]; exact cutL_none 47 p hp
 | cons q ps ih =>
  have e : putL (q :: ps) = 47 :: (q ++ putL ps) := rfl
  rw [e, cutL_hit 47 p _ hp, ih q (h q (by simp)) (fun x hx => h x (by simp [hx]))]
theorem put_free (ps : List (List UInt8)) (h : ∀ q ∈ ps, ∀ c ∈ q, c ≠ 92) : ∀ c ∈ putL ps, c ≠ 92 := by
 intro c hc
 obtain ⟨q, hq, hc⟩ := List.mem_flatMap.1 hc
 rcases List.mem_cons.1 hc with rfl | hc
 ·decide
 ·exact h q hq c hc
theorem pieces_put (ps : List (List UInt8)) (hne : ps ≠ []) (h : ∀ q ∈ ps, fixP q) : piecesL (putL ps) = ps := by
 cases ps with
 | nil => exact absurd rfl hne
 | cons p ps =>
  unfold piecesL
  rw [slashL_same _ (put_free _ (fun q hq => (h q hq).2.2.2))]
  have e : putL (p :: ps) = 47 :: (p ++ putL ps) := rfl
  rw [e]
  show cutL 47 (p ++ putL ps) = _
  exact cut_put ps p (h p (by simp)).2.2.1 (fun q hq => (h q (by simp [hq])).2.2.1)
theorem path_put (ps : List (List UInt8)) (hne : ps ≠ []) (h : ∀ q ∈ ps, fixP q) (hl : (putL ps).length ≤ 200) : pathL (putL ps) = ps := by
 rw [pathL_small _ hl, pieces_put ps hne h, walk_same ps [] h]; rfl
theorem putL_back (path : List (List UInt8)) (p : List UInt8) : (putL (backL path p)).length ≤ (putL path).length := by
 unfold backL
 split
 ·rw [List.dropLast_eq_take, putL_len path]; exact putL_take path _
 ·exact Nat.le_refl _
theorem putL_app (a b : List (List UInt8)) : putL (a ++ b) = putL a ++ putL b := by simp [putL]
theorem putL_step (path : List (List UInt8)) (p : List UInt8) (b : Bool) : (putL (stepL path p b)).length ≤ (putL path).length + 1 + 3 * p.length := by
 have h1 := putL_back path p
 have h2 := enc_length (isIn 1) p
 unfold stepL
 split
 ·have : (putL [encT p]).length = 1 + (encT p).length := by simp [putL]; omega
  rw [putL_app, List.length_append, this]; unfold encT; omega
 ·split
  ·have : (putL [[]]).length = 1 := rfl
   rw [putL_app, List.length_append, this]; omega
  ·omega
theorem putL_walk (ps : List (List UInt8)) (path : List (List UInt8)) : (putL (walkL path ps)).length ≤ (putL path).length + ps.length + 3 * tot ps := by
 induction ps generalizing path with
 | nil => simp [walkL]
 | cons p ps ih =>
  have e : walkL path (p :: ps) = walkL (stepL path p ps.isEmpty) ps := rfl
  have e2 : tot (p :: ps) = p.length + tot ps := by simp [tot]
  have h1 := ih (stepL path p ps.isEmpty)
  have h2 := putL_step path p ps.isEmpty
  rw [e, e2, List.length_cons]; omega
theorem putL_path (l : List UInt8) : (putL (pathL l)).length ≤ 3 * l.length + 3 := by
 unfold pathL
 split
 ·have h1 := putL_walk (piecesL l) []
  have h2 := cutL_tot 47 (trim1 (slashL l))
  have h3 := trim1_len (slashL l)
  have h4 := slashL_len l
  have h5 : (putL []).length = 0 := rfl
  unfold piecesL at h1 ⊢
  omega
 ·show 0 ≤ _; omega
end Go.Proofs.YtnfhajhdpdidlaaGreatDoor
end

/- impl.authorityWrite: who, the host and the port, written. -/
import Derived.Test.YtcmglinehdpnlaaGreatDoorB13
section
set_option linter.unusedVariables false
set_option linter.unusedSimpArgs false
namespace Go.Proofs.YtcmglinehdpnlaaGreatDoor
open Go.RowKit Go.Shelf

theorem dg_lenk : ∀ (k : Nat) (n : Int), 0 ≤ n → n < (10 : Int) ^ (k + 1) → (dg n).length ≤ k + 1 := by
  intro k
  induction k with
  | zero => intro n h0 h; rw [dg_one n h0 (by simpa using h)]; simp
  | succ k ih =>
    intro n h0 h
    by_cases h10 : n < 10
    · rw [dg_one n h0 h10]; simp
    · rw [dg_more n (by omega), List.length_append]
      have hp : (10 : Int) ^ (k + 1 + 1) = (10 : Int) ^ (k + 1) * 10 := Int.pow_succ _ _
      have := ih (n / 10) (by omega) (by omega)
      simp; omega
theorem dg_len20 (n : Int) (h0 : 0 ≤ n) (h : n ≤ 9223372036854775807) : (dg n).length ≤ 20 := by
  have := dg_lenk 19 n h0 (by omega)
  omega
theorem itoaC (x : Int) (h0 : 0 ≤ x) (h1 : x ≤ 9223372036854775807) (W : World) (ht : Lib.TabIs Tryz.prog W "internal/strconv.uint64pow10" .u64 Lib.pow10Tab) :
    Calls Tryz.prog 94 #[.int .i64 x] W fun e w' => e = .returned (.string (mk (dg x))) ∧ Below W.heap.size W w' := by
  refine (Tryz.strconv_Itoa x (by omega) h1 W ht).mono ?_
  rintro e w' ⟨rfl, k, os, rfl⟩
  exact ⟨by rw [itoa_dg x h0]; rfl, Lib.below_grow _ _ (Nat.le_refl _) k os⟩
/-- What a call leans on: two of the library's variables. -/
structure Lean0 (w : World) : Prop where
  make ::
  mx : MaxL w
  lt : 2 < w.heap.size
  tab : Lib.TabIs Tryz.prog w "internal/strconv.uint64pow10" .u64 Lib.pow10Tab
theorem MaxL.lt {w : World} (h : MaxL w) : 1 < w.heap.size := by
  obtain ⟨m, h⟩ := h
  exact cell_in h
theorem MaxL.below {w w' : World} {B : Nat} (h : MaxL w) (b : Below B w w') (hB : w.heap.size ≤ B) : MaxL w' := by
  have hl := h.lt
  obtain ⟨m, h⟩ := h
  exact ⟨m, (b.cell (p := ⟨1, 0, none⟩) (Nat.lt_of_lt_of_le hl hB)).trans h⟩
theorem Lean0.below {w w' : World} (h : Lean0 w) (b : Below w.heap.size w w') : Lean0 w' :=
  ⟨h.mx.below b (Nat.le_refl _), Nat.lt_of_lt_of_le h.lt b.size, tab_below h.tab b h.lt⟩
theorem Lean0.put {w : World} (h : Lean0 w) (k : Int) (s : ByteArray) (a : Int) (hs : s.size ≤ 1048576) :
    Calls Tryz.prog 93 #[.agg #[.int .i64 k, .string s, .int .i64 a]] w fun e w' => e = .returned (.string (mk (putT k s a))) ∧ Below w.heap.size w w' := implPut k s a w h.mx h.lt h.tab hs

set_option maxHeartbeats 4000000 in
set_option maxRecDepth 100000 in
theorem authorityWrite (p : P) (v : Value) (w : World) (hL : Lean0 w) (hs : p.tot ≤ 1048576) (hpo : p.po ≤ 9223372036854775807) :
    Calls Tryz.prog 67 #[.agg (p.cells v)] w fun e w' => e = .returned (.string (mk (autL p))) ∧ Below w.heap.size w w' := by
  have HT : Hid (autL p = p.us.data.toList ++ (pwL p ++ (atL' p ++ (putT p.hk p.hn p.ha ++ porL p)))) := rfl
  have hq1 : p.qu.size ≤ 1048576 := by unfold P.tot at hs; omega
  have hf1 : p.fr.size ≤ 1048576 := by unfold P.tot at hs; omega
  have hp1 : p.pw.size ≤ 1048576 := by unfold P.tot at hs; omega
  have hu1 : p.us.size ≤ 1048576 := by unfold P.tot at hs; omega
  have hs1 : p.sc.size ≤ 1048576 := by unfold P.tot at hs; omega
  have ho1 : p.op.size ≤ 1048576 := by unfold P.tot at hs; omega
  have hn1 : p.hn.size ≤ 1048576 := by unfold P.tot at hs; omega
  have hpt : (mk (putT p.hk p.hn p.ha)).size ≤ 60 := by rw [mk_size]; exact putT_len _ _ _
  have CH : Hid (∀ W, Below w.heap.size w W → Calls Tryz.prog 93 #[.agg #[.int .i64 p.hk, .string p.hn, .int .i64 p.ha]] W fun e w' => e = .returned (.string (mk (putT p.hk p.hn p.ha))) ∧ Below W.heap.size W w') := fun W b => (hL.below b).put _ _ _ hn1
  have CI : Hid (0 ≤ p.po → ∀ W, Below w.heap.size w W → Calls Tryz.prog 94 #[.int .i64 p.po] W fun e w' => e = .returned (.string (mk (dg p.po))) ∧ Below W.heap.size W w') := fun h0 W b => itoaC p.po h0 hpo W (hL.below b).tab
  have HDG : Hid (0 ≤ p.po → (mk (dg p.po)).size ≤ 20) := fun h0 => by rw [mk_size]; exact dg_len20 p.po h0 hpo
  have H0 : Hid (Wr w p v 0 [] ((w.alloc (.cells (p.cells v) 26)).alloc (.cells #[.pointer none, .slice none 0 0] 74))) := Wr.start w p v
  obtain ⟨k0, k1, k2, k3, k4, k5, k6, k7, k8, k9, k10, k11, k12⟩ := H0.out.cells
  unfold P.cells at H0 ⊢
  clear hs hL hpo
  by_cases hpw : p.pw.data.toList = []
  · by_cases hus : p.us.data.toList = []
    · by_cases hpo : 0 ≤ p.po
      · have hdg := HDG.out hpo
        have CIT := CI.out hpo
        have CIH : Hid (∀ W, Below w.heap.size w W → Calls Tryz.prog 94 #[.int .i64 p.po] W fun e w' => e = .returned (.string (mk (dg p.po))) ∧ Below W.heap.size W w') := CIT
        clear CIT
        have HP : Hid (porL p = 58 :: dg p.po) := by show _ = _; unfold porL; rw [if_pos hpo]
        clear CI HDG
        have HW : Hid (pwL p = []) := by show _ = _; unfold pwL; rw [if_pos hpw]
        have HA : Hid (atL' p = []) := by show _ = _; unfold atL'; rw [if_pos ⟨hus, hpw⟩]
        have heu := text_none _ hus
        have HEU : Hid (p.us.data.toList = []) := hus
        rw [heu] at H0 k1
        clear hus
        have hew := text_none _ hpw
        rw [hew] at H0 k2
        clear hpw
        go_enter Tryz.func67, Tryz.ntmps67
        go_wp2_with fail
        refine (H0.out.ws (ByteArray.mk #[]) (by decide)).mono ?_
        rintro e W1 ⟨rfl, h1⟩
        have H1 : Hid (Wr w p v (0) ([]) W1) := h1
        clear k0 k1 k2 k3 k4 k5 k6 k7 k8 k9 k10 k11 k12
        obtain ⟨k0, k1, k2, k3, k4, k5, k6, k7, k8, k9, k10, k11, k12⟩ := h1.cells
        clear h1 H0
        go_wp2_with fail
        refine (CH.out _ H1.out.bw).mono ?_
        rintro e W2 ⟨rfl, d2⟩
        have h2 := H1.out.later d2
        clear d2
        have H2 : Hid (Wr w p v (0) ([]) W2) := h2
        clear k0 k1 k2 k3 k4 k5 k6 k7 k8 k9 k10 k11 k12
        obtain ⟨k0, k1, k2, k3, k4, k5, k6, k7, k8, k9, k10, k11, k12⟩ := h2.cells
        clear h2 H1
        go_wp2_with fail
        refine (H2.out.ws (mk (putT p.hk p.hn p.ha)) (by omega)).mono ?_
        rintro e W3 ⟨rfl, h3⟩
        have H3 : Hid (Wr w p v (0 + ((mk (putT p.hk p.hn p.ha))).size) (([]) ++ putT p.hk p.hn p.ha) W3) := h3
        clear k0 k1 k2 k3 k4 k5 k6 k7 k8 k9 k10 k11 k12
        obtain ⟨k0, k1, k2, k3, k4, k5, k6, k7, k8, k9, k10, k11, k12⟩ := h3.cells
        clear h3 H2
        go_wp2_with fail
        refine (H3.out.wb 58 _ rfl (by omega)).mono ?_
        rintro e W4 ⟨rfl, h4⟩
        have H4 : Hid (Wr w p v (0 + ((mk (putT p.hk p.hn p.ha))).size + 1) ((([]) ++ putT p.hk p.hn p.ha) ++ [58]) W4) := h4
        clear k0 k1 k2 k3 k4 k5 k6 k7 k8 k9 k10 k11 k12
        obtain ⟨k0, k1, k2, k3, k4, k5, k6, k7, k8, k9, k10, k11, k12⟩ := h4.cells
        clear h4 H3
        go_wp2_with fail
        refine (CIH.out _ H4.out.bw).mono ?_
        rintro e W5 ⟨rfl, d5⟩
        have h5 := H4.out.later d5
        clear d5
        have H5 : Hid (Wr w p v (0 + ((mk (putT p.hk p.hn p.ha))).size + 1) ((([]) ++ putT p.hk p.hn p.ha) ++ [58]) W5) := h5
        clear k0 k1 k2 k3 k4 k5 k6 k7 k8 k9 k10 k11 k12
        obtain ⟨k0, k1, k2, k3, k4, k5, k6, k7, k8, k9, k10, k11, k12⟩ := h5.cells
        clear h5 H4
        go_wp2_with fail
        refine (H5.out.ws (mk (dg p.po)) (by omega)).mono ?_
        rintro e W6 ⟨rfl, h6⟩
        have H6 : Hid (Wr w p v (0 + ((mk (putT p.hk p.hn p.ha))).size + 1 + ((mk (dg p.po))).size) (((([]) ++ putT p.hk p.hn p.ha) ++ [58]) ++ dg p.po) W6) := h6
        clear k0 k1 k2 k3 k4 k5 k6 k7 k8 k9 k10 k11 k12
        obtain ⟨k0, k1, k2, k3, k4, k5, k6, k7, k8, k9, k10, k11, k12⟩ := h6.cells
        clear h6 H5
        go_wp2_with fail
        refine H6.out.str.mono ?_
        rintro e W7 ⟨rfl, b⟩
        go_wp2
        go_ret
        refine ⟨?_, b⟩
        rw [HT.out, HW.out, HA.out, HP.out, HEU.out]
        simp [mk]
      · have HP : Hid (porL p = []) := by show _ = _; unfold porL; rw [if_neg (by omega)]
        clear CI HDG
        have HW : Hid (pwL p = []) := by show _ = _; unfold pwL; rw [if_pos hpw]
        have HA : Hid (atL' p = []) := by show _ = _; unfold atL'; rw [if_pos ⟨hus, hpw⟩]
        have heu := text_none _ hus
        have HEU : Hid (p.us.data.toList = []) := hus
        rw [heu] at H0 k1
        clear hus
        have hew := text_none _ hpw
        rw [hew] at H0 k2
        clear hpw
        go_enter Tryz.func67, Tryz.ntmps67
        go_wp2_with fail
        refine (H0.out.ws (ByteArray.mk #[]) (by decide)).mono ?_
        rintro e W1 ⟨rfl, h1⟩
        have H1 : Hid (Wr w p v (0) ([]) W1) := h1
        clear k0 k1 k2 k3 k4 k5 k6 k7 k8 k9 k10 k11 k12
        obtain ⟨k0, k1, k2, k3, k4, k5, k6, k7, k8, k9, k10, k11, k12⟩ := h1.cells
        clear h1 H0
        go_wp2_with fail
        refine (CH.out _ H1.out.bw).mono ?_
        rintro e W2 ⟨rfl, d2⟩
        have h2 := H1.out.later d2
        clear d2
        have H2 : Hid (Wr w p v (0) ([]) W2) := h2
        clear k0 k1 k2 k3 k4 k5 k6 k7 k8 k9 k10 k11 k12
        obtain ⟨k0, k1, k2, k3, k4, k5, k6, k7, k8, k9, k10, k11, k12⟩ := h2.cells
        clear h2 H1
        go_wp2_with fail
        refine (H2.out.ws (mk (putT p.hk p.hn p.ha)) (by omega)).mono ?_
        rintro e W3 ⟨rfl, h3⟩
        have H3 : Hid (Wr w p v (0 + ((mk (putT p.hk p.hn p.ha))).size) (([]) ++ putT p.hk p.hn p.ha) W3) := h3
        clear k0 k1 k2 k3 k4 k5 k6 k7 k8 k9 k10 k11 k12
        obtain ⟨k0, k1, k2, k3, k4, k5, k6, k7, k8, k9, k10, k11, k12⟩ := h3.cells
        clear h3 H2
        go_wp2_with fail
        refine H3.out.str.mono ?_
        rintro e W4 ⟨rfl, b⟩
        go_wp2
        go_ret
        refine ⟨?_, b⟩
        rw [HT.out, HW.out, HA.out, HP.out, HEU.out]
        simp [mk]
    · by_cases hpo : 0 ≤ p.po
      · have hdg := HDG.out hpo
        have CIT := CI.out hpo
        have CIH : Hid (∀ W, Below w.heap.size w W → Calls Tryz.prog 94 #[.int .i64 p.po] W fun e w' => e = .returned (.string (mk (dg p.po))) ∧ Below W.heap.size W w') := CIT
        clear CIT
        have HP : Hid (porL p = 58 :: dg p.po) := by show _ = _; unfold porL; rw [if_pos hpo]
        clear CI HDG
        have HW : Hid (pwL p = []) := by show _ = _; unfold pwL; rw [if_pos hpw]
        have HA : Hid (atL' p = [64]) := by show _ = _; unfold atL'; rw [if_neg (fun h => hus h.1)]
        obtain ⟨hu1', hu2'⟩ := text_full _ hus
        clear hus
        have hew := text_none _ hpw
        rw [hew] at H0 k2
        clear hpw
        go_enter Tryz.func67, Tryz.ntmps67
        go_wp2_with fail
        refine (H0.out.ws p.us (by omega)).mono ?_
        rintro e W1 ⟨rfl, h1⟩
        have H1 : Hid (Wr w p v (0 + (p.us).size) (([]) ++ p.us.data.toList) W1) := h1
        clear k0 k1 k2 k3 k4 k5 k6 k7 k8 k9 k10 k11 k12
        obtain ⟨k0, k1, k2, k3, k4, k5, k6, k7, k8, k9, k10, k11, k12⟩ := h1.cells
        clear h1 H0
        go_wp2_with fail
        refine (H1.out.wb 64 _ rfl (by omega)).mono ?_
        rintro e W2 ⟨rfl, h2⟩
        have H2 : Hid (Wr w p v (0 + (p.us).size + 1) ((([]) ++ p.us.data.toList) ++ [64]) W2) := h2
        clear k0 k1 k2 k3 k4 k5 k6 k7 k8 k9 k10 k11 k12
        obtain ⟨k0, k1, k2, k3, k4, k5, k6, k7, k8, k9, k10, k11, k12⟩ := h2.cells
        clear h2 H1
        go_wp2_with fail
        refine (CH.out _ H2.out.bw).mono ?_
        rintro e W3 ⟨rfl, d3⟩
        have h3 := H2.out.later d3
        clear d3
        have H3 : Hid (Wr w p v (0 + (p.us).size + 1) ((([]) ++ p.us.data.toList) ++ [64]) W3) := h3
        clear k0 k1 k2 k3 k4 k5 k6 k7 k8 k9 k10 k11 k12
        obtain ⟨k0, k1, k2, k3, k4, k5, k6, k7, k8, k9, k10, k11, k12⟩ := h3.cells
        clear h3 H2
        go_wp2_with fail
        refine (H3.out.ws (mk (putT p.hk p.hn p.ha)) (by omega)).mono ?_
        rintro e W4 ⟨rfl, h4⟩
        have H4 : Hid (Wr w p v (0 + (p.us).size + 1 + ((mk (putT p.hk p.hn p.ha))).size) (((([]) ++ p.us.data.toList) ++ [64]) ++ putT p.hk p.hn p.ha) W4) := h4
        clear k0 k1 k2 k3 k4 k5 k6 k7 k8 k9 k10 k11 k12
        obtain ⟨k0, k1, k2, k3, k4, k5, k6, k7, k8, k9, k10, k11, k12⟩ := h4.cells
        clear h4 H3
        go_wp2_with fail
        refine (H4.out.wb 58 _ rfl (by omega)).mono ?_
        rintro e W5 ⟨rfl, h5⟩
        have H5 : Hid (Wr w p v (0 + (p.us).size + 1 + ((mk (putT p.hk p.hn p.ha))).size + 1) ((((([]) ++ p.us.data.toList) ++ [64]) ++ putT p.hk p.hn p.ha) ++ [58]) W5) := h5
        clear k0 k1 k2 k3 k4 k5 k6 k7 k8 k9 k10 k11 k12
        obtain ⟨k0, k1, k2, k3, k4, k5, k6, k7, k8, k9, k10, k11, k12⟩ := h5.cells
        clear h5 H4
        go_wp2_with fail
        refine (CIH.out _ H5.out.bw).mono ?_
        rintro e W6 ⟨rfl, d6⟩
        have h6 := H5.out.later d6
        clear d6
        have H6 : Hid (Wr w p v (0 + (p.us).size + 1 + ((mk (putT p.hk p.hn p.ha))).size + 1) ((((([]) ++ p.us.data.toList) ++ [64]) ++ putT p.hk p.hn p.ha) ++ [58]) W6) := h6
        clear k0 k1 k2 k3 k4 k5 k6 k7 k8 k9 k10 k11 k12
        obtain ⟨k0, k1, k2, k3, k4, k5, k6, k7, k8, k9, k10, k11, k12⟩ := h6.cells
        clear h6 H5
        go_wp2_with fail
        refine (H6.out.ws (mk (dg p.po)) (by omega)).mono ?_
        rintro e W7 ⟨rfl, h7⟩
        have H7 : Hid (Wr w p v (0 + (p.us).size + 1 + ((mk (putT p.hk p.hn p.ha))).size + 1 + ((mk (dg p.po))).size) (((((([]) ++ p.us.data.toList) ++ [64]) ++ putT p.hk p.hn p.ha) ++ [58]) ++ dg p.po) W7) := h7
        clear k0 k1 k2 k3 k4 k5 k6 k7 k8 k9 k10 k11 k12
        obtain ⟨k0, k1, k2, k3, k4, k5, k6, k7, k8, k9, k10, k11, k12⟩ := h7.cells
        clear h7 H6
        go_wp2_with fail
        refine H7.out.str.mono ?_
        rintro e W8 ⟨rfl, b⟩
        go_wp2
        go_ret
        refine ⟨?_, b⟩
        rw [HT.out, HW.out, HA.out, HP.out]
        simp [mk]
      · have HP : Hid (porL p = []) := by show _ = _; unfold porL; rw [if_neg (by omega)]
        clear CI HDG
        have HW : Hid (pwL p = []) := by show _ = _; unfold pwL; rw [if_pos hpw]
        have HA : Hid (atL' p = [64]) := by show _ = _; unfold atL'; rw [if_neg (fun h => hus h.1)]
        obtain ⟨hu1', hu2'⟩ := text_full _ hus
        clear hus
        have hew := text_none _ hpw
        rw [hew] at H0 k2
        clear hpw
        go_enter Tryz.func67, Tryz.ntmps67
        go_wp2_with fail
        refine (H0.out.ws p.us (by omega)).mono ?_
        rintro e W1 ⟨rfl, h1⟩
        have H1 : Hid (Wr w p v (0 + (p.us).size) (([]) ++ p.us.data.toList) W1) := h1
        clear k0 k1 k2 k3 k4 k5 k6 k7 k8 k9 k10 k11 k12
        obtain ⟨k0, k1, k2, k3, k4, k5, k6, k7, k8, k9, k10, k11, k12⟩ := h1.cells
        clear h1 H0
        go_wp2_with fail
        refine (H1.out.wb 64 _ rfl (by omega)).mono ?_
        rintro e W2 ⟨rfl, h2⟩
        have H2 : Hid (Wr w p v (0 + (p.us).size + 1) ((([]) ++ p.us.data.toList) ++ [64]) W2) := h2
        clear k0 k1 k2 k3 k4 k5 k6 k7 k8 k9 k10 k11 k12
        obtain ⟨k0, k1, k2, k3, k4, k5, k6, k7, k8, k9, k10, k11, k12⟩ := h2.cells
        clear h2 H1
        go_wp2_with fail
        refine (CH.out _ H2.out.bw).mono ?_
        rintro e W3 ⟨rfl, d3⟩
        have h3 := H2.out.later d3
        clear d3
        have H3 : Hid (Wr w p v (0 + (p.us).size + 1) ((([]) ++ p.us.data.toList) ++ [64]) W3) := h3
        clear k0 k1 k2 k3 k4 k5 k6 k7 k8 k9 k10 k11 k12
        obtain ⟨k0, k1, k2, k3, k4, k5, k6, k7, k8, k9, k10, k11, k12⟩ := h3.cells
        clear h3 H2
        go_wp2_with fail
        refine (H3.out.ws (mk (putT p.hk p.hn p.ha)) (by omega)).mono ?_
        rintro e W4 ⟨rfl, h4⟩
        have H4 : Hid (Wr w p v (0 + (p.us).size + 1 + ((mk (putT p.hk p.hn p.ha))).size) (((([]) ++ p.us.data.toList) ++ [64]) ++ putT p.hk p.hn p.ha) W4) := h4
        clear k0 k1 k2 k3 k4 k5 k6 k7 k8 k9 k10 k11 k12
        obtain ⟨k0, k1, k2, k3, k4, k5, k6, k7, k8, k9, k10, k11, k12⟩ := h4.cells
        clear h4 H3
        go_wp2_with fail
        refine H4.out.str.mono ?_
        rintro e W5 ⟨rfl, b⟩
        go_wp2
        go_ret
        refine ⟨?_, b⟩
        rw [HT.out, HW.out, HA.out, HP.out]
        simp [mk]
  · by_cases hus : p.us.data.toList = []
    · by_cases hpo : 0 ≤ p.po
      · have hdg := HDG.out hpo
        have CIT := CI.out hpo
        have CIH : Hid (∀ W, Below w.heap.size w W → Calls Tryz.prog 94 #[.int .i64 p.po] W fun e w' => e = .returned (.string (mk (dg p.po))) ∧ Below W.heap.size W w') := CIT
        clear CIT
        have HP : Hid (porL p = 58 :: dg p.po) := by show _ = _; unfold porL; rw [if_pos hpo]
        clear CI HDG
        have HW : Hid (pwL p = 58 :: p.pw.data.toList) := by show _ = _; unfold pwL; rw [if_neg hpw]
        have HA : Hid (atL' p = [64]) := by show _ = _; unfold atL'; rw [if_neg (fun h => hpw h.2)]
        obtain ⟨hw1, hw2⟩ := text_full _ hpw
        clear hpw
        have heu := text_none _ hus
        have HEU : Hid (p.us.data.toList = []) := hus
        rw [heu] at H0 k1
        clear hus
        go_enter Tryz.func67, Tryz.ntmps67
        go_wp2_with fail
        refine (H0.out.ws (ByteArray.mk #[]) (by decide)).mono ?_
        rintro e W1 ⟨rfl, h1⟩
        have H1 : Hid (Wr w p v (0) ([]) W1) := h1
        clear k0 k1 k2 k3 k4 k5 k6 k7 k8 k9 k10 k11 k12
        obtain ⟨k0, k1, k2, k3, k4, k5, k6, k7, k8, k9, k10, k11, k12⟩ := h1.cells
        clear h1 H0
        go_wp2_with fail
        refine (H1.out.wb 58 _ rfl (by omega)).mono ?_
        rintro e W2 ⟨rfl, h2⟩
        have H2 : Hid (Wr w p v (0 + 1) (([]) ++ [58]) W2) := h2
        clear k0 k1 k2 k3 k4 k5 k6 k7 k8 k9 k10 k11 k12
        obtain ⟨k0, k1, k2, k3, k4, k5, k6, k7, k8, k9, k10, k11, k12⟩ := h2.cells
        clear h2 H1
        go_wp2_with fail
        refine (H2.out.ws p.pw (by omega)).mono ?_
        rintro e W3 ⟨rfl, h3⟩
        have H3 : Hid (Wr w p v (0 + 1 + (p.pw).size) ((([]) ++ [58]) ++ p.pw.data.toList) W3) := h3
        clear k0 k1 k2 k3 k4 k5 k6 k7 k8 k9 k10 k11 k12
        obtain ⟨k0, k1, k2, k3, k4, k5, k6, k7, k8, k9, k10, k11, k12⟩ := h3.cells
        clear h3 H2
        go_wp2_with fail
        refine (H3.out.wb 64 _ rfl (by omega)).mono ?_
        rintro e W4 ⟨rfl, h4⟩
        have H4 : Hid (Wr w p v (0 + 1 + (p.pw).size + 1) (((([]) ++ [58]) ++ p.pw.data.toList) ++ [64]) W4) := h4
        clear k0 k1 k2 k3 k4 k5 k6 k7 k8 k9 k10 k11 k12
        obtain ⟨k0, k1, k2, k3, k4, k5, k6, k7, k8, k9, k10, k11, k12⟩ := h4.cells
        clear h4 H3
        go_wp2_with fail
        refine (CH.out _ H4.out.bw).mono ?_
        rintro e W5 ⟨rfl, d5⟩
        have h5 := H4.out.later d5
        clear d5
        have H5 : Hid (Wr w p v (0 + 1 + (p.pw).size + 1) (((([]) ++ [58]) ++ p.pw.data.toList) ++ [64]) W5) := h5
        clear k0 k1 k2 k3 k4 k5 k6 k7 k8 k9 k10 k11 k12
        obtain ⟨k0, k1, k2, k3, k4, k5, k6, k7, k8, k9, k10, k11, k12⟩ := h5.cells
        clear h5 H4
        go_wp2_with fail
        refine (H5.out.ws (mk (putT p.hk p.hn p.ha)) (by omega)).mono ?_
        rintro e W6 ⟨rfl, h6⟩
        have H6 : Hid (Wr w p v (0 + 1 + (p.pw).size + 1 + ((mk (putT p.hk p.hn p.ha))).size) ((((([]) ++ [58]) ++ p.pw.data.toList) ++ [64]) ++ putT p.hk p.hn p.ha) W6) := h6
        clear k0 k1 k2 k3 k4 k5 k6 k7 k8 k9 k10 k11 k12
        obtain ⟨k0, k1, k2, k3, k4, k5, k6, k7, k8, k9, k10, k11, k12⟩ := h6.cells
        clear h6 H5
        go_wp2_with fail
        refine (H6.out.wb 58 _ rfl (by omega)).mono ?_
        rintro e W7 ⟨rfl, h7⟩
        have H7 : Hid (Wr w p v (0 + 1 + (p.pw).size + 1 + ((mk (putT p.hk p.hn p.ha))).size + 1) (((((([]) ++ [58]) ++ p.pw.data.toList) ++ [64]) ++ putT p.hk p.hn p.ha) ++ [58]) W7) := h7
        clear k0 k1 k2 k3 k4 k5 k6 k7 k8 k9 k10 k11 k12
        obtain ⟨k0, k1, k2, k3, k4, k5, k6, k7, k8, k9, k10, k11, k12⟩ := h7.cells
        clear h7 H6
        go_wp2_with fail
        refine (CIH.out _ H7.out.bw).mono ?_
        rintro e W8 ⟨rfl, d8⟩
        have h8 := H7.out.later d8
        clear d8
        have H8 : Hid (Wr w p v (0 + 1 + (p.pw).size + 1 + ((mk (putT p.hk p.hn p.ha))).size + 1) (((((([]) ++ [58]) ++ p.pw.data.toList) ++ [64]) ++ putT p.hk p.hn p.ha) ++ [58]) W8) := h8
        clear k0 k1 k2 k3 k4 k5 k6 k7 k8 k9 k10 k11 k12
        obtain ⟨k0, k1, k2, k3, k4, k5, k6, k7, k8, k9, k10, k11, k12⟩ := h8.cells
        clear h8 H7
        go_wp2_with fail
        refine (H8.out.ws (mk (dg p.po)) (by omega)).mono ?_
        rintro e W9 ⟨rfl, h9⟩
        have H9 : Hid (Wr w p v (0 + 1 + (p.pw).size + 1 + ((mk (putT p.hk p.hn p.ha))).size + 1 + ((mk (dg p.po))).size) ((((((([]) ++ [58]) ++ p.pw.data.toList) ++ [64]) ++ putT p.hk p.hn p.ha) ++ [58]) ++ dg p.po) W9) := h9
        clear k0 k1 k2 k3 k4 k5 k6 k7 k8 k9 k10 k11 k12
        obtain ⟨k0, k1, k2, k3, k4, k5, k6, k7, k8, k9, k10, k11, k12⟩ := h9.cells
        clear h9 H8
        go_wp2_with fail
        refine H9.out.str.mono ?_
        rintro e W10 ⟨rfl, b⟩
        go_wp2
        go_ret
        refine ⟨?_, b⟩
        rw [HT.out, HW.out, HA.out, HP.out, HEU.out]
        simp [mk]
      · have HP : Hid (porL p = []) := by show _ = _; unfold porL; rw [if_neg (by omega)]
        clear CI HDG
        have HW : Hid (pwL p = 58 :: p.pw.data.toList) := by show _ = _; unfold pwL; rw [if_neg hpw]
        have HA : Hid (atL' p = [64]) := by show _ = _; unfold atL'; rw [if_neg (fun h => hpw h.2)]
        obtain ⟨hw1, hw2⟩ := text_full _ hpw
        clear hpw
        have heu := text_none _ hus
        have HEU : Hid (p.us.data.toList = []) := hus
        rw [heu] at H0 k1
        clear hus
        go_enter Tryz.func67, Tryz.ntmps67
        go_wp2_with fail
        refine (H0.out.ws (ByteArray.mk #[]) (by decide)).mono ?_
        rintro e W1 ⟨rfl, h1⟩
        have H1 : Hid (Wr w p v (0) ([]) W1) := h1
        clear k0 k1 k2 k3 k4 k5 k6 k7 k8 k9 k10 k11 k12
        obtain ⟨k0, k1, k2, k3, k4, k5, k6, k7, k8, k9, k10, k11, k12⟩ := h1.cells
        clear h1 H0
        go_wp2_with fail
        refine (H1.out.wb 58 _ rfl (by omega)).mono ?_
        rintro e W2 ⟨rfl, h2⟩
        have H2 : Hid (Wr w p v (0 + 1) (([]) ++ [58]) W2) := h2
        clear k0 k1 k2 k3 k4 k5 k6 k7 k8 k9 k10 k11 k12
        obtain ⟨k0, k1, k2, k3, k4, k5, k6, k7, k8, k9, k10, k11, k12⟩ := h2.cells
        clear h2 H1
        go_wp2_with fail
        refine (H2.out.ws p.pw (by omega)).mono ?_
        rintro e W3 ⟨rfl, h3⟩
        have H3 : Hid (Wr w p v (0 + 1 + (p.pw).size) ((([]) ++ [58]) ++ p.pw.data.toList) W3) := h3
        clear k0 k1 k2 k3 k4 k5 k6 k7 k8 k9 k10 k11 k12
        obtain ⟨k0, k1, k2, k3, k4, k5, k6, k7, k8, k9, k10, k11, k12⟩ := h3.cells
        clear h3 H2
        go_wp2_with fail
        refine (H3.out.wb 64 _ rfl (by omega)).mono ?_
        rintro e W4 ⟨rfl, h4⟩
        have H4 : Hid (Wr w p v (0 + 1 + (p.pw).size + 1) (((([]) ++ [58]) ++ p.pw.data.toList) ++ [64]) W4) := h4
        clear k0 k1 k2 k3 k4 k5 k6 k7 k8 k9 k10 k11 k12
        obtain ⟨k0, k1, k2, k3, k4, k5, k6, k7, k8, k9, k10, k11, k12⟩ := h4.cells
        clear h4 H3
        go_wp2_with fail
        refine (CH.out _ H4.out.bw).mono ?_
        rintro e W5 ⟨rfl, d5⟩
        have h5 := H4.out.later d5
        clear d5
        have H5 : Hid (Wr w p v (0 + 1 + (p.pw).size + 1) (((([]) ++ [58]) ++ p.pw.data.toList) ++ [64]) W5) := h5
        clear k0 k1 k2 k3 k4 k5 k6 k7 k8 k9 k10 k11 k12
        obtain ⟨k0, k1, k2, k3, k4, k5, k6, k7, k8, k9, k10, k11, k12⟩ := h5.cells
        clear h5 H4
        go_wp2_with fail
        refine (H5.out.ws (mk (putT p.hk p.hn p.ha)) (by omega)).mono ?_
        rintro e W6 ⟨rfl, h6⟩
        have H6 : Hid (Wr w p v (0 + 1 + (p.pw).size + 1 + ((mk (putT p.hk p.hn p.ha))).size) ((((([]) ++ [58]) ++ p.pw.data.toList) ++ [64]) ++ putT p.hk p.hn p.ha) W6) := h6
        clear k0 k1 k2 k3 k4 k5 k6 k7 k8 k9 k10 k11 k12
        obtain ⟨k0, k1, k2, k3, k4, k5, k6, k7, k8, k9, k10, k11, k12⟩ := h6.cells
        clear h6 H5
        go_wp2_with fail
        refine H6.out.str.mono ?_
        rintro e W7 ⟨rfl, b⟩
        go_wp2
        go_ret
        refine ⟨?_, b⟩
        rw [HT.out, HW.out, HA.out, HP.out, HEU.out]
        simp [mk]
    · by_cases hpo : 0 ≤ p.po
      · have hdg := HDG.out hpo
        have CIT := CI.out hpo
        have CIH : Hid (∀ W, Below w.heap.size w W → Calls Tryz.prog 94 #[.int .i64 p.po] W fun e w' => e = .returned (.string (mk (dg p.po))) ∧ Below W.heap.size W w') := CIT
        clear CIT
        have HP : Hid (porL p = 58 :: dg p.po) := by show _ = _; unfold porL; rw [if_pos hpo]
        clear CI HDG
        have HW : Hid (pwL p = 58 :: p.pw.data.toList) := by show _ = _; unfold pwL; rw [if_neg hpw]
        have HA : Hid (atL' p = [64]) := by show _ = _; unfold atL'; rw [if_neg (fun h => hpw h.2)]
        obtain ⟨hw1, hw2⟩ := text_full _ hpw
        clear hpw
        obtain ⟨hu1', hu2'⟩ := text_full _ hus
        clear hus
        go_enter Tryz.func67, Tryz.ntmps67
        go_wp2_with fail
        refine (H0.out.ws p.us (by omega)).mono ?_
        rintro e W1 ⟨rfl, h1⟩
        have H1 : Hid (Wr w p v (0 + (p.us).size) (([]) ++ p.us.data.toList) W1) := h1
        clear k0 k1 k2 k3 k4 k5 k6 k7 k8 k9 k10 k11 k12
        obtain ⟨k0, k1, k2, k3, k4, k5, k6, k7, k8, k9, k10, k11, k12⟩ := h1.cells
        clear h1 H0
        go_wp2_with fail
        refine (H1.out.wb 58 _ rfl (by omega)).mono ?_
        rintro e W2 ⟨rfl, h2⟩
        have H2 : Hid (Wr w p v (0 + (p.us).size + 1) ((([]) ++ p.us.data.toList) ++ [58]) W2) := h2
        clear k0 k1 k2 k3 k4 k5 k6 k7 k8 k9 k10 k11 k12
        obtain ⟨k0, k1, k2, k3, k4, k5, k6, k7, k8, k9, k10, k11, k12⟩ := h2.cells
        clear h2 H1
        go_wp2_with fail
        refine (H2.out.ws p.pw (by omega)).mono ?_
        rintro e W3 ⟨rfl, h3⟩
        have H3 : Hid (Wr w p v (0 + (p.us).size + 1 + (p.pw).size) (((([]) ++ p.us.data.toList) ++ [58]) ++ p.pw.data.toList) W3) := h3
        clear k0 k1 k2 k3 k4 k5 k6 k7 k8 k9 k10 k11 k12
        obtain ⟨k0, k1, k2, k3, k4, k5, k6, k7, k8, k9, k10, k11, k12⟩ := h3.cells
        clear h3 H2
        go_wp2_with fail
        refine (H3.out.wb 64 _ rfl (by omega)).mono ?_
        rintro e W4 ⟨rfl, h4⟩
        have H4 : Hid (Wr w p v (0 + (p.us).size + 1 + (p.pw).size + 1) ((((([]) ++ p.us.data.toList) ++ [58]) ++ p.pw.data.toList) ++ [64]) W4) := h4
        clear k0 k1 k2 k3 k4 k5 k6 k7 k8 k9 k10 k11 k12
        obtain ⟨k0, k1, k2, k3, k4, k5, k6, k7, k8, k9, k10, k11, k12⟩ := h4.cells
        clear h4 H3
        go_wp2_with fail
        refine (CH.out _ H4.out.bw).mono ?_
        rintro e W5 ⟨rfl, d5⟩
        have h5 := H4.out.later d5
        clear d5
        have H5 : Hid (Wr w p v (0 + (p.us).size + 1 + (p.pw).size + 1) ((((([]) ++ p.us.data.toList) ++ [58]) ++ p.pw.data.toList) ++ [64]) W5) := h5
        clear k0 k1 k2 k3 k4 k5 k6 k7 k8 k9 k10 k11 k12
        obtain ⟨k0, k1, k2, k3, k4, k5, k6, k7, k8, k9, k10, k11, k12⟩ := h5.cells
        clear h5 H4
        go_wp2_with fail
        refine (H5.out.ws (mk (putT p.hk p.hn p.ha)) (by omega)).mono ?_
        rintro e W6 ⟨rfl, h6⟩
        have H6 : Hid (Wr w p v (0 + (p.us).size + 1 + (p.pw).size + 1 + ((mk (putT p.hk p.hn p.ha))).size) (((((([]) ++ p.us.data.toList) ++ [58]) ++ p.pw.data.toList) ++ [64]) ++ putT p.hk p.hn p.ha) W6) := h6
        clear k0 k1 k2 k3 k4 k5 k6 k7 k8 k9 k10 k11 k12
        obtain ⟨k0, k1, k2, k3, k4, k5, k6, k7, k8, k9, k10, k11, k12⟩ := h6.cells
        clear h6 H5
        go_wp2_with fail
        refine (H6.out.wb 58 _ rfl (by omega)).mono ?_
        rintro e W7 ⟨rfl, h7⟩
        have H7 : Hid (Wr w p v (0 + (p.us).size + 1 + (p.pw).size + 1 + ((mk (putT p.hk p.hn p.ha))).size + 1) ((((((([]) ++ p.us.data.toList) ++ [58]) ++ p.pw.data.toList) ++ [64]) ++ putT p.hk p.hn p.ha) ++ [58]) W7) := h7
        clear k0 k1 k2 k3 k4 k5 k6 k7 k8 k9 k10 k11 k12
        obtain ⟨k0, k1, k2, k3, k4, k5, k6, k7, k8, k9, k10, k11, k12⟩ := h7.cells
        clear h7 H6
        go_wp2_with fail
        refine (CIH.out _ H7.out.bw).mono ?_
        rintro e W8 ⟨rfl, d8⟩
        have h8 := H7.out.later d8
        clear d8
        have H8 : Hid (Wr w p v (0 + (p.us).size + 1 + (p.pw).size + 1 + ((mk (putT p.hk p.hn p.ha))).size + 1) ((((((([]) ++ p.us.data.toList) ++ [58]) ++ p.pw.data.toList) ++ [64]) ++ putT p.hk p.hn p.ha) ++ [58]) W8) := h8
        clear k0 k1 k2 k3 k4 k5 k6 k7 k8 k9 k10 k11 k12
        obtain ⟨k0, k1, k2, k3, k4, k5, k6, k7, k8, k9, k10, k11, k12⟩ := h8.cells
        clear h8 H7
        go_wp2_with fail
        refine (H8.out.ws (mk (dg p.po)) (by omega)).mono ?_
        rintro e W9 ⟨rfl, h9⟩
        have H9 : Hid (Wr w p v (0 + (p.us).size + 1 + (p.pw).size + 1 + ((mk (putT p.hk p.hn p.ha))).size + 1 + ((mk (dg p.po))).size) (((((((([]) ++ p.us.data.toList) ++ [58]) ++ p.pw.data.toList) ++ [64]) ++ putT p.hk p.hn p.ha) ++ [58]) ++ dg p.po) W9) := h9
        clear k0 k1 k2 k3 k4 k5 k6 k7 k8 k9 k10 k11 k12
        obtain ⟨k0, k1, k2, k3, k4, k5, k6, k7, k8, k9, k10, k11, k12⟩ := h9.cells
        clear h9 H8
        go_wp2_with fail
        refine H9.out.str.mono ?_
        rintro e W10 ⟨rfl, b⟩
        go_wp2
        go_ret
        refine ⟨?_, b⟩
        rw [HT.out, HW.out, HA.out, HP.out]
        simp [mk]
      · have HP : Hid (porL p = []) := by show _ = _; unfold porL; rw [if_neg (by omega)]
        clear CI HDG
        have HW : Hid (pwL p = 58 :: p.pw.data.toList) := by show _ = _; unfold pwL; rw [if_neg hpw]
        have HA : Hid (atL' p = [64]) := by show _ = _; unfold atL'; rw [if_neg (fun h => hpw h.2)]
        obtain ⟨hw1, hw2⟩ := text_full _ hpw
        clear hpw
        obtain ⟨hu1', hu2'⟩ := text_full _ hus
        clear hus
        go_enter Tryz.func67, Tryz.ntmps67
        go_wp2_with fail
        refine (H0.out.ws p.us (by omega)).mono ?_
        rintro e W1 ⟨rfl, h1⟩
        have H1 : Hid (Wr w p v (0 + (p.us).size) (([]) ++ p.us.data.toList) W1) := h1
        clear k0 k1 k2 k3 k4 k5 k6 k7 k8 k9 k10 k11 k12
        obtain ⟨k0, k1, k2, k3, k4, k5, k6, k7, k8, k9, k10, k11, k12⟩ := h1.cells
        clear h1 H0
        go_wp2_with fail
        refine (H1.out.wb 58 _ rfl (by omega)).mono ?_
        rintro e W2 ⟨rfl, h2⟩
        have H2 : Hid (Wr w p v (0 + (p.us).size + 1) ((([]) ++ p.us.data.toList) ++ [58]) W2) := h2
        clear k0 k1 k2 k3 k4 k5 k6 k7 k8 k9 k10 k11 k12
        obtain ⟨k0, k1, k2, k3, k4, k5, k6, k7, k8, k9, k10, k11, k12⟩ := h2.cells
        clear h2 H1
        go_wp2_with fail
        refine (H2.out.ws p.pw (by omega)).mono ?_
        rintro e W3 ⟨rfl, h3⟩
        have H3 : Hid (Wr w p v (0 + (p.us).size + 1 + (p.pw).size) (((([]) ++ p.us.data.toList) ++ [58]) ++ p.pw.data.toList) W3) := h3
        clear k0 k1 k2 k3 k4 k5 k6 k7 k8 k9 k10 k11 k12
        obtain ⟨k0, k1, k2, k3, k4, k5, k6, k7, k8, k9, k10, k11, k12⟩ := h3.cells
        clear h3 H2
        go_wp2_with fail
        refine (H3.out.wb 64 _ rfl (by omega)).mono ?_
        rintro e W4 ⟨rfl, h4⟩
        have H4 : Hid (Wr w p v (0 + (p.us).size + 1 + (p.pw).size + 1) ((((([]) ++ p.us.data.toList) ++ [58]) ++ p.pw.data.toList) ++ [64]) W4) := h4
        clear k0 k1 k2 k3 k4 k5 k6 k7 k8 k9 k10 k11 k12
        obtain ⟨k0, k1, k2, k3, k4, k5, k6, k7, k8, k9, k10, k11, k12⟩ := h4.cells
        clear h4 H3
        go_wp2_with fail
        refine (CH.out _ H4.out.bw).mono ?_
        rintro e W5 ⟨rfl, d5⟩
        have h5 := H4.out.later d5
        clear d5
        have H5 : Hid (Wr w p v (0 + (p.us).size + 1 + (p.pw).size + 1) ((((([]) ++ p.us.data.toList) ++ [58]) ++ p.pw.data.toList) ++ [64]) W5) := h5
        clear k0 k1 k2 k3 k4 k5 k6 k7 k8 k9 k10 k11 k12
        obtain ⟨k0, k1, k2, k3, k4, k5, k6, k7, k8, k9, k10, k11, k12⟩ := h5.cells
        clear h5 H4
        go_wp2_with fail
        refine (H5.out.ws (mk (putT p.hk p.hn p.ha)) (by omega)).mono ?_
        rintro e W6 ⟨rfl, h6⟩
        have H6 : Hid (Wr w p v (0 + (p.us).size + 1 + (p.pw).size + 1 + ((mk (putT p.hk p.hn p.ha))).size) (((((([]) ++ p.us.data.toList) ++ [58]) ++ p.pw.data.toList) ++ [64]) ++ putT p.hk p.hn p.ha) W6) := h6
        clear k0 k1 k2 k3 k4 k5 k6 k7 k8 k9 k10 k11 k12
        obtain ⟨k0, k1, k2, k3, k4, k5, k6, k7, k8, k9, k10, k11, k12⟩ := h6.cells
        clear h6 H5
        go_wp2_with fail
        refine H6.out.str.mono ?_
        rintro e W7 ⟨rfl, b⟩
        go_wp2
        go_ret
        refine ⟨?_, b⟩
        rw [HT.out, HW.out, HA.out, HP.out]
        simp [mk]
end Go.Proofs.YtcmglinehdpnlaaGreatDoor
end

/- impl.pathOn from an empty path, and impl.PathGet: the path of a text. -/
import Derived.Test.YtjkbgdnjghlakaaDoorOwnS
import Derived.Test.YtjkbgdnjghlakaaDoorPathP
import Derived.Test.YtjkbgdnjghlakaaDoorLow
import Derived.Test.YtjkbgdnjghlakaaDoorEnc
set_option linter.unusedVariables false
namespace Go.Proofs.YtjkbgdnjghlakaaDoor
open Go.RowKit Go.Shelf

theorem OwnS.later {B : Nat} {v : Value} {ps : List (List UInt8)} {w w' : World} (h : OwnS B v ps w) (hb : Below w.heap.size w w') : OwnS B v ps w' := by
  refine ⟨h.1, ?_⟩
  rcases h.2 with h | ⟨g, cap, cur, hv, hB, hg, hnc, hcm, hcs, ht⟩
  · exact .inl h
  · exact .inr ⟨g, cap, cur, hv, hB, (hb.block g (Array.getElem?_eq_some_iff.1 hg).1).trans hg, hnc, hcm, hcs, ht⟩
theorem OwnS.base {B B' : Nat} {v : Value} {ps : List (List UInt8)} {w : World} (h : OwnS B v ps w) (hB : B' ≤ B) : OwnS B' v ps w := by
  refine ⟨h.1, ?_⟩
  rcases h.2 with h | ⟨g, cap, cur, hv, hb, hg, hnc, hcm, hcs, ht⟩
  · exact .inl h
  · exact .inr ⟨g, cap, cur, hv, by omega, hg, hnc, hcm, hcs, ht⟩
theorem ownS_nil (w : World) (B : Nat) : OwnS B (.slice none 0 0) [] w := World.ownsRow_nil _ _ _ _
theorem OwnS.shape {B : Nat} {v : Value} {ps : List (List UInt8)} {w : World} (h : OwnS B v ps w) : ∃ a c, v = .slice a ps.length c ∧ ps.length ≤ c := by
  rcases h.2 with ⟨hv, h0⟩ | ⟨g, cap, cur, hv, _, _, hc, _⟩
  · exact ⟨none, 0, by rw [hv, h0], by omega⟩
  · exact ⟨_, cap, hv, hc⟩
theorem OwnS.pop {B n c : Nat} {a : Option Addr} {ps : List (List UInt8)} {w : World} (h : OwnS B (.slice a (n + 1) c) ps w) : OwnS B (.slice a n c) ps.dropLast w := by
  rcases h.2 with ⟨hv, h0⟩ | ⟨g, cap, cur, hv, hB, hg, hnc, hcm, hcs, ht⟩
  · cases hv
  · simp only [Value.slice.injEq] at hv
    obtain ⟨rfl, hn, rfl⟩ := hv
    have hd : ps.dropLast.length = n := by rw [List.length_dropLast]; omega
    refine ⟨by simp, .inr ⟨g, c, cur, by rw [hd], hB, hg, by omega, hcm, hcs, ?_⟩⟩
    have e : (cur.toList.take (ps.length * 1)).take n = (ps.map fun p => Value.string (mk p)).take n := by rw [ht]
    rw [List.take_take] at e
    rw [hd, Nat.mul_one, show n = min n (ps.length * 1) from by omega, e, List.dropLast_eq_take, List.map_take, ← hn]
    simp
theorem OwnS.strs {B : Nat} {v : Value} {ps : List (List UInt8)} {w : World} (h : OwnS B v ps w) : ∃ a c, v = .slice a ps.length c ∧ ps.length ≤ c ∧ StrsOf a ps.length ps w := by
  by_cases h0 : ps = []
  · obtain ⟨a, c, hv, hc⟩ := h.shape
    exact ⟨a, c, hv, hc, rfl, .inl h0⟩
  · obtain ⟨g, c, hv, _, hc, hS⟩ := ownS_strs h h0
    refine ⟨_, c, hv, hc, rfl, .inr ⟨g, 0, rfl, fun j hj => ?_⟩⟩
    rw [Nat.zero_add]; exact hS.cell j hj

theorem stepL_0 (path : List (List UInt8)) (p : List UInt8) (b : Bool) (h : dots p = 0) : stepL path p b = path ++ [encT p] := by
  unfold stepL backL; rw [if_pos h, if_neg (by omega)]
theorem stepL_1 (path : List (List UInt8)) (p : List UInt8) (b : Bool) (h : dots p = 1) : stepL path p b = if b then path ++ [[]] else path := by
  have h0 : ¬ dots p = 0 := by omega
  have h2 : ¬ dots p = 2 := by omega
  unfold stepL backL; rw [if_neg h0, if_neg h2]
theorem stepL_2 (path : List (List UInt8)) (p : List UInt8) (b : Bool) (h : dots p = 2) : stepL path p b = if b then path.dropLast ++ [[]] else path.dropLast := by
  unfold stepL backL; rw [if_neg (by omega), if_pos h]

theorem cell_kept {B G o : Nat} {v : Value} {w w' : World} (hb : Below B w w') (h : w.cell? ⟨G, o, none⟩ = some v) (hG : G < B) : w'.cell? ⟨G, o, none⟩ = some v := by
  rw [hb.cell (p := ⟨G, o, none⟩) hG]; exact h
theorem mk_ne {l k : List UInt8} (h : l ≠ k) : ((mk l).toList == k) = false := by
    rw [beq_eq_false_iff_ne, ByteArray.toList_eq, mk_data]; exact h

set_option maxHeartbeats 4000000 in
set_option maxRecDepth 100000 in
theorem pathOn (s : ByteArray) (m : Int) (w : World) (hs : s.size ≤ 200) (hm : w.cell? ⟨0, 0, none⟩ = some (.int .i64 m)) :
    Calls Tryd.prog 18 #[.slice none 0 0, .string s] w fun e w' => ∃ v, e = .returned v ∧ OwnS w.heap.size v (walkL [] (piecesL s.data.toList)) w' ∧ Below w.heap.size w w' := by
  have hl : s.data.toList.length = s.size := by simp
  have hG : 0 < w.heap.size := cell_in hm
  obtain ⟨P, hP⟩ : ∃ P, P = piecesL s.data.toList := ⟨_, rfl⟩
  have hPl : P.length ≤ 201 := by rw [hP]; have := piecesL_len s.data.toList; omega
  have HM : Hid (∀ q ∈ P, q.length ≤ 200) := by intro q hq; rw [hP] at hq; have := piecesL_mem _ q hq; omega
  have HNE : Hid (P ≠ []) := by rw [hP]; exact piecesL_ne _
  obtain ⟨t1, ht1⟩ : ∃ t1, t1 = mk (slashL s.data.toList) := ⟨_, rfl⟩
  obtain ⟨t2, ht2⟩ : ∃ t2, t2 = mk (trim1 (slashL s.data.toList)) := ⟨_, rfl⟩
  have ht1s : t1.size ≤ 200 := by rw [ht1, mk_size, slashL_len]; omega
  have ht2s : t2.size ≤ 200 := by rw [ht2, mk_size]; have := trim1_len (slashL s.data.toList); rw [slashL_len] at this; omega
  have C1 : Hid (Calls Tryd.prog 27 #[.string s, .string ⟨#[92]⟩, .string ⟨#[47]⟩] w fun e w' => e = .returned (.string t1) ∧ Below w.heap.size w w') := by
    refine (Tryd.strings_ReplaceAll s ⟨#[92]⟩ ⟨#[47]⟩ m w (by omega) hm (by decide) ?_).mono ?_
    · have := Lib.countB_le ⟨#[92]⟩ (by decide) s.size s (Nat.le_refl _)
      have e : (⟨#[47]⟩ : ByteArray).size = 1 := rfl
      rw [e]; omega
    · rintro e w' ⟨rfl, b⟩
      refine ⟨?_, b⟩
      rw [ht1]; show Ending.returned (.string ⟨(Lib.replaceAll s.data.toList [92] [47]).toArray⟩) = _
      rw [rep_one 92 47 (by decide)]; rfl
  have C2 : Hid (∀ W, Calls Tryd.prog 29 #[.string t1, .string ⟨#[47]⟩] W fun e w' => e = .returned (.string t2) ∧ w' = W) := by
    intro W
    refine (Tryd.strings_TrimPrefix t1 ⟨#[47]⟩ W).mono ?_
    rintro e w' ⟨rfl, rfl⟩
    refine ⟨?_, rfl⟩
    show Ending.returned (.string ⟨(Lib.trimPrefix t1.data.toList [47]).toArray⟩) = _
    rw [trimPrefix_one, ht1, mk_data, ht2]; rfl
  have hcnt : Lib.countB t2 (mk [47]) + 1 = P.length := by rw [← cut_len, hP, ht2, mk_data]; rfl
  have C3 : Hid (∀ W, W.cell? ⟨0, 0, none⟩ = some (.int .i64 m) → Calls Tryd.prog 28 #[.string t2, .string ⟨#[47]⟩] W fun e w' => e = .returned (.slice (some ⟨W.heap.size, 0, none⟩) P.length P.length) ∧ StrsAt W.heap.size P w' ∧ Below W.heap.size W w' ∧ W.heap.size < w'.heap.size) := by
    intro W hW
    refine (Tryd.strings_Split t2 (mk [47]) m W (by omega) hW (by rw [mk_size]; simp)).mono ?_
    rintro e w' ⟨rfl, rfl⟩
    refine ⟨by rw [hcnt], ?_, (Below.refl _ W).alloc (Nat.le_refl _) _, by simp⟩
    refine ⟨_, _, _, heap_alloc_new W _, fun j hj => ?_⟩
    have e : cutL 47 t2.data.toList = P := by rw [ht2, mk_data, hP]; rfl
    rw [split_cut, e]
    simp [hj]
  have HP : Hid (P = piecesL s.data.toList) := hP
  clear hcnt ht1 ht2 hP
  go_enter Tryd.func18, Tryd.ntmps18
  go_wp2_with fail
  refine C1.out.mono ?_
  rintro e w1 ⟨rfl, b1⟩
  have hm1 : w1.cell? ⟨0, 0, none⟩ = some (.int .i64 m) := cell_kept b1 hm hG
  go_wp2_with fail
  refine (C2.out _).mono ?_
  rintro e w2 ⟨rfl, rfl⟩
  go_wp2_with fail
  refine (C3.out _ hm1).mono ?_
  rintro e w3 ⟨rfl, hS3, b3, z3⟩
  have z1 := b1.size
  have hS3lt := hS3.lt
  have hm3 : w3.cell? ⟨0, 0, none⟩ = some (.int .i64 m) := cell_kept b3 hm1 (by omega)
  have bb : Below w.heap.size w w3 := b1.trans (b3.mono z1)
  obtain ⟨g, hg⟩ : ∃ g, g = w2.heap.size := ⟨_, rfl⟩
  rw [← hg] at hS3 hS3lt z3 ⊢
  have hgB : w.heap.size ≤ g := by omega
  clear C1 C2 C3 b1 b3 hm1 hm z1 hg
  clear w2
  go_wp2_with fail
  go_loopw [0, 17] (fun v i wr => ∃ k : Nat, k ≤ P.length ∧ i = .int .i64 k ∧ OwnS w3.heap.size v (walkTo [] P k) wr ∧ Below w3.heap.size w3 wr) (fun _ i wr => P.length - (intOf i).toNat)
  case atStart => exact ⟨0, Nat.zero_le _, rfl, by rw [walkTo_zero [] P HNE.out]; exact ownS_nil _ _, Below.refl _ _⟩
  case round =>
    obtain ⟨k, hk, rfl, hI, hbw⟩ := hrel
    have hsz : w3.heap.size ≤ wr.heap.size := hbw.size
    by_cases hp : k < P.length
    · have hki : (k : Int) < (P.length : Int) := by omega
      have hc0 := hS3.cell k hp
      have hc : wr.cell? ⟨g, k, none⟩ = some (.string (mk P[k])) := by rw [hbw.cell (p := ⟨g, k, none⟩) hS3lt]; exact hc0
      clear hc0
      have HST : Hid (walkTo [] P (k + 1) = stepL (walkTo [] P k) P[k] (decide (k = P.length - 1))) := walkTo_succ [] P k hp
      have hal : (walkTo [] P k).length ≤ P.length := by simpa using walkTo_len [] P k
      obtain ⟨acc, hacc⟩ : ∃ acc, acc = walkTo [] P k := ⟨_, rfl⟩
      rw [← hacc] at hI HST hal
      have hql : P[k].length ≤ 200 := HM.out _ (List.getElem_mem _)
      obtain ⟨p, hpp⟩ : ∃ p, p = P[k] := ⟨_, rfl⟩
      rw [← hpp] at hc HST hql
      clear hpp hacc
      obtain ⟨z, hz⟩ : ∃ z, z = mk (dotL (low p)) := ⟨_, rfl⟩
      have CL : Hid (∀ W, Calls Tryd.prog 30 #[.string (mk p)] W fun e w' => e = .returned (.string (mk (low p))) ∧ Below W.heap.size W w') := fun W => implLower (mk p) W (by rw [mk_size]; omega)
      have CR : Hid (∀ W, W.cell? ⟨0, 0, none⟩ = some (.int .i64 m) → Calls Tryd.prog 27 #[.string (mk (low p)), .string ⟨#[37, 50, 101]⟩, .string ⟨#[46]⟩] W fun e w' => e = .returned (.string z) ∧ Below W.heap.size W w') := by
        intro W hW
        refine (Tryd.strings_ReplaceAll (mk (low p)) ⟨#[37, 50, 101]⟩ ⟨#[46]⟩ m W (by rw [mk_size, low_length]; omega) hW (by decide) ?_).mono ?_
        · have := Lib.countB_le ⟨#[37, 50, 101]⟩ (by decide) _ (mk (low p)) (Nat.le_refl _)
          have e : (⟨#[46]⟩ : ByteArray).size = 1 := rfl
          rw [mk_size, low_length] at this
          rw [e, mk_size, low_length]; omega
        · rintro e w' ⟨rfl, b⟩
          exact ⟨by rw [hz]; rfl, b⟩
      have CE : Hid (∀ W, Calls Tryd.prog 31 #[.int .i64 1, .string (mk p)] W fun e w' => e = .returned (.string (mk (encT p))) ∧ Below W.heap.size W w') := by
        intro W
        refine (implEncode 1 (mk p) W (by rw [mk_size]; unfold maxLen; omega)).mono ?_
        rintro e w' ⟨rfl, b⟩
        refine ⟨?_, b⟩
        rw [encode_small 1 (mk p) (by rw [mk_size]; omega), mk_data]; rfl
      have hmr : wr.cell? ⟨0, 0, none⟩ = some (.int .i64 m) := cell_kept hbw hm3 (by omega)
      obtain ⟨a, c, rfl, hcc⟩ := hI.shape
      have hk1 : ((P.length : Int) - 1 == (k : Int)) = decide (k = P.length - 1) := by rw [Bool.eq_iff_iff]; simp; omega
      have hk2 : ((k : Int) == (P.length : Int) - 1) = decide (k = P.length - 1) := by rw [Bool.eq_iff_iff]; simp; omega
      go_wp2_with fail
      refine (CL.out _).mono ?_
      rintro e W1 ⟨rfl, d1⟩
      go_wp2_with fail
      refine (CR.out _ (cell_kept d1 hmr (by omega))).mono ?_
      rintro e W2 ⟨rfl, d2⟩
      have hI2 := (hI.later d1).later d2
      have hb2 : Below w3.heap.size w3 W2 := hbw.trans ((d1.mono hsz).trans (d2.mono (by have := d1.size; omega)))
      have hsz2 := hb2.size
      clear CL CR hmr hI hbw d1 d2 hsz
      clear hc
      rcases dots_cases p with ⟨hd, hdz⟩ | ⟨hd, hdz⟩ | ⟨hd, hd1, hd2⟩
      · have hz' : z = ⟨#[46]⟩ := by rw [hz, hdz]; rfl
        clear hz
        subst hz'
        by_cases hlast : k = P.length - 1
        · have hk3 : ((k : Int) == (P.length : Int) - 1) = true := by simp; omega
          go_wp2_with (at_builtin; refine wpAppendStr W2 rfl _ _ rfl w3.heap.size _ acc [] _ rfl hI2 rfl rfl (by omega) hsz2 ?_; intro v1 w4 R b4)
          go_roundw
          case rel => exact ⟨k + 1, by omega, by go_num, by rw [HST.out, stepL_1 _ _ _ hd, decide_eq_true hlast, if_pos rfl]; exact R, hb2.trans b4⟩
          case measure => simp [intOf]; omega
        · have hk3 : ((k : Int) == (P.length : Int) - 1) = false := by simp; omega
          go_wp2
          go_roundw
          case rel => exact ⟨k + 1, by omega, by go_num, by rw [HST.out, stepL_1 _ _ _ hd, decide_eq_false hlast, if_neg (by simp)]; exact hI2, hb2⟩
          case measure => simp [intOf]; omega
      · have hz' : z = ⟨#[46, 46]⟩ := by rw [hz, hdz]; rfl
        clear hz
        subst hz'
        by_cases he : acc = []
        · subst he
          by_cases hlast : k = P.length - 1
          · have hk3 : ((k : Int) == (P.length : Int) - 1) = true := by simp; omega
            go_wp2_with (at_builtin; refine wpAppendStr W2 rfl _ _ rfl w3.heap.size _ [] [] _ rfl hI2 rfl rfl (by decide) hsz2 ?_; intro v1 w4 R b4)
            go_roundw
            case rel => exact ⟨k + 1, by omega, by go_num, by rw [HST.out, stepL_2 _ _ _ hd, decide_eq_true hlast, if_pos rfl]; exact R, hb2.trans b4⟩
            case measure => simp [intOf]; omega
          · have hk3 : ((k : Int) == (P.length : Int) - 1) = false := by simp; omega
            go_wp2
            go_roundw
            case rel => exact ⟨k + 1, by omega, by go_num, by rw [HST.out, stepL_2 _ _ _ hd, decide_eq_false hlast, if_neg (by simp)]; exact hI2, hb2⟩
            case measure => simp [intOf]; omega
        · obtain ⟨n, hn⟩ : ∃ n, acc.length = n + 1 := ⟨acc.length - 1, by have := List.length_pos_iff.2 he; omega⟩
          rw [hn] at hI2 hcc hal ⊢
          have hI3 := hI2.pop
          have hnd : acc.dropLast.length = n := by rw [List.length_dropLast]; omega
          have hn1 : (0 : Int) < (n : Int) + 1 := by omega
          have hn2 : (n : Int) + 1 - 1 = (n : Int) := by omega
          have hn3 : (n : Int) ≤ (c : Int) := by omega
          by_cases hlast : k = P.length - 1
          · have hk3 : ((k : Int) == (P.length : Int) - 1) = true := by simp; omega
            go_wp2_with (at_builtin; refine wpAppendStr W2 rfl _ _ rfl w3.heap.size _ acc.dropLast [] _ rfl hI3 rfl rfl (by omega) hsz2 ?_; intro v1 w4 R b4)
            go_roundw
            case rel => exact ⟨k + 1, by omega, by go_num, by rw [HST.out, stepL_2 _ _ _ hd, decide_eq_true hlast, if_pos rfl]; exact R, hb2.trans b4⟩
            case measure => simp [intOf]; omega
          · have hk3 : ((k : Int) == (P.length : Int) - 1) = false := by simp; omega
            go_wp2
            go_roundw
            case rel => exact ⟨k + 1, by omega, by go_num, by rw [HST.out, stepL_2 _ _ _ hd, decide_eq_false hlast, if_neg (by simp)]; exact hI3, hb2⟩
            case measure => simp [intOf]; omega
      · have e1 : (z.toList == [46]) = false := by rw [hz]; exact mk_ne hd1
        have e2 : (z.toList == [46, 46]) = false := by rw [hz]; exact mk_ne hd2
        clear hz
        go_wp2_with fail
        refine (CE.out _).mono ?_
        rintro e W3 ⟨rfl, d3⟩
        have hI3 := hI2.later d3
        have hb3 := hb2.trans (d3.mono hsz2)
        have hsz3 := hb3.size
        go_wp2_with (at_builtin; refine wpAppendStr W3 rfl _ _ rfl w3.heap.size _ acc (encT p) _ rfl hI3 rfl rfl (by omega) hsz3 ?_; intro v1 w4 R b4)
        go_roundw
        case rel => exact ⟨k + 1, by omega, by go_num, by rw [HST.out, stepL_0 _ _ _ hd]; exact R, hb3.trans b4⟩
        case measure => simp [intOf]; omega
    · have hkk : k = P.length := by omega
      subst hkk
      rw [walkTo_all, HP.out] at hI
      go_wp2
      go_ret
      exact ⟨_, rfl, hI.base (by omega), bb.trans (hbw.mono (by omega))⟩
end Go.Proofs.YtjkbgdnjghlakaaDoor

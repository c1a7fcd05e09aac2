/- impl.pathOn from an empty path, and impl.PathGet: the path of a text. A text turned into bytes that the call writes over: the new row, one byte put, its text again. spec.Lower gives the text with small letters, of at most 2^46 bytes. spec.l1Cut: the pieces of a text. spec.l3Dots, l3Pieces: what a piece is; a path's pieces. -/
import Derived.Test.YtnfhajhdpdidlaaGreatDoorB04
import Derived.Test.YtnfhajhdpdidlaaGreatDoorB03
import Derived.Test.YtnfhajhdpdidlaaGreatDoorB01
import Derived.Test.YtnfhajhdpdidlaaGreatDoorB02
import Derived.Lib.ConvBytes
set_option linter.unusedVariables false
set_option maxHeartbeats 4000000
set_option maxRecDepth 100000
section
namespace Go.Proofs.YtnfhajhdpdidlaaGreatDoor
open Go.RowKit Go.Shelf
theorem OwnS.later {B : Nat} {v : Value} {ps : List (List UInt8)} {w w' : World} (h : OwnS B v ps w) (hb : Below w.heap.size w w') : OwnS B v ps w' := by
 refine ⟨h.1, ?_⟩
 rcases h.2 with h | ⟨g, cap, cur, hv, hB, hg, hnc, hcm, hcs, ht⟩
 ·exact .inl h
 ·exact .inr ⟨g, cap, cur, hv, hB, (hb.block g (Array.getElem?_eq_some_iff.1 hg).1).trans hg, hnc, hcm, hcs, ht⟩
theorem OwnS.base {B B' : Nat} {v : Value} {ps : List (List UInt8)} {w : World} (h : OwnS B v ps w) (hB : B' ≤ B) : OwnS B' v ps w := by
 refine ⟨h.1, ?_⟩
 rcases h.2 with h | ⟨g, cap, cur, hv, hb, hg, hnc, hcm, hcs, ht⟩
 ·exact .inl h
 ·exact .inr ⟨g, cap, cur, hv, by omega, hg, hnc, hcm, hcs, ht⟩
theorem ownS_nil (w : World) (B : Nat) : OwnS B (.slice none 0 0) [] w := World.ownsRow_nil _ _ _ _
theorem OwnS.shape {B : Nat} {v : Value} {ps : List (List UInt8)} {w : World} (h : OwnS B v ps w) : ∃ a c, v = .slice a ps.length c ∧ ps.length ≤ c := by
 rcases h.2 with ⟨hv, h0⟩ | ⟨g, cap, cur, hv, _, _, hc, _⟩
 ·exact ⟨none, 0, by rw [hv, h0], by omega⟩
 ·exact ⟨_, cap, hv, hc⟩
theorem OwnS.pop {B n c : Nat} {a : Option Addr} {ps : List (List UInt8)} {w : World} (h : OwnS B (.slice a (n + 1) c) ps w) : OwnS B (.slice a n c) ps.dropLast w := by
 rcases h.2 with ⟨hv, h0⟩ | ⟨g, cap, cur, hv, hB, hg, hnc, hcm, hcs, ht⟩
 ·cases hv
 ·simp only [Value.slice.injEq] at hv
  obtain ⟨rfl, hn, rfl⟩ := hv
  have hd : ps.dropLast.length = n := by rw [List.length_dropLast]; omega
  refine ⟨by simp, .inr ⟨g, c, cur, by rw [hd], hB, hg, by omega, hcm, hcs, ?_⟩⟩
  have e : (cur.toList.take (ps.length * 1)).take n = (ps.map fun p => Value.string (mk p)).take n := by rw [ht]
  rw [List.take_take] at e
  rw [hd, Nat.mul_one, show n = min n (ps.length * 1) from by omega, e, List.dropLast_eq_take, List.map_take, ← hn]
  simp
theorem OwnS.strs {B : Nat} {v : Value} {ps : List (List UInt8)} {w : World} (h : OwnS B v ps w) : ∃ a c, v = .slice a ps.length c ∧ ps.length ≤ c ∧ StrsOf a ps.length ps w := by
 by_cases h0 : ps = []
 ·obtain ⟨a, c, hv, hc⟩ := h.shape
  exact ⟨a, c, hv, hc, rfl, .inl h0⟩
 ·obtain ⟨g, c, hv, _, hc, hS⟩ := ownS_strs h h0
  refine ⟨_, c, hv, hc, rfl, .inr ⟨g, 0, rfl, fun j hj => ?_⟩⟩
  rw [Nat.zero_add]; exact hS.cell j hj
theorem stepL_0 (path : List (List UInt8)) (p : List UInt8) (b : Bool) (h : dots p = 0) : stepL path p b = path ++ [encT p] := by
 unfold stepL backL; rw [if_pos h, if_neg (by omega)]
theorem stepL_1 (path : List (List UInt8)) (p : List UInt8) (b : Bool) (h : dots p = 1) : stepL path p b = if b then path ++ [[]] else path := by
 have h0 : ¬ dots p = 0 := by omega
 have h2 : ¬ dots p = 2 := by omega
 unfold stepL backL; rw [if_neg h0, if_neg h2]
theorem stepL_2 (path : List (List UInt8)) (p : List UInt8) (b : Bool) (h : dots p = 2) : stepL path p b = if b then path.dropLast ++ [[]] else path.dropLast := by
 unfold stepL backL; rw [if_neg (by omega), if_pos h]
theorem cell_kept {B G o : Nat} {v : Value} {w w' : World} (hb : Below B w w') (h : w.cell? ⟨G, o, none⟩ = some v) (hG : G < B) : w'.cell? ⟨G, o, none⟩ = some v := by
 rw [hb.cell (p := ⟨G, o, none⟩) hG]; exact h
theorem mk_ne {l k : List UInt8} (h : l ≠ k) : ((mk l).toList == k) = false := by
  rw [beq_eq_false_iff_ne, ByteArray.toList_eq, mk_data]; exact h
theorem pathOn (s : ByteArray) (m : Int) (w : World) (hs : s.size ≤ 200) (hm : w.cell? ⟨0, 0, none⟩ = some (.int .i64 m)) :
  Calls Tryz.prog 195 #[.slice none 0 0, .string s] w fun e w' => ∃ v, e = .returned v ∧ OwnS w.heap.size v (walkL [] (piecesL s.data.toList)) w' ∧ Below w.heap.size w w' := by
 have hl : s.data.toList.length = s.size := by simp
 have hG : 0 < w.heap.size := cell_in hm
 obtain ⟨P, hP⟩ : ∃ P, P = piecesL s.data.toList := ⟨_, rfl⟩
 have hPl : P.length ≤ 201 := by rw [hP]; have := piecesL_len s.data.toList; omega
 have HM : Hid (∀ q ∈ P, q.length ≤ 200) := by intro q hq; rw [hP] at hq; have := piecesL_mem _ q hq; omega
 have HNE : Hid (P ≠ []) := by rw [hP]; exact piecesL_ne _
 obtain ⟨t1, ht1⟩ : ∃ t1, t1 = mk (slashL s.data.toList) := ⟨_, rfl⟩
 obtain ⟨t2, ht2⟩ : ∃ t2, t2 = mk (trim1 (slashL s.data.toList)) := ⟨_, rfl⟩
 have ht1s : t1.size ≤ 200 := by rw [ht1, mk_size, slashL_len]; omega
 have ht2s : t2.size ≤ 200 := by rw [ht2, mk_size]; have := trim1_len (slashL s.data.toList); rw [slashL_len] at this; omega
 have C1 : Hid (Calls Tryz.prog 88 #[.string s, .string ⟨#[92]⟩, .string ⟨#[47]⟩] w fun e w' => e = .returned (.string t1) ∧ Below w.heap.size w w') := by
  refine (Tryz.strings_ReplaceAll s ⟨#[92]⟩ ⟨#[47]⟩ m w (by omega) hm (by decide) ?_).mono ?_
  ·have := Lib.countB_le ⟨#[92]⟩ (by decide) s.size s (Nat.le_refl _)
   have e : (⟨#[47]⟩ : ByteArray).size = 1 := rfl
   rw [e]; omega
  ·rintro e w' ⟨rfl, b⟩
   refine ⟨?_, b⟩
   rw [ht1]; show Ending.returned (.string ⟨(Lib.replaceAll s.data.toList [92] [47]).toArray⟩) = _
   rw [rep_one 92 47 (by decide)]; rfl
 have C2 : Hid (∀ W, Calls Tryz.prog 206 #[.string t1, .string ⟨#[47]⟩] W fun e w' => e = .returned (.string t2) ∧ w' = W) := by
  intro W
  refine (Tryz.strings_TrimPrefix t1 ⟨#[47]⟩ W).mono ?_
  rintro e w' ⟨rfl, rfl⟩
  refine ⟨?_, rfl⟩
  show Ending.returned (.string ⟨(Lib.trimPrefix t1.data.toList [47]).toArray⟩) = _
  rw [trimPrefix_one, ht1, mk_data, ht2]; rfl
 have hcnt : Lib.countB t2 (mk [47]) + 1 = P.length := by rw [← cut_len, hP, ht2, mk_data]; rfl
 have C3 : Hid (∀ W, W.cell? ⟨0, 0, none⟩ = some (.int .i64 m) → Calls Tryz.prog 196 #[.string t2, .string ⟨#[47]⟩] W fun e w' => e = .returned (.slice (some ⟨W.heap.size, 0, none⟩) P.length P.length) ∧ StrsAt W.heap.size P w' ∧ Below W.heap.size W w' ∧ W.heap.size < w'.heap.size) := by
  intro W hW
  refine (Tryz.strings_Split t2 (mk [47]) m W (by omega) hW (by rw [mk_size]; simp)).mono ?_
  rintro e w' ⟨rfl, rfl⟩
  refine ⟨by rw [hcnt], ?_, (Below.refl _ W).alloc (Nat.le_refl _) _, by simp⟩
  refine ⟨_, _, _, heap_alloc_new W _, fun j hj => ?_⟩
  have e : cutL 47 t2.data.toList = P := by rw [ht2, mk_data, hP]; rfl
  rw [split_cut, e]
  simp [hj]
 have HP : Hid (P = piecesL s.data.toList) := hP
 clear hcnt ht1 ht2 hP
 go_enter Tryz.func195, Tryz.ntmps195
 go_wp2_with fail
 refine C1.out.mono ?_
 rintro e w1 ⟨rfl, b1⟩
 have hm1 : w1.cell? ⟨0, 0, none⟩ = some (.int .i64 m) := cell_kept b1 hm hG
 go_wp2_with fail
 refine (C2.out _).mono ?_
 rintro e w2 ⟨rfl, rfl⟩
 go_wp2_with fail
 refine (C3.out _ hm1).mono ?_
 rintro e w3 ⟨rfl, hS3, b3, z3⟩
 have z1 := b1.size
 have hS3lt := hS3.lt
 have hm3 : w3.cell? ⟨0, 0, none⟩ = some (.int .i64 m) := cell_kept b3 hm1 (by omega)
 have bb : Below w.heap.size w w3 := b1.trans (b3.mono z1)
 obtain ⟨g, hg⟩ : ∃ g, g = w2.heap.size := ⟨_, rfl⟩
 rw [← hg] at hS3 hS3lt z3 ⊢
 have hgB : w.heap.size ≤ g := by omega
 clear C1 C2 C3 b1 b3 hm1 hm z1 hg
 clear w2
 go_wp2_with fail
 go_loopw [0, 17] (fun v i wr => ∃ k : Nat, k ≤ P.length ∧ i = .int .i64 k ∧ OwnS w3.heap.size v (walkTo [] P k) wr ∧ Below w3.heap.size w3 wr) (fun _ i wr => P.length - (intOf i).toNat)
 case atStart => exact ⟨0, Nat.zero_le _, rfl, by rw [walkTo_zero [] P HNE.out]; exact ownS_nil _ _, Below.refl _ _⟩
 case round =>
  obtain ⟨k, hk, rfl, hI, hbw⟩ := hrel
  have hsz : w3.heap.size ≤ wr.heap.size := hbw.size
  by_cases hp : k < P.length
  ·have hki : (k : Int) < (P.length : Int) := by omega
   have hc0 := hS3.cell k hp
   have hc : wr.cell? ⟨g, k, none⟩ = some (.string (mk P[k])) := by rw [hbw.cell (p := ⟨g, k, none⟩) hS3lt]; exact hc0
   clear hc0
   have HST : Hid (walkTo [] P (k + 1) = stepL (walkTo [] P k) P[k] (decide (k = P.length - 1))) := walkTo_succ [] P k hp
   have hal : (walkTo [] P k).length ≤ P.length := by simpa using walkTo_len [] P k
   obtain ⟨acc, hacc⟩ : ∃ acc, acc = walkTo [] P k := ⟨_, rfl⟩
   rw [← hacc] at hI HST hal
   have hql : P[k].length ≤ 200 := HM.out _ (List.getElem_mem _)
   obtain ⟨p, hpp⟩ : ∃ p, p = P[k] := ⟨_, rfl⟩
   rw [← hpp] at hc HST hql
   clear hpp hacc
   obtain ⟨z, hz⟩ : ∃ z, z = mk (dotL (low p)) := ⟨_, rfl⟩
   have CL : Hid (∀ W, Calls Tryz.prog 93 #[.string (mk p)] W fun e w' => e = .returned (.string (mk (low p))) ∧ Below W.heap.size W w') := fun W => implLower (mk p) W (by rw [mk_size]; omega)
   have CR : Hid (∀ W, W.cell? ⟨0, 0, none⟩ = some (.int .i64 m) → Calls Tryz.prog 88 #[.string (mk (low p)), .string ⟨#[37, 50, 101]⟩, .string ⟨#[46]⟩] W fun e w' => e = .returned (.string z) ∧ Below W.heap.size W w') := by
    intro W hW
    refine (Tryz.strings_ReplaceAll (mk (low p)) ⟨#[37, 50, 101]⟩ ⟨#[46]⟩ m W (by rw [mk_size, low_length]; omega) hW (by decide) ?_).mono ?_
    ·have := Lib.countB_le ⟨#[37, 50, 101]⟩ (by decide) _ (mk (low p)) (Nat.le_refl _)
     have e : (⟨#[46]⟩ : ByteArray).size = 1 := rfl
     rw [mk_size, low_length] at this
     rw [e, mk_size, low_length]; omega
    ·rintro e w' ⟨rfl, b⟩
     exact ⟨by rw [hz]; rfl, b⟩
   have CE : Hid (∀ W, Calls Tryz.prog 122 #[.int .i64 1, .string (mk p)] W fun e w' => e = .returned (.string (mk (encT p))) ∧ Below W.heap.size W w') := by
    intro W
    refine (implEncode 1 (mk p) W (by rw [mk_size]; unfold maxLen; omega)).mono ?_
    rintro e w' ⟨rfl, b⟩
    refine ⟨?_, b⟩
    rw [encode_small 1 (mk p) (by rw [mk_size]; omega), mk_data]; rfl
   have hmr : wr.cell? ⟨0, 0, none⟩ = some (.int .i64 m) := cell_kept hbw hm3 (by omega)
   obtain ⟨a, c, rfl, hcc⟩ := hI.shape
   have hk1 : ((P.length : Int) - 1 == (k : Int)) = decide (k = P.length - 1) := by rw [Bool.eq_iff_iff]; simp; omega
   have hk2 : ((k : Int) == (P.length : Int) - 1) = decide (k = P.length - 1) := by rw [Bool.eq_iff_iff]; simp; omega
   go_wp2_with fail
   refine (CL.out _).mono ?_
   rintro e W1 ⟨rfl, d1⟩
   go_wp2_with fail
   refine (CR.out _ (cell_kept d1 hmr (by omega))).mono ?_
   rintro e W2 ⟨rfl, d2⟩
   have hI2 := (hI.later d1).later d2
   have hb2 : Below w3.heap.size w3 W2 := hbw.trans ((d1.mono hsz).trans (d2.mono (by have := d1.size; omega)))
   have hsz2 := hb2.size
   clear CL CR hmr hI hbw d1 d2 hsz
   clear hc
   rcases dots_cases p with ⟨hd, hdz⟩ | ⟨hd, hdz⟩ | ⟨hd, hd1, hd2⟩
   ·have hz' : z = ⟨#[46]⟩ := by rw [hz, hdz]; rfl
    clear hz
    subst hz'
    by_cases hlast : k = P.length - 1
    ·have hk3 : ((k : Int) == (P.length : Int) - 1) = true := by simp; omega
     go_wp2_with (at_builtin; refine wpAppendStr W2 rfl _ _ rfl w3.heap.size _ acc [] _ rfl hI2 rfl rfl (by omega) hsz2 ?_; intro v1 w4 R b4)
     go_roundw
     case rel => exact ⟨k + 1, by omega, by go_num, by rw [HST.out, stepL_1 _ _ _ hd, decide_eq_true hlast, if_pos rfl]; exact R, hb2.trans b4⟩
     case measure => simp [intOf]; omega
    ·have hk3 : ((k : Int) == (P.length : Int) - 1) = false := by simp; omega
     go_wp2
     go_roundw
     case rel => exact ⟨k + 1, by omega, by go_num, by rw [HST.out, stepL_1 _ _ _ hd, decide_eq_false hlast, if_neg (by simp)]; exact hI2, hb2⟩
     case measure => simp [intOf]; omega
   ·have hz' : z = ⟨#[46, 46]⟩ := by rw [hz, hdz]; rfl
    clear hz
    subst hz'
    by_cases he : acc = []
    ·subst he
     by_cases hlast : k = P.length - 1
     ·have hk3 : ((k : Int) == (P.length : Int) - 1) = true := by simp; omega
      go_wp2_with (at_builtin; refine wpAppendStr W2 rfl _ _ rfl w3.heap.size _ [] [] _ rfl hI2 rfl rfl (by decide) hsz2 ?_; intro v1 w4 R b4)
      go_roundw
      case rel => exact ⟨k + 1, by omega, by go_num, by rw [HST.out, stepL_2 _ _ _ hd, decide_eq_true hlast, if_pos rfl]; exact R, hb2.trans b4⟩
      case measure => simp [intOf]; omega
     ·have hk3 : ((k : Int) == (P.length : Int) - 1) = false := by simp; omega
      go_wp2
      go_roundw
      case rel => exact ⟨k + 1, by omega, by go_num, by rw [HST.out, stepL_2 _ _ _ hd, decide_eq_false hlast, if_neg (by simp)]; exact hI2, hb2⟩
      case measure => simp [intOf]; omega
    ·obtain ⟨n, hn⟩ : ∃ n, acc.length = n + 1 := ⟨acc.length - 1, by have := List.length_pos_iff.2 he; omega⟩
     rw [hn] at hI2 hcc hal ⊢
     have hI3 := hI2.pop
     have hnd : acc.dropLast.length = n := by rw [List.length_dropLast]; omega
     have hn1 : (0 : Int) < (n : Int) + 1 := by omega
     have hn2 : (n : Int) + 1 - 1 = (n : Int) := by omega
     have hn3 : (n : Int) ≤ (c : Int) := by omega
     by_cases hlast : k = P.length - 1
     ·have hk3 : ((k : Int) == (P.length : Int) - 1) = true := by simp; omega
      go_wp2_with (at_builtin; refine wpAppendStr W2 rfl _ _ rfl w3.heap.size _ acc.dropLast [] _ rfl hI3 rfl rfl (by omega) hsz2 ?_; intro v1 w4 R b4)
      go_roundw
      case rel => exact ⟨k + 1, by omega, by go_num, by rw [HST.out, stepL_2 _ _ _ hd, decide_eq_true hlast, if_pos rfl]; exact R, hb2.trans b4⟩
      case measure => simp [intOf]; omega
     ·have hk3 : ((k : Int) == (P.length : Int) - 1) = false := by simp; omega
      go_wp2
      go_roundw
      case rel => exact ⟨k + 1, by omega, by go_num, by rw [HST.out, stepL_2 _ _ _ hd, decide_eq_false hlast, if_neg (by simp)]; exact hI3, hb2⟩
      case measure => simp [intOf]; omega
   ·have e1 : (z.toList == [46]) = false := by rw [hz]; exact mk_ne hd1
    have e2 : (z.toList == [46, 46]) = false := by rw [hz]; exact mk_ne hd2
    clear hz
    go_wp2_with fail
    refine (CE.out _).mono ?_
    rintro e W3 ⟨rfl, d3⟩
    have hI3 := hI2.later d3
    have hb3 := hb2.trans (d3.mono hsz2)
    have hsz3 := hb3.size
    go_wp2_with (at_builtin; refine wpAppendStr W3 rfl _ _ rfl w3.heap.size _ acc (encT p) _ rfl hI3 rfl rfl (by omega) hsz3 ?_; intro v1 w4 R b4)
    go_roundw
    case rel => exact ⟨k + 1, by omega, by go_num, by rw [HST.out, stepL_0 _ _ _ hd]; exact R, hb3.trans b4⟩
    case measure => simp [intOf]; omega
  ·have hkk : k = P.length := by omega
   subst hkk
   rw [walkTo_all, HP.out] at hI
   go_wp2
   go_ret
   exact ⟨_, rfl, hI.base (by omega), bb.trans (hbw.mono (by omega))⟩
end Go.Proofs.YtnfhajhdpdidlaaGreatDoor
end
section
namespace Go.Proofs.YtnfhajhdpdidlaaGreatDoor
open Go.RowKit Go.Shelf
def RowB (g : Nat) (l : List UInt8) (w : World) : Prop :=
 ∃ A fr, w.heap[g]? = some (.cells A 5 fr) ∧ l.length ≤ fr.1 ∧ l.length ≤ A.size ∧ ∀ j (h : j < l.length), A[j]? = some (.int .u8 (l[j].toNat : Int))
theorem RowB.cell {g : Nat} {l : List UInt8} {w : World} (h : RowB g l w) (j : Nat) (hj : j < l.length) : w.cell? ⟨g, j, none⟩ = some (.int .u8 (l[j].toNat : Int)) := by
 obtain ⟨A, fr, hg, _, _, hc⟩ := h
 rw [Lib.cell_of_heap hg]; exact hc j hj
theorem RowB.free {g : Nat} {l : List UInt8} {w : World} (h : RowB g l w) (j : Nat) (hj : j < l.length) : w.frozen? ⟨g, j, none⟩ = false := by
 obtain ⟨A, fr, hg, hf, _, hc⟩ := h
 simp [World.frozen?, hg]; omega
theorem RowB.put {g : Nat} {l : List UInt8} {w : World} (h : RowB g l w) (k : Nat) (c : UInt8) (n : Int) (hn : n = (c.toNat : Int)) (hk : k < l.length) : RowB g (l.set k c) (w.setCell ⟨g, k, none⟩ (.int .u8 n)) := by
 obtain ⟨A, fr, hg, hf, hs, hc⟩ := h
 subst hn
 refine ⟨A.set k (.int .u8 (c.toNat : Int)) (by omega), fr, ?_, by simpa using hf, by simpa using hs, ?_⟩
 ·simp [World.setCell, Array.getElem?_modify, hg]
  rw [Array.setIfInBounds_def]
  simp [show k < A.size from by omega]
 ·intro j hj
  rw [Array.getElem?_set]
  split
  ·rename_i e; subst e; simp
  ·rename_i e; rw [List.getElem_set_ne e]; exact hc j (by simpa using hj)
theorem RowB.text {g cap : Nat} {l : List UInt8} {w : World} (h : RowB g l w) : (convert 35 9 (.slice (some ⟨g, 0, none⟩) l.length cap)).run Tryz.prog w = .ok (.string (mk l)) w := by
 refine run_convert_bytes_back w 35 9 5 ⟨g, 0, none⟩ cap l Tryz.underlying35 Tryz.underlying5 Tryz.underlying9 ?_
 intro j hj
 rw [addr_add]; exact h.cell j hj
theorem rowB_new (s : ByteArray) (w : World) : RowB w.heap.size s.data.toList (Lib.bytesWorld w 5 s) := by
 refine ⟨_, _, Lib.bytesWorld_at_new w 5 s, ?_, ?_, ?_⟩
 ·simp [Lib.bytesCells]
 ·simp [Lib.bytesCells]
 ·intro j hj
  have hj' : j < s.data.size := by simpa using hj
  simp only [Lib.bytesCells]
  rw [Array.getElem?_append_left (by simpa using hj')]
  rw [Array.getElem?_map, Array.getElem?_eq_getElem hj']; rfl
theorem bytes_below (s : ByteArray) (w : World) : Below w.heap.size w (Lib.bytesWorld w 5 s) :=
 ⟨by simp [Lib.bytesWorld, World.freeze, World.alloc, World.drew, -World.alloc_eq, -World.drew_eq], by simp [Lib.bytesWorld, World.freeze, World.alloc, World.drew, -World.alloc_eq, -World.drew_eq], by simp [Lib.bytesWorld, World.freeze, World.alloc, World.drew, -World.alloc_eq, -World.drew_eq], by rw [Lib.bytesWorld_size]; omega, fun k hk => Lib.bytesWorld_at_old w _ s k hk⟩
theorem bytes_run (s : ByteArray) (w : World) : ∃ c W, (convert 9 35 (.string s)).run Tryz.prog w = .ok (.slice (some ⟨w.heap.size, 0, none⟩) s.size c) W ∧ RowB w.heap.size s.data.toList W ∧ Below w.heap.size w W :=
 ⟨_, _, Lib.run_convert_string_bytes w 9 35 5 s Tryz.underlying9 Tryz.underlying35 Tryz.underlying5, rowB_new s w, bytes_below s w⟩
theorem set_take_drop (l : List UInt8) (f : UInt8 → UInt8) (k : Nat) (hk : k < l.length) : ((l.take k).map f ++ l.drop k).set k (f l[k]) = (l.take (k + 1)).map f ++ l.drop (k + 1) := by
 induction l generalizing k with
 | nil => simp at hk
 | cons c r ih =>
  cases k with
  | zero => simp
  | succ k => simpa using ih k (by simpa using hk)
theorem part_map_at (l : List UInt8) (f : UInt8 → UInt8) (k : Nat) (hk : k < l.length) (h : k < ((l.take k).map f ++ l.drop k).length) : ((l.take k).map f ++ l.drop k)[k] = l[k] := by
 rw [List.getElem_append_right (by simp; omega)]
 simp [Nat.min_eq_left (Nat.le_of_lt hk)]
theorem part_map_len (l : List UInt8) (f : UInt8 → UInt8) (k : Nat) (hk : k ≤ l.length) : ((l.take k).map f ++ l.drop k).length = l.length := by simp; omega
theorem part_map_same (l : List UInt8) (f : UInt8 → UInt8) (k : Nat) (hk : k < l.length) (h : f l[k] = l[k]) : (l.take k).map f ++ l.drop k = (l.take (k + 1)).map f ++ l.drop (k + 1) := by
 rw [List.take_succ_eq_append_getElem hk, List.drop_eq_getElem_cons hk, List.map_append]
 simp [h]
theorem RowB.atMap {g k : Nat} {l : List UInt8} {f : UInt8 → UInt8} {w : World} (h : RowB g ((l.take k).map f ++ l.drop k) w) (hk : k < l.length) : w.cell? ⟨g, k, none⟩ = some (.int .u8 (l[k].toNat : Int)) ∧ w.frozen? ⟨g, k, none⟩ = false := by
 have hl := part_map_len l f k (Nat.le_of_lt hk)
 refine ⟨?_, h.free k (by omega)⟩
 rw [h.cell k (by omega), part_map_at l f k hk]
theorem RowB.putMap {g k : Nat} {l : List UInt8} {f : UInt8 → UInt8} {w : World} (h : RowB g ((l.take k).map f ++ l.drop k) w) (hk : k < l.length) (n : Int) (hn : n = ((f l[k]).toNat : Int)) : RowB g ((l.take (k + 1)).map f ++ l.drop (k + 1)) (w.setCell ⟨g, k, none⟩ (.int .u8 n)) := by
 have hl := part_map_len l f k (Nat.le_of_lt hk)
 have := h.put k (f l[k]) n hn (by omega)
 rwa [set_take_drop l f k hk] at this
theorem RowB.same {g k : Nat} {l : List UInt8} {f : UInt8 → UInt8} {w : World} (h : RowB g ((l.take k).map f ++ l.drop k) w) (hk : k < l.length) (hn : f l[k] = l[k]) : RowB g ((l.take (k + 1)).map f ++ l.drop (k + 1)) w := by
 rwa [part_map_same l f k hk hn] at h
end Go.Proofs.YtnfhajhdpdidlaaGreatDoor
end
section
namespace Go.Proofs.YtnfhajhdpdidlaaGreatDoor
open Go.RowKit Go.Shelf
theorem specLower (s : ByteArray) (w : World) (hs : s.size ≤ 70368744177664) :
  Calls Tryz.prog 128 #[.string s] w fun e w' => e = .returned (.string ⟨(low s.data.toList).toArray⟩) ∧ Below w.heap.size w w' := by
 obtain ⟨i0, hi, hz0, hz1, hz2⟩ := info_parts infoByte
 go_enter Tryz.func128, Tryz.ntmps128
 go_wp2
 go_loopw [3, 4] (fun v i wr => ∃ k : Nat, k ≤ s.size ∧ i = .int .i64 k ∧ OwnB w.heap.size v (low (s.data.toList.take k)) wr ∧ Below w.heap.size w wr) (fun _ i wr => s.size - (intOf i).toNat)
 case atStart => exact ⟨0, Nat.zero_le _, rfl, ownB_new w _ (Nat.le_refl _), (Below.refl _ w).alloc (Nat.le_refl _) _⟩
 case round =>
  obtain ⟨k, hk, rfl, hI, hbw⟩ := hrel
  have hsz : w.heap.size ≤ wr.heap.size := hbw.size
  by_cases hp : k < s.size
  ·have hb := u8_lt s[k]
   have hll : (low (s.data.toList.take k)).length ≤ k := by rw [low_length]; exact List.length_take_le _ _
   have HT : Hid (low (s.data.toList.take (k + 1)) = low (s.data.toList.take k) ++ [lowB s[k]]) := by rw [take_snoc s k hp, low_snoc]; rfl
   by_cases h1 : (65 : Int) ≤ (s[k].toNat : Int) ∧ (s[k].toNat : Int) ≤ 90
   ·obtain ⟨h1, h2⟩ := h1
    have HC : Hid (((lowB s[k]).toNat : Int) = (s[k].toNat : Int) + 32) := lowB_cap s[k] h1 h2
    go_wp2_with (at_builtin; refine wpAppendByte wr rfl _ _ rfl w.heap.size _ _ (lowB s[k]) _ HC.out hI rfl rfl (by omega) hsz ?_; intro v' w1 R b1)
    go_roundw
    case rel => exact ⟨k + 1, by omega, by go_num, by rw [HT.out]; exact R, hbw.trans b1⟩
    case measure => simp [intOf]; omega
   ·have HC : Hid (((lowB s[k]).toNat : Int) = (s[k].toNat : Int)) := by rw [lowB_not s[k] h1]; rfl
    rcases (show (s[k].toNat : Int) < 65 ∨ ((65 : Int) ≤ (s[k].toNat : Int) ∧ 90 < (s[k].toNat : Int)) from by omega) with h2 | ⟨h2, h3⟩
    all_goals
     clear h1
     go_wp2_with (at_builtin; refine wpAppendByte wr rfl _ _ rfl w.heap.size _ _ (lowB s[k]) _ HC.out hI rfl rfl (by omega) hsz ?_; intro v' w1 R b1)
     go_roundw
     case rel => exact ⟨k + 1, by omega, by go_num, by rw [HT.out]; exact R, hbw.trans b1⟩
     case measure => simp [intOf]; omega
  ·have hkk : k = s.size := by omega
   subst hkk
   rw [List.take_of_length_le (by simp)] at hI
   have ht := ownB_text hI
   go_wp2
   go_ret
   exact ⟨rfl, hbw⟩
end Go.Proofs.YtnfhajhdpdidlaaGreatDoor
end
section
namespace Go.Proofs.YtnfhajhdpdidlaaGreatDoor
open Go.RowKit Go.Shelf
theorem ext_mk (s : ByteArray) (f k : Nat) : s.extract f k = mk ((s.data.toList.drop f).take (k - f)) := by
 apply ByteArray.ext
 apply Array.ext'
 simp [mk, ByteArray.data_extract, List.extract_eq_take_drop]
theorem cut_step (b : UInt8) (s : ByteArray) (f k : Nat) (acc all : List (List UInt8)) (hf : f ≤ k) (hk : k < s.size) (hb : s[k] = b) (hno : ∀ j (hj : j < s.size), f ≤ j → j < k → s[j] ≠ b)
  (h : acc ++ cutL b (s.data.toList.drop f) = all) : (acc ++ [(s.data.toList.drop f).take (k - f)]) ++ cutL b (s.data.toList.drop (k + 1)) = all := by
 have hl : s.data.toList.length = s.size := by simp
 have e : s.data.toList.drop f = (s.data.toList.drop f).take (k - f) ++ b :: s.data.toList.drop (k + 1) := by
  conv => lhs; rw [← List.take_append_drop (k - f) (s.data.toList.drop f)]
  rw [List.drop_drop, show f + (k - f) = k from by omega, drop_at s k hk, hb]
 rw [← h]
 conv => rhs; rw [e]
 rw [cutL_hit]
 ·simp
 ·intro c hc
  obtain ⟨j, hj, e⟩ := List.getElem_of_mem hc
  rw [List.length_take, List.length_drop] at hj
  rw [← e, List.getElem_take, List.getElem_drop]
  exact hno (f + j) (by omega) (by omega) (by omega)
theorem cut_end (b : UInt8) (s : ByteArray) (f : Nat) (acc all : List (List UInt8)) (hf : f ≤ s.size) (hno : ∀ j (hj : j < s.size), f ≤ j → s[j] ≠ b) (h : acc ++ cutL b (s.data.toList.drop f) = all) : acc ++ [(s.data.toList.drop f).take (s.size - f)] = all := by
 have hl : s.data.toList.length = s.size := by simp
 rw [← h, cutL_none]
 ·rw [List.take_of_length_le (by rw [List.length_drop]; omega)]
 ·intro c hc
  obtain ⟨j, hj, e⟩ := List.getElem_of_mem hc
  rw [List.length_drop] at hj
  rw [← e, List.getElem_drop]
  exact hno (f + j) (by omega) (by omega)
theorem l1Cut (s : ByteArray) (b : UInt8) (w : World) (hs : s.size ≤ 1048576) :
  Calls Tryz.prog 133 #[.string s, .int .u8 (b.toNat : Int)] w fun e w' => ∃ v, e = .returned v ∧ OwnS w.heap.size v (cutL b s.data.toList) w' ∧ Below w.heap.size w w' := by
 go_enter Tryz.func133, Tryz.ntmps133
 go_wp2
 go_loopw [5, 6, 7] (fun v fr i wr => ∃ (f k : Nat) (acc : List (List UInt8)), f ≤ k ∧ k ≤ s.size ∧ i = .int .i64 k ∧ fr = .int .i64 f ∧ acc.length ≤ f ∧ OwnS w.heap.size v acc wr ∧ Below w.heap.size w wr ∧ Hid (acc ++ cutL b (s.data.toList.drop f) = cutL b s.data.toList) ∧ Hid (∀ j (hj : j < s.size), f ≤ j → j < k → s[j] ≠ b)) (fun _ _ i wr => s.size - (intOf i).toNat)
 case atStart => exact ⟨0, 0, [], Nat.le_refl _, Nat.zero_le _, rfl, rfl, Nat.le_refl _, ownS_new w _ (Nat.le_refl _), (Below.refl _ w).alloc (Nat.le_refl _) _, rfl, fun j hj h1 h2 => absurd h2 (by omega)⟩
 case round =>
  obtain ⟨f, k, acc, hfk, hk, rfl, rfl, hal, hI, hbw, HA, HN⟩ := hrel
  have hsz : w.heap.size ≤ wr.heap.size := hbw.size
  have hfi : (f : Int) ≤ (k : Int) := by omega
  by_cases hp : k < s.size
  ·have hki : (k : Int) < (s.size : Int) := by omega
   by_cases hc : s[k] = b
   ·have HA2 : Hid ((acc ++ [(s.data.toList.drop f).take (k - f)]) ++ cutL b (s.data.toList.drop (k + 1)) = cutL b s.data.toList) := cut_step b s f k acc _ hfk hp hc HN.out HA.out
    have e1 : ((s[k].toNat : Int) == (b.toNat : Int)) = true := by rw [hc]; simp
    have HM := ext_mk s f k
    have HM2 : Hid (s.extract f k = mk ((s.data.toList.drop f).take (k - f))) := HM
    clear HM hc
    go_wp2_with (at_builtin; refine wpAppendStr wr rfl _ _ rfl w.heap.size _ _ ((s.data.toList.drop f).take (k - f)) _ HM2.out hI rfl rfl (by omega) hsz ?_; intro v1 w1 R b1)
    go_roundw
    case rel => exact ⟨k + 1, k + 1, _, Nat.le_refl _, by omega, by go_num, by go_num, by simp; omega, R, hbw.trans b1, HA2, fun j hj h1 h2 => absurd h2 (by omega)⟩
    case measure => simp [intOf]; omega
   ·have e1 : ((s[k].toNat : Int) == (b.toNat : Int)) = false := by
     rw [beq_eq_false_iff_ne]; intro h; exact hc (UInt8.toNat_inj.1 (by omega))
    have HN2 : Hid (∀ j (hj : j < s.size), f ≤ j → j < k + 1 → s[j] ≠ b) := by
     intro j hj h1 h2
     by_cases hjk : j = k
     ·subst hjk; exact hc
     ·exact HN.out j hj h1 (by omega)
    clear hc
    go_wp2
    go_roundw
    case rel => exact ⟨f, k + 1, acc, by omega, by omega, by go_num, rfl, hal, hI, hbw, HA, HN2⟩
    case measure => simp [intOf]; omega
  ·have hkk : k = s.size := by omega
   subst hkk
   have HA2 : Hid (acc ++ [(s.data.toList.drop f).take (s.size - f)] = cutL b s.data.toList) := cut_end b s f acc _ hfk (fun j hj h1 => HN.out j hj h1 hj) HA.out
   have HM2 : Hid (s.extract f s.size = mk ((s.data.toList.drop f).take (s.size - f))) := ext_mk s f s.size
   go_wp2_with (at_builtin; refine wpAppendStr wr rfl _ _ rfl w.heap.size _ _ ((s.data.toList.drop f).take (s.size - f)) _ HM2.out hI rfl rfl (by omega) hsz ?_; intro v1 w1 R b1)
   go_ret
   exact ⟨_, rfl, by rw [← HA2.out]; exact R, hbw.trans b1⟩
end Go.Proofs.YtnfhajhdpdidlaaGreatDoor
end
section
namespace Go.Proofs.YtnfhajhdpdidlaaGreatDoor
open Go.RowKit Go.Shelf
theorem dots_is1 (p : List UInt8) (h : low p = [46] ∨ low p = [37, 50, 101]) : dots p = 1 := by unfold dots; rw [if_pos h]
theorem dots_is2 (p : List UInt8) (h : low p = [46, 46] ∨ low p = [46, 37, 50, 101] ∨ low p = [37, 50, 101, 46] ∨ low p = [37, 50, 101, 37, 50, 101]) : dots p = 2 := by
 unfold dots; rw [if_neg, if_pos h]
 rcases h with h | h | h | h <;> (rw [h]; simp)
theorem l3Dots (p : List UInt8) (w : World) (hp : p.length ≤ 1000000) :
  Calls Tryz.prog 204 #[.string (mk p)] w fun e w' => e = .returned (.int .i64 (dots p)) ∧ Below w.heap.size w w' := by
 have CL : Hid (∀ W, Calls Tryz.prog 128 #[.string (mk p)] W fun e w' => e = .returned (.string (mk (low p))) ∧ Below W.heap.size W w') := fun W => specLower (mk p) W (by rw [mk_size]; omega)
 obtain ⟨z, hz⟩ : ∃ z, z = mk (low p) := ⟨_, rfl⟩
 rw [← hz] at CL
 have hzl : z.toList = low p := by rw [hz, ByteArray.toList_eq, mk_data]
 have hcase : ∀ k : List UInt8, low p = k → z = mk k := by intro k hk; rw [hz, hk]
 by_cases h1 : low p = [46]
 ·have HD : Hid (dots p = 1) := dots_is1 p (.inl h1)
  have e := hcase _ h1
  clear hcase hzl hz h1
  go_enter Tryz.func204, Tryz.ntmps204
  go_wp2_with fail
  refine (CL.out _).mono ?_
  rintro _ W1 ⟨rfl, d1⟩
  have e' : z = ⟨#[46]⟩ := e
  clear e
  subst e'
  go_wp2
  go_ret
  exact ⟨by rw [HD.out]; rfl, d1⟩
 by_cases h2 : low p = [37, 50, 101]
 ·have HD : Hid (dots p = 1) := dots_is1 p (.inr h2)
  have e := hcase _ h2
  clear hcase hzl hz h1 h2
  go_enter Tryz.func204, Tryz.ntmps204
  go_wp2_with fail
  refine (CL.out _).mono ?_
  rintro _ W1 ⟨rfl, d1⟩
  have e' : z = ⟨#[37, 50, 101]⟩ := e
  clear e
  subst e'
  go_wp2
  go_ret
  exact ⟨by rw [HD.out]; rfl, d1⟩
 by_cases h3 : low p = [46, 46]
 ·have HD : Hid (dots p = 2) := dots_is2 p (.inl h3)
  have e := hcase _ h3
  clear hcase hzl hz h1 h2 h3
  go_enter Tryz.func204, Tryz.ntmps204
  go_wp2_with fail
  refine (CL.out _).mono ?_
  rintro _ W1 ⟨rfl, d1⟩
  have e' : z = ⟨#[46, 46]⟩ := e
  clear e
  subst e'
  go_wp2
  go_ret
  exact ⟨by rw [HD.out]; rfl, d1⟩
 by_cases h4 : low p = [46, 37, 50, 101]
 ·have HD : Hid (dots p = 2) := dots_is2 p (.inr (.inl h4))
  have e := hcase _ h4
  clear hcase hzl hz h1 h2 h3 h4
  go_enter Tryz.func204, Tryz.ntmps204
  go_wp2_with fail
  refine (CL.out _).mono ?_
  rintro _ W1 ⟨rfl, d1⟩
  have e' : z = ⟨#[46, 37, 50, 101]⟩ := e
  clear e
  subst e'
  go_wp2
  go_ret
  exact ⟨by rw [HD.out]; rfl, d1⟩
 by_cases h5 : low p = [37, 50, 101, 46]
 ·have HD : Hid (dots p = 2) := dots_is2 p (.inr (.inr (.inl h5)))
  have e := hcase _ h5
  clear hcase hzl hz h1 h2 h3 h4 h5
  go_enter Tryz.func204, Tryz.ntmps204
  go_wp2_with fail
  refine (CL.out _).mono ?_
  rintro _ W1 ⟨rfl, d1⟩
  have e' : z = ⟨#[37, 50, 101, 46]⟩ := e
  clear e
  subst e'
  go_wp2
  go_ret
  exact ⟨by rw [HD.out]; rfl, d1⟩
 by_cases h6 : low p = [37, 50, 101, 37, 50, 101]
 ·have HD : Hid (dots p = 2) := dots_is2 p (.inr (.inr (.inr h6)))
  have e := hcase _ h6
  clear hcase hzl hz h1 h2 h3 h4 h5 h6
  go_enter Tryz.func204, Tryz.ntmps204
  go_wp2_with fail
  refine (CL.out _).mono ?_
  rintro _ W1 ⟨rfl, d1⟩
  have e' : z = ⟨#[37, 50, 101, 37, 50, 101]⟩ := e
  clear e
  subst e'
  go_wp2
  go_ret
  exact ⟨by rw [HD.out]; rfl, d1⟩
 have HD : Hid (dots p = 0) := by unfold dots; show (if _ then _ else _) = _; rw [if_neg (by simp [h1, h2]), if_neg (by simp [h3, h4, h5, h6])]
 have e1 : (z.toList == [46]) = false := by rw [hzl]; simpa using h1
 have e2 : (z.toList == [37, 50, 101]) = false := by rw [hzl]; simpa using h2
 have e3 : (z.toList == [46, 46]) = false := by rw [hzl]; simpa using h3
 have e4 : (z.toList == [46, 37, 50, 101]) = false := by rw [hzl]; simpa using h4
 have e5 : (z.toList == [37, 50, 101, 46]) = false := by rw [hzl]; simpa using h5
 have e6 : (z.toList == [37, 50, 101, 37, 50, 101]) = false := by rw [hzl]; simpa using h6
 clear hcase hzl hz h1 h2 h3 h4 h5 h6
 go_enter Tryz.func204, Tryz.ntmps204
 go_wp2_with fail
 refine (CL.out _).mono ?_
 rintro _ W1 ⟨rfl, d1⟩
 go_wp2
 go_ret
 exact ⟨by rw [HD.out]; rfl, d1⟩
theorem l3Pieces (l : List UInt8) (w : World) (hl : l.length ≤ 1000000) :
  Calls Tryz.prog 188 #[.string (mk l)] w fun e w' => ∃ v, e = .returned v ∧ OwnS w.heap.size v (cutL 47 (slashL l)) w' ∧ Below w.heap.size w w' := by
 obtain ⟨c, W0, hrun, hR, hB0⟩ := bytes_run (mk l) w
 rw [mk_size] at hrun
 rw [mk_data] at hR
 have CC : Hid (∀ W, Calls Tryz.prog 133 #[.string (mk (slashL l)), .int .u8 47] W fun e w' => ∃ v, e = .returned v ∧ OwnS W.heap.size v (cutL 47 (slashL l)) w' ∧ Below W.heap.size W w') := fun W => l1Cut (mk (slashL l)) 47 W (by rw [mk_size, slashL_len]; omega)
 go_enter Tryz.func188, Tryz.ntmps188
 go_wp2
 go_loopw [4] (fun i wr => ∃ k : Nat, k ≤ l.length ∧ i = .int .i64 k ∧ RowB w.heap.size (slashL (l.take k) ++ l.drop k) wr ∧ Below w.heap.size w wr) (fun i wr => l.length - (intOf i).toNat)
 case atStart => exact ⟨0, Nat.zero_le _, rfl, hR, hB0⟩
 case round =>
  clear hrun hR hB0
  obtain ⟨k, hk, rfl, hI, hbw⟩ := hrel
  by_cases hp : k < l.length
  ·have hki : (k : Int) < (l.length : Int) := by omega
   have hI' : RowB w.heap.size ((l.take k).map (fun x => if x = 92 then (47 : UInt8) else x) ++ l.drop k) wr := hI
   obtain ⟨hc, hf⟩ := hI'.atMap hp
   by_cases hx : l[k] = 92
   ·have e1 : ((l[k].toNat : Int) == 92) = true := by rw [hx]; rfl
    have HP : Hid (RowB w.heap.size (slashL (l.take (k + 1)) ++ l.drop (k + 1)) (wr.setCell ⟨w.heap.size, k, none⟩ (.int .u8 47))) := hI'.putMap hp 47 (by rw [if_pos hx]; rfl)
    clear hx hI hI'
    go_wp2
    go_roundw
    case rel => exact ⟨k + 1, by omega, by go_num, HP.out, hbw.setCell (p := ⟨w.heap.size, k, none⟩) (Nat.le_refl _) _⟩
    case measure => simp [intOf]; omega
   ·have e1 : ((l[k].toNat : Int) == 92) = false := by
     rw [beq_eq_false_iff_ne]; intro e; apply hx; apply UInt8.toNat_inj.1; show _ = 92; omega
    have HP : Hid (RowB w.heap.size (slashL (l.take (k + 1)) ++ l.drop (k + 1)) wr) := hI'.same hp (by rw [if_neg hx])
    clear hx hI hI'
    go_wp2
    go_roundw
    case rel => exact ⟨k + 1, by omega, by go_num, HP.out, hbw⟩
    case measure => simp [intOf]; omega
  ·have hkk : k = l.length := by omega
   subst hkk
   rw [List.take_length, List.drop_length, List.append_nil] at hI
   have ht := hI.text (cap := c)
   rw [slashL_len] at ht
   clear hI
   go_wp2_with fail
   refine (CC.out _).mono ?_
   rintro _ W1 ⟨v, rfl, hO, d1⟩
   go_wp2
   go_ret
   have := hbw.size
   exact ⟨_, rfl, hO.base this, hbw.trans (d1.mono this)⟩
end Go.Proofs.YtnfhajhdpdidlaaGreatDoor
end

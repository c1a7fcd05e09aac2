/- impl.formDecode and FormGet: the pairs of a query. -/
import Derived.Test.YtjjpbkoglnimaaaDoorPairO
import Derived.Test.YtjjpbkoglnimaaaDoorFormP
import Derived.Test.YtjjpbkoglnimaaaDoorDec
set_option linter.unusedVariables false
namespace Go.Proofs.YtjjpbkoglnimaaaDoor
open Go.RowKit Go.Shelf

set_option maxHeartbeats 1000000 in
set_option maxRecDepth 100000 in
theorem formDecode (l : List UInt8) (m : Int) (w : World) (hl : l.length ≤ 600) (hm : w.cell? ⟨0, 0, none⟩ = some (.int .i64 m)) :
    Calls Tryd.prog 29 #[.string (mk l)] w fun e w' => e = .returned (.string (mk (textG l))) ∧ Below w.heap.size w w' := by
  have C1 : Hid (Calls Tryd.prog 44 #[.string (mk l), .string ⟨#[43]⟩, .string ⟨#[32]⟩] w fun e w' => e = .returned (.string (mk (plusL l))) ∧ Below w.heap.size w w') := by
    refine (Tryd.strings_ReplaceAll (mk l) ⟨#[43]⟩ ⟨#[32]⟩ m w (by rw [mk_size]; omega) hm (by decide) ?_).mono ?_
    · have := Lib.countB_le ⟨#[43]⟩ (by decide) _ (mk l) (Nat.le_refl _)
      have e : (⟨#[32]⟩ : ByteArray).size = 1 := rfl
      rw [mk_size] at this
      rw [e, mk_size]; omega
    · rintro e w' ⟨rfl, b⟩
      refine ⟨?_, b⟩
      show Ending.returned (.string ⟨(Lib.replaceAll l [43] [32]).toArray⟩) = _
      rw [rep_one 43 32 (by decide)]; rfl
  have C2 : Hid (∀ W, Calls Tryd.prog 49 #[.string (mk (plusL l))] W fun e w' => e = .returned (.string (mk (textG l))) ∧ Below W.heap.size W w') := by
    intro W
    refine (implDecode (mk (plusL l)) W (by rw [mk_size, plusL_len]; unfold maxLen; omega)).mono ?_
    rintro e w' ⟨rfl, b⟩
    exact ⟨by rw [decode_small _ (by rw [mk_size, plusL_len]; omega), mk_data]; rfl, b⟩
  go_enter Tryd.func29, Tryd.ntmps29
  go_wp2_with fail
  refine C1.out.mono ?_
  rintro e W1 ⟨rfl, b1⟩
  go_wp2_with fail
  refine (C2.out _).mono ?_
  rintro e W2 ⟨rfl, b2⟩
  go_wp2
  go_ret
  exact ⟨rfl, b1.trans (b2.mono b1.size)⟩

set_option maxHeartbeats 2000000 in
set_option maxRecDepth 100000 in
theorem implFormGet (s : ByteArray) (m : Int) (w : World) (hs : s.size ≤ 10000000) (hm : w.cell? ⟨0, 0, none⟩ = some (.int .i64 m)) :
    Calls Tryd.prog 11 #[.string s] w fun e w' => ∃ v, e = .returned v ∧ OwnP w.heap.size v (formL s.data.toList) w' ∧ Below w.heap.size w w' := by
  have hl : s.data.toList.length = s.size := by simp
  by_cases h : s.size ≤ 600
  · rw [formL_small _ (by omega)]
    have hi : (s.size : Int) ≤ 600 := by omega
    have hG : 0 < w.heap.size := cell_in hm
    obtain ⟨P, hP⟩ : ∃ P, P = cutL 38 s.data.toList := ⟨_, rfl⟩
    have hPl : P.length ≤ 601 := by rw [hP]; have := cutL_len_le 38 s.data.toList; omega
    have HM : Hid (∀ q ∈ P, q.length ≤ 600) := by intro q hq; rw [hP] at hq; have := cutL_mem_le 38 _ q hq; omega
    have hcnt : Lib.countB s (mk [38]) + 1 = P.length := by rw [← cut_len, hP]
    have C3 : Hid (Calls Tryd.prog 27 #[.string s, .string ⟨#[38]⟩] w fun e w' => e = .returned (.slice (some ⟨w.heap.size, 0, none⟩) P.length P.length) ∧ StrsAt w.heap.size P w' ∧ Below w.heap.size w w' ∧ w.heap.size < w'.heap.size) := by
      refine (Tryd.strings_Split s (mk [38]) m w (by omega) hm (by rw [mk_size]; simp)).mono ?_
      rintro e w' ⟨rfl, rfl⟩
      refine ⟨by rw [hcnt], ?_, (Below.refl _ w).alloc (Nat.le_refl _) _, by simp⟩
      refine ⟨_, _, _, heap_alloc_new w _, fun j hj => ?_⟩
      rw [split_cut, ← hP]
      simp [hj]
    rw [← hP]
    clear hP hcnt
    go_enter Tryd.func11, Tryd.ntmps11
    go_wp2_with fail
    refine C3.out.mono ?_
    rintro e w3 ⟨rfl, hS3, b3, z3⟩
    have hm3 := cell_keep b3 hm hG
    clear C3 hm
    go_wp2_with fail
    go_loopw [3, 15] (fun v i wr => ∃ k : Nat, k ≤ P.length ∧ i = .int .i64 k ∧ OwnP w3.heap.size v (formG (P.take k)) wr ∧ Below w3.heap.size w3 wr) (fun _ i wr => P.length - (intOf i).toNat)
    case atStart => exact ⟨0, Nat.zero_le _, rfl, ownP_nil _ _, Below.refl _ _⟩
    case round =>
      obtain ⟨k, hk, rfl, hI, hbw⟩ := hrel
      have hsz : w3.heap.size ≤ wr.heap.size := hbw.size
      by_cases hp : k < P.length
      · have hki : (k : Int) < (P.length : Int) := by omega
        have hc : wr.cell? ⟨w.heap.size, k, none⟩ = some (.string (mk P[k])) := cell_keep hbw (hS3.cell k hp) z3
        have HST : Hid (formG (P.take (k + 1)) = if P[k] = [] then formG (P.take k) else formG (P.take k) ++ [pieceG P[k]]) := formG_snoc P k hp
        have hal : (formG (P.take k)).length ≤ P.length := by have h1 := formG_len (P.take k); have h2 := List.length_take_le' k P; omega
        obtain ⟨acc, hacc⟩ : ∃ acc, acc = formG (P.take k) := ⟨_, rfl⟩
        rw [← hacc] at hI HST hal
        have hql : P[k].length ≤ 600 := HM.out _ (List.getElem_mem _)
        obtain ⟨p, hpp⟩ : ∃ p, p = P[k] := ⟨_, rfl⟩
        rw [← hpp] at hc HST hql
        clear hpp hacc
        have hmr := cell_keep hbw hm3 (by omega)
        by_cases he : p = []
        · subst he
          have hc2 : wr.cell? ⟨w.heap.size, k, none⟩ = some (.string ⟨#[]⟩) := hc
          clear hc
          go_wp2
          go_roundw
          case rel => exact ⟨k + 1, by omega, by go_num, by rw [HST.out, if_pos rfl]; exact hI, hbw⟩
          case measure => simp [intOf]; omega
        · obtain ⟨z, hz⟩ : ∃ z, z = mk p := ⟨_, rfl⟩
          have hne1 : (z.toList == []) = false := by rw [hz, beq_eq_false_iff_ne, ByteArray.toList_eq, mk_data]; exact he
          have hne2 : z.toList.isEmpty = false := by rw [hz, ByteArray.toList_eq, mk_data]; exact List.isEmpty_eq_false_iff.2 he
          have CC : Hid (∀ W, W.cell? ⟨0, 0, none⟩ = some (.int .i64 m) → Calls Tryd.prog 28 #[.string z, .string ⟨#[61]⟩] W fun e w' => ∃ f, e = .returned (.tuple #[.string (mk (aheadL [61] p)), .string (mk (behindL [61] p)), .bool f]) ∧ ∃ n, w' = W.drewN n) := by
            intro W hW
            refine (Tryd.strings_Cut z ⟨#[61]⟩ m W (by rw [hz, mk_size]; omega) hW).mono ?_
            rintro e w' ⟨rfl, n, rfl⟩
            refine ⟨(Lib.cut p [61]).2.2, ?_, n, rfl⟩
            have e1 := (cut_one 61 p).1
            have e2 := (cut_one 61 p).2
            rw [hz, mk_data]
            show Ending.returned (.tuple #[.string ⟨(Lib.cut p [61]).1.toArray⟩, .string ⟨(Lib.cut p [61]).2.1.toArray⟩, .bool (Lib.cut p [61]).2.2]) = _
            rw [e1, e2]; rfl
          have CA : Hid (∀ W, W.cell? ⟨0, 0, none⟩ = some (.int .i64 m) → Calls Tryd.prog 29 #[.string (mk (aheadL [61] p))] W fun e w' => e = .returned (.string (mk (pieceG p).1)) ∧ Below W.heap.size W w') := fun W hW => formDecode _ m W (by have := ahead_le [61] p; omega) hW
          have CB : Hid (∀ W, W.cell? ⟨0, 0, none⟩ = some (.int .i64 m) → Calls Tryd.prog 29 #[.string (mk (behindL [61] p))] W fun e w' => e = .returned (.string (mk (pieceG p).2)) ∧ Below W.heap.size W w') := fun W hW => formDecode _ m W (by have := behind_le [61] p; omega) hW
          rw [← hz] at hc
          clear hz
          go_wp2_with fail
          refine (CC.out _ hmr).mono ?_
          rintro e W1 ⟨f, rfl, n1, rfl⟩
          have hI1 : OwnP w3.heap.size _ acc (wr.drewN n1) := hI
          have hb1 : Below w3.heap.size w3 (wr.drewN n1) := below_drewN hbw n1
          have hm1 : (wr.drewN n1).cell? ⟨0, 0, none⟩ = some (.int .i64 m) := hmr
          have hsz1 : w3.heap.size ≤ (wr.drewN n1).heap.size := hsz
          clear hI hbw hmr hsz hc
          generalize wr.drewN n1 = W1 at *
          go_wp2_with fail
          refine (CA.out _ hm1).mono ?_
          rintro e W2 ⟨rfl, d2⟩
          have hI2 := hI1.later d2
          have hb2 := hb1.trans (d2.mono hsz1)
          have hm2 := cell_keep d2 hm1 (by omega)
          have hsz2 := hb2.size
          go_wp2_with fail
          refine (CB.out _ hm2).mono ?_
          rintro e W3 ⟨rfl, d3⟩
          have hI3 := hI2.later d3
          have hb3 := hb2.trans (d3.mono hsz2)
          have hsz3 := hb3.size
          clear hI1 hI2 hb1 hb2 hm1 hm2 CA CB CC
          go_wp2_with (at_builtin; refine wpAppendPair W3 rfl _ _ rfl w3.heap.size _ acc (pieceG p) _ _ rfl rfl hI3 rfl rfl (by omega) hsz3 ?_; intro v1 w4 R b4)
          go_roundw
          case rel => exact ⟨k + 1, by omega, by go_num, by rw [HST.out, if_neg he]; exact R, hb3.trans b4⟩
          case measure => simp [intOf]; omega
      · have hkk : k = P.length := by omega
        subst hkk
        rw [List.take_length] at hI
        go_wp2
        go_ret
        exact ⟨_, rfl, hI.base (by omega), b3.trans (hbw.mono (by omega))⟩
  · rw [formL_great _ (by omega)]
    have hi : (600 : Int) < (s.size : Int) := by omega
    go_enter Tryd.func11, Tryd.ntmps11
    go_wp2
    go_ret
    exact ⟨_, rfl, ownP_nil _ _, Below.refl _ _⟩
end Go.Proofs.YtjjpbkoglnimaaaDoor

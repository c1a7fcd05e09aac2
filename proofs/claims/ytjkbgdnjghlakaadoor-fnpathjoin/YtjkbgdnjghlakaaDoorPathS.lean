/- spec.l3Dots, l3Pieces: what a piece is; a path's pieces. -/
import Derived.Test.YtjkbgdnjghlakaaDoorPathI
import Derived.Test.YtjkbgdnjghlakaaDoorByteR
import Derived.Test.YtjkbgdnjghlakaaDoorLowS
import Derived.Test.YtjkbgdnjghlakaaDoorCutS
set_option linter.unusedVariables false
namespace Go.Proofs.YtjkbgdnjghlakaaDoor
open Go.RowKit Go.Shelf

theorem dots_is1 (p : List UInt8) (h : low p = [46] ∨ low p = [37, 50, 101]) : dots p = 1 := by unfold dots; rw [if_pos h]
theorem dots_is2 (p : List UInt8) (h : low p = [46, 46] ∨ low p = [46, 37, 50, 101] ∨ low p = [37, 50, 101, 46] ∨ low p = [37, 50, 101, 37, 50, 101]) : dots p = 2 := by
  unfold dots; rw [if_neg, if_pos h]
  rcases h with h | h | h | h <;> (rw [h]; simp)

set_option maxHeartbeats 1000000 in
set_option maxRecDepth 100000 in
theorem l3Dots (p : List UInt8) (w : World) (hp : p.length ≤ 1000000) :
    Calls Tryd.prog 32 #[.string (mk p)] w fun e w' => e = .returned (.int .i64 (dots p)) ∧ Below w.heap.size w w' := by
  have CL : Hid (∀ W, Calls Tryd.prog 41 #[.string (mk p)] W fun e w' => e = .returned (.string (mk (low p))) ∧ Below W.heap.size W w') := fun W => specLower (mk p) W (by rw [mk_size]; omega)
  obtain ⟨z, hz⟩ : ∃ z, z = mk (low p) := ⟨_, rfl⟩
  rw [← hz] at CL
  have hzl : z.toList = low p := by rw [hz, ByteArray.toList_eq, mk_data]
  have hcase : ∀ k : List UInt8, low p = k → z = mk k := by intro k hk; rw [hz, hk]
  by_cases h1 : low p = [46]
  · have HD : Hid (dots p = 1) := dots_is1 p (.inl h1)
    have e := hcase _ h1
    clear hcase hzl hz h1
    go_enter Tryd.func32, Tryd.ntmps32
    go_wp2_with fail
    refine (CL.out _).mono ?_
    rintro _ W1 ⟨rfl, d1⟩
    have e' : z = ⟨#[46]⟩ := e
    clear e
    subst e'
    go_wp2
    go_ret
    exact ⟨by rw [HD.out]; rfl, d1⟩
  by_cases h2 : low p = [37, 50, 101]
  · have HD : Hid (dots p = 1) := dots_is1 p (.inr h2)
    have e := hcase _ h2
    clear hcase hzl hz h1 h2
    go_enter Tryd.func32, Tryd.ntmps32
    go_wp2_with fail
    refine (CL.out _).mono ?_
    rintro _ W1 ⟨rfl, d1⟩
    have e' : z = ⟨#[37, 50, 101]⟩ := e
    clear e
    subst e'
    go_wp2
    go_ret
    exact ⟨by rw [HD.out]; rfl, d1⟩
  by_cases h3 : low p = [46, 46]
  · have HD : Hid (dots p = 2) := dots_is2 p (.inl h3)
    have e := hcase _ h3
    clear hcase hzl hz h1 h2 h3
    go_enter Tryd.func32, Tryd.ntmps32
    go_wp2_with fail
    refine (CL.out _).mono ?_
    rintro _ W1 ⟨rfl, d1⟩
    have e' : z = ⟨#[46, 46]⟩ := e
    clear e
    subst e'
    go_wp2
    go_ret
    exact ⟨by rw [HD.out]; rfl, d1⟩
  by_cases h4 : low p = [46, 37, 50, 101]
  · have HD : Hid (dots p = 2) := dots_is2 p (.inr (.inl h4))
    have e := hcase _ h4
    clear hcase hzl hz h1 h2 h3 h4
    go_enter Tryd.func32, Tryd.ntmps32
    go_wp2_with fail
    refine (CL.out _).mono ?_
    rintro _ W1 ⟨rfl, d1⟩
    have e' : z = ⟨#[46, 37, 50, 101]⟩ := e
    clear e
    subst e'
    go_wp2
    go_ret
    exact ⟨by rw [HD.out]; rfl, d1⟩
  by_cases h5 : low p = [37, 50, 101, 46]
  · have HD : Hid (dots p = 2) := dots_is2 p (.inr (.inr (.inl h5)))
    have e := hcase _ h5
    clear hcase hzl hz h1 h2 h3 h4 h5
    go_enter Tryd.func32, Tryd.ntmps32
    go_wp2_with fail
    refine (CL.out _).mono ?_
    rintro _ W1 ⟨rfl, d1⟩
    have e' : z = ⟨#[37, 50, 101, 46]⟩ := e
    clear e
    subst e'
    go_wp2
    go_ret
    exact ⟨by rw [HD.out]; rfl, d1⟩
  by_cases h6 : low p = [37, 50, 101, 37, 50, 101]
  · have HD : Hid (dots p = 2) := dots_is2 p (.inr (.inr (.inr h6)))
    have e := hcase _ h6
    clear hcase hzl hz h1 h2 h3 h4 h5 h6
    go_enter Tryd.func32, Tryd.ntmps32
    go_wp2_with fail
    refine (CL.out _).mono ?_
    rintro _ W1 ⟨rfl, d1⟩
    have e' : z = ⟨#[37, 50, 101, 37, 50, 101]⟩ := e
    clear e
    subst e'
    go_wp2
    go_ret
    exact ⟨by rw [HD.out]; rfl, d1⟩
  have HD : Hid (dots p = 0) := by unfold dots; show (if _ then _ else _) = _; rw [if_neg (by simp [h1, h2]), if_neg (by simp [h3, h4, h5, h6])]
  have e1 : (z.toList == [46]) = false := by rw [hzl]; simpa using h1
  have e2 : (z.toList == [37, 50, 101]) = false := by rw [hzl]; simpa using h2
  have e3 : (z.toList == [46, 46]) = false := by rw [hzl]; simpa using h3
  have e4 : (z.toList == [46, 37, 50, 101]) = false := by rw [hzl]; simpa using h4
  have e5 : (z.toList == [37, 50, 101, 46]) = false := by rw [hzl]; simpa using h5
  have e6 : (z.toList == [37, 50, 101, 37, 50, 101]) = false := by rw [hzl]; simpa using h6
  clear hcase hzl hz h1 h2 h3 h4 h5 h6
  go_enter Tryd.func32, Tryd.ntmps32
  go_wp2_with fail
  refine (CL.out _).mono ?_
  rintro _ W1 ⟨rfl, d1⟩
  go_wp2
  go_ret
  exact ⟨by rw [HD.out]; rfl, d1⟩

set_option maxHeartbeats 2000000 in
set_option maxRecDepth 100000 in
theorem l3Pieces (l : List UInt8) (w : World) (hl : l.length ≤ 1000000) :
    Calls Tryd.prog 20 #[.string (mk l)] w fun e w' => ∃ v, e = .returned v ∧ OwnS w.heap.size v (cutL 47 (slashL l)) w' ∧ Below w.heap.size w w' := by
  obtain ⟨c, W0, hrun, hR, hB0⟩ := bytes_run (mk l) w
  rw [mk_size] at hrun
  rw [mk_data] at hR
  have CC : Hid (∀ W, Calls Tryd.prog 34 #[.string (mk (slashL l)), .int .u8 47] W fun e w' => ∃ v, e = .returned v ∧ OwnS W.heap.size v (cutL 47 (slashL l)) w' ∧ Below W.heap.size W w') := fun W => l1Cut (mk (slashL l)) 47 W (by rw [mk_size, slashL_len]; omega)
  go_enter Tryd.func20, Tryd.ntmps20
  go_wp2
  go_loopw [4] (fun i wr => ∃ k : Nat, k ≤ l.length ∧ i = .int .i64 k ∧ RowB w.heap.size (slashL (l.take k) ++ l.drop k) wr ∧ Below w.heap.size w wr) (fun i wr => l.length - (intOf i).toNat)
  case atStart => exact ⟨0, Nat.zero_le _, rfl, hR, hB0⟩
  case round =>
    clear hrun hR hB0
    obtain ⟨k, hk, rfl, hI, hbw⟩ := hrel
    by_cases hp : k < l.length
    · have hki : (k : Int) < (l.length : Int) := by omega
      have hI' : RowB w.heap.size ((l.take k).map (fun x => if x = 92 then (47 : UInt8) else x) ++ l.drop k) wr := hI
      obtain ⟨hc, hf⟩ := hI'.atMap hp
      by_cases hx : l[k] = 92
      · have e1 : ((l[k].toNat : Int) == 92) = true := by rw [hx]; rfl
        have HP : Hid (RowB w.heap.size (slashL (l.take (k + 1)) ++ l.drop (k + 1)) (wr.setCell ⟨w.heap.size, k, none⟩ (.int .u8 47))) := hI'.putMap hp 47 (by rw [if_pos hx]; rfl)
        clear hx hI hI'
        go_wp2
        go_roundw
        case rel => exact ⟨k + 1, by omega, by go_num, HP.out, hbw.setCell (p := ⟨w.heap.size, k, none⟩) (Nat.le_refl _) _⟩
        case measure => simp [intOf]; omega
      · have e1 : ((l[k].toNat : Int) == 92) = false := by
          rw [beq_eq_false_iff_ne]; intro e; apply hx; apply UInt8.toNat_inj.1; show _ = 92; omega
        have HP : Hid (RowB w.heap.size (slashL (l.take (k + 1)) ++ l.drop (k + 1)) wr) := hI'.same hp (by rw [if_neg hx])
        clear hx hI hI'
        go_wp2
        go_roundw
        case rel => exact ⟨k + 1, by omega, by go_num, HP.out, hbw⟩
        case measure => simp [intOf]; omega
    · have hkk : k = l.length := by omega
      subst hkk
      rw [List.take_length, List.drop_length, List.append_nil] at hI
      have ht := hI.text (cap := c)
      rw [slashL_len] at ht
      clear hI
      go_wp2_with fail
      refine (CC.out _).mono ?_
      rintro _ W1 ⟨v, rfl, hO, d1⟩
      go_wp2
      go_ret
      have := hbw.size
      exact ⟨_, rfl, hO.base this, hbw.trans (d1.mono this)⟩
end Go.Proofs.YtjkbgdnjghlakaaDoor

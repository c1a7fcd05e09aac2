/- impl.setBytes, setOf and its closure: a set's bytes, and whether it has a byte. -/
import Derived.Test.YtjkbgdnjghlakaaDoorEncS
set_option linter.unusedVariables false
namespace Go.Proofs.YtjkbgdnjghlakaaDoor
open Go.RowKit Go.Shelf

set_option maxHeartbeats 1000000 in
theorem setBytes (set : Int) (w : World) : Calls Tryd.prog 52 #[.int .i64 set] w fun e w' => e = .returned (.string ⟨(setB set).toArray⟩) ∧ w' = w := by
  unfold setB
  by_cases h1 : set = 1
  · subst h1
    go_enter Tryd.func52, Tryd.ntmps52
    go_wp2
    go_ret
    exact ⟨rfl, rfl⟩
  by_cases h2 : set = 2
  · subst h2
    go_enter Tryd.func52, Tryd.ntmps52
    go_wp2
    go_ret
    exact ⟨rfl, rfl⟩
  by_cases h3 : set = 3
  · subst h3
    go_enter Tryd.func52, Tryd.ntmps52
    go_wp2
    go_ret
    exact ⟨rfl, rfl⟩
  by_cases h4 : set = 4
  · subst h4
    go_enter Tryd.func52, Tryd.ntmps52
    go_wp2
    go_ret
    exact ⟨rfl, rfl⟩
  by_cases h5 : set = 5
  · subst h5
    go_enter Tryd.func52, Tryd.ntmps52
    go_wp2
    go_ret
    exact ⟨rfl, rfl⟩
  · rw [if_neg h1, if_neg h2, if_neg h3, if_neg h4, if_neg h5]
    have e1 : (set == 1) = false := beq_eq_false_iff_ne.2 h1
    have e2 : (set == 2) = false := beq_eq_false_iff_ne.2 h2
    have e3 : (set == 3) = false := beq_eq_false_iff_ne.2 h3
    have e4 : (set == 4) = false := beq_eq_false_iff_ne.2 h4
    have e5 : (set == 5) = false := beq_eq_false_iff_ne.2 h5
    clear h1 h2 h3 h4 h5
    go_enter Tryd.func52, Tryd.ntmps52
    go_wp2
    go_ret
    exact ⟨rfl, rfl⟩

/-- A set as a text. -/
def setT (set : Int) : ByteArray := ⟨(setB set).toArray⟩
theorem setT_list (set : Int) : (setT set).data.toList = setB set := rfl

set_option maxHeartbeats 1000000 in
theorem setOf (set : Int) (w : World) : Calls Tryd.prog 40 #[.int .i64 set] w fun e w' => e = .returned (.func (.func 53) #[] #[.pointer (some ⟨w.heap.size, 0, none⟩)]) ∧ w' = w.alloc (.cells #[.string (setT set)] 9) := by
  have CS : Hid (∀ W, Calls Tryd.prog 52 #[.int .i64 set] W fun e w' => e = .returned (.string (setT set)) ∧ w' = W) := fun W => setBytes set W
  go_enter Tryd.func40, Tryd.ntmps40
  go_wp2_with fail
  refine (CS.out _).mono ?_
  rintro e W1 ⟨rfl, hW⟩
  have hW2 := hW.symm
  subst hW2
  go_wp2_with fail
  go_ret
  exact ⟨rfl, rfl⟩

theorem index_hasB (l : List UInt8) (c : UInt8) : decide (0 ≤ Lib.indexByte l c) = hasB l c := by
  unfold hasB
  induction l with
  | nil => simp [Lib.indexByte]
  | cons b l ih =>
    have hge := Lib.indexByte_ge l c
    rw [Lib.indexByte, List.contains_cons]
    by_cases h : b = c
    · subst h; simp
    · have e1 : (b == c) = false := beq_eq_false_iff_ne.2 h
      have e2 : (c == b) = false := beq_eq_false_iff_ne.2 (fun e => h e.symm)
      rw [e1, e2, Bool.false_or, ← ih]
      by_cases h2 : Lib.indexByte l c = -1
      · simp [h2]
      · have e3 : (Lib.indexByte l c == -1) = false := beq_eq_false_iff_ne.2 h2
        rw [e3]
        simp only [Bool.false_eq_true, if_false]
        rw [decide_eq_decide]
        omega

theorem u8_back (c : UInt8) : ((c.toNat : Int).toNat).toUInt8 = c := by simp

set_option maxHeartbeats 1000000 in
set_option maxRecDepth 100000 in
theorem setHas (set : Int) (c : UInt8) (g : Nat) (w : World) (hc : w.cell? ⟨g, 0, none⟩ = some (.string (setT set))) :
    Calls Tryd.prog 53 #[.int .u8 (c.toNat : Int), .pointer (some ⟨g, 0, none⟩)] w fun e w' => e = .returned (.bool (isIn set c)) ∧ w' = w := by
  have hb := u8_lt c
  rcases (show (c.toNat : Int) < 32 ∨ ((32 : Int) ≤ (c.toNat : Int) ∧ (126 : Int) < (c.toNat : Int)) ∨ ((32 : Int) ≤ (c.toNat : Int) ∧ (c.toNat : Int) ≤ 126) from by omega) with h1 | ⟨h1, h2⟩ | ⟨h1, h2⟩
  · have HI : Hid (isIn set c = true) := isIn_low set c h1
    go_enter Tryd.func53, Tryd.ntmps53
    go_wp2
    go_ret
    exact ⟨by rw [HI.out]; rfl, rfl⟩
  · have HI : Hid (isIn set c = true) := isIn_high set c h2
    go_enter Tryd.func53, Tryd.ntmps53
    go_wp2
    go_ret
    exact ⟨by rw [HI.out]; rfl, rfl⟩
  · have HI : Hid (isIn set c = hasB (setB set) c) := isIn_mid set c h1 h2
    have HX : Hid (decide (0 ≤ Lib.indexByte (setB set) c) = hasB (setB set) c) := index_hasB _ _
    have CI : Hid (∀ W, Calls Tryd.prog 54 #[.string (setT set), .int .u8 (c.toNat : Int)] W fun e w' => e = .returned (.int .i64 (Lib.indexByte (setB set) c)) ∧ w' = W) := fun W => by
      have := Tryd.strings_IndexByte (setT set) (c.toNat : Int) W
      rw [u8_back, setT_list] at this; exact this
    obtain ⟨n, hn⟩ : ∃ n, n = Lib.indexByte (setB set) c := ⟨_, rfl⟩
    rw [← hn] at CI HX
    clear hn
    go_enter Tryd.func53, Tryd.ntmps53
    go_wp2_with fail
    refine (CI.out _).mono ?_
    rintro e W1 ⟨rfl, hW⟩
    have hW2 := hW.symm
    subst hW2
    go_wp2
    go_ret
    have a1 : decide ((c.toNat : Int) < 32) = false := decide_eq_false (by omega)
    have a2 : decide ((126 : Int) < (c.toNat : Int)) = false := decide_eq_false (by omega)
    exact ⟨ret_bool (by rw [HI.out, ← HX.out, a1, a2]; rfl), rfl⟩

theorem cells_three (l : List UInt8) (a b : UInt8) : Lib.byteCells (l ++ [37, a, b]) = ((Lib.byteCells l ++ [.int .u8 37]) ++ [.int .u8 (a.toNat : Int)]) ++ [.int .u8 (b.toNat : Int)] := by
  rw [Lib.byteCells_append]; simp [Lib.byteCells]

theorem fig_shr (c : UInt8) : c.toNat / 16 < 16 ∧ c.toNat % 16 < 16 := by have := c.toNat_lt; omega

set_option maxHeartbeats 2000000 in
set_option maxRecDepth 100000 in
theorem encodeBy (set : Int) (s : ByteArray) (g : Nat) (w : World) (hs : s.size ≤ 1000000) (hg : g < w.heap.size) (hc : w.cell? ⟨g, 0, none⟩ = some (.string (setT set))) :
    Calls Tryd.prog 39 #[.func (.func 53) #[] #[.pointer (some ⟨g, 0, none⟩)], .string s] w fun e w' => e = .returned (.string ⟨(enc (isIn set) s.data.toList).toArray⟩) ∧ Below w.heap.size w w' := by
  go_enter Tryd.func39, Tryd.ntmps39
  go_wp2
  go_loopw [6] (fun i wr => ∃ k : Nat, k ≤ s.size ∧ i = .int .i64 k ∧ Lib.IsBuilderF 38 5 w.heap.size w.heap.size (Lib.byteCells (enc (isIn set) (s.data.toList.take k))) wr ∧ Below w.heap.size w wr) (fun i wr => s.size - (intOf i).toNat)
  case atStart => exact ⟨0, Nat.zero_le _, rfl, Lib.IsBuilderF.of (Lib.fresh_isBuilder _ _ w), (Below.refl _ w).alloc (Nat.le_refl _) _⟩
  case round =>
    obtain ⟨k, hk, rfl, hI, hbw⟩ := hrel
    have hsz : w.heap.size ≤ wr.heap.size := hbw.size
    have hcr : wr.cell? ⟨g, 0, none⟩ = some (.string (setT set)) := (hbw.cell (p := ⟨g, 0, none⟩) hg).trans hc
    by_cases hp : k < s.size
    · have hb := u8_lt s[k]
      have hki : (k : Int) < (s.size : Int) := by omega
      have hll := enc_take_len (isIn set) s k
      have h15 : bits .and .u8 (s[k].toNat : Int) 15 = (s[k].toNat : Int) % 16 := u8_and15 _ hb.1 hb.2
      have HT : Hid (enc (isIn set) (s.data.toList.take (k + 1)) = enc (isIn set) (s.data.toList.take k) ++ encB (isIn set) s[k]) := enc_take _ s k hp
      cases hin : isIn set s[k] with
      | true =>
        go_wp2_with (first
          | (go_at_call 53; refine (setHas set s[k] g _ hcr).mono ?_; rintro e W1 ⟨rfl, hW⟩; have hW2 := hW.symm; subst hW2; rw [hin])
          | fail)
        refine (writeByte_k w.heap.size w.heap.size _ 37 _ hI (by rw [Lib.byteCells_length]; omega) hsz).mono ?_
        rintro e W1 ⟨rfl, g1, b1, _⟩
        have s1 : w.heap.size ≤ W1.heap.size := Nat.le_trans hsz b1.size
        go_wp2_with fail
        rw [fig_at _ (fig_shr s[k]).1]
        refine (writeByte_k w.heap.size w.heap.size _ _ _ (Or.inr g1) (by rw [List.length_append, Lib.byteCells_length]; simp; omega) s1).mono ?_
        rintro e W2 ⟨rfl, g2, b2, _⟩
        have s2 : w.heap.size ≤ W2.heap.size := Nat.le_trans s1 b2.size
        go_wp2_with fail
        rw [fig_at _ (fig_shr s[k]).2]
        refine (writeByte_k w.heap.size w.heap.size _ _ _ (Or.inr g2) (by rw [List.length_append, List.length_append, Lib.byteCells_length]; simp; omega) s2).mono ?_
        rintro e W3 ⟨rfl, g3, b3, _⟩
        go_wp2
        go_roundw
        case rel => exact ⟨k + 1, by omega, by go_num, Or.inr (by rw [HT.out, encB_yes _ _ hin, cells_three]; exact g3), ((hbw.trans b1).trans b2).trans b3⟩
        case measure => simp [intOf]; omega
      | false =>
        have HT2 : Hid (enc (isIn set) (s.data.toList.take (k + 1)) = enc (isIn set) (s.data.toList.take k) ++ [s[k]]) := by
          show _ = _
          rw [HT.out, encB_no _ _ hin]
        go_wp2_with (first
          | (go_at_call 53; refine (setHas set s[k] g _ hcr).mono ?_; rintro e W1 ⟨rfl, hW⟩; have hW2 := hW.symm; subst hW2; rw [hin])
          | (go_at_call 21; refine (writeByte_k w.heap.size w.heap.size _ _ _ hI (by rw [Lib.byteCells_length]; omega) hsz).mono ?_; rintro e W1 ⟨rfl, g1, b1, _⟩))
        go_roundw
        case rel => exact ⟨k + 1, by omega, by go_num, Or.inr (by rw [HT2.out, byteCells_one]; exact g1), hbw.trans b1⟩
        case measure => simp [intOf]; omega
    · have hkk : k = s.size := by omega
      subst hkk
      rw [List.take_of_length_le (by simp)] at hI
      go_wp2_with (go_at_call 23; refine (Tryd.Builder_String_any_k w.heap.size w.heap.size _ _ hI hsz).mono ?_; rintro e W1 ⟨rfl, _, b1, _⟩)
      go_ret
      exact ⟨rfl, hbw.trans b1⟩
end Go.Proofs.YtjkbgdnjghlakaaDoor

/- spec.l1Set, l1Has, l1Figure: a set's bytes; whether a text has a byte; a figure. impl.setBytes, setOf and its closure: a set's bytes, and whether it has a byte. impl.Encode writes the bytes of a set as figures, whatever the text. The block of impl's urlReader: a reader, an address, and whether it is wrong. impl.urlReader's states readQuery, readOpaque, passSlashes, refuse. -/
import Derived.Test.YtnfhajhdpdidlaaGreatDoorB01
import Derived.Test.YtnfhajhdpdidlaaGreatDoorB02
set_option linter.unusedVariables false
set_option maxHeartbeats 2000000
set_option maxRecDepth 100000
section
namespace Go.Proofs.YtnfhajhdpdidlaaGreatDoor
open Go.RowKit Go.Shelf
theorem l1Set (set : Int) (w : World) : Calls Tryz.prog 158 #[.int .i64 set] w fun e w' => e = .returned (.string ⟨(setB set).toArray⟩) ∧ w' = w := by
 unfold setB
 by_cases h1 : set = 1
 ·subst h1
  go_enter Tryz.func158, Tryz.ntmps158
  go_wp2
  go_ret
  exact ⟨rfl, rfl⟩
 by_cases h2 : set = 2
 ·subst h2
  go_enter Tryz.func158, Tryz.ntmps158
  go_wp2
  go_ret
  exact ⟨rfl, rfl⟩
 by_cases h3 : set = 3
 ·subst h3
  go_enter Tryz.func158, Tryz.ntmps158
  go_wp2
  go_ret
  exact ⟨rfl, rfl⟩
 by_cases h4 : set = 4
 ·subst h4
  go_enter Tryz.func158, Tryz.ntmps158
  go_wp2
  go_ret
  exact ⟨rfl, rfl⟩
 by_cases h5 : set = 5
 ·subst h5
  go_enter Tryz.func158, Tryz.ntmps158
  go_wp2
  go_ret
  exact ⟨rfl, rfl⟩
 ·rw [if_neg h1, if_neg h2, if_neg h3, if_neg h4, if_neg h5]
  have e1 : (set == 1) = false := beq_eq_false_iff_ne.2 h1
  have e2 : (set == 2) = false := beq_eq_false_iff_ne.2 h2
  have e3 : (set == 3) = false := beq_eq_false_iff_ne.2 h3
  have e4 : (set == 4) = false := beq_eq_false_iff_ne.2 h4
  have e5 : (set == 5) = false := beq_eq_false_iff_ne.2 h5
  clear h1 h2 h3 h4 h5
  go_enter Tryz.func158, Tryz.ntmps158
  go_wp2
  go_ret
  exact ⟨rfl, rfl⟩
theorem contains_false_of (l : List UInt8) (c : UInt8) (h : ∀ j (hj : j < l.length), l[j] ≠ c) : hasB l c = false := by
 show l.contains c = false
 rw [Bool.eq_false_iff]
 intro hc
 rw [List.contains_iff_mem] at hc
 obtain ⟨j, hj, e⟩ := List.getElem_of_mem hc
 exact h j hj e
theorem l1Has (s : ByteArray) (c : UInt8) (w : World) (hs : s.size ≤ 1000000) : Calls Tryz.prog 159 #[.string s, .int .u8 (c.toNat : Int)] w fun e w' => e = .returned (.bool (hasB s.data.toList c)) ∧ w' = w := by
 go_enter Tryz.func159, Tryz.ntmps159
 go_wp2
 go_loop [5] (fun i => ∃ k : Nat, k ≤ s.size ∧ i = .int .i64 k ∧ Hid (∀ j (hj : j < s.size), j < k → s[j] ≠ c)) (fun i => s.size - (intOf i).toNat)
 case atStart => exact ⟨0, Nat.zero_le _, rfl, fun j hj h => absurd h (by omega)⟩
 case round =>
  obtain ⟨k, hk, rfl, HN⟩ := hrel
  by_cases hp : k < s.size
  ·by_cases hc : s[k] = c
   ·have HF : Hid (hasB s.data.toList c = true) := by
     show s.data.toList.contains c = true
     rw [List.contains_iff_mem, ← hc]
     exact List.getElem_mem (by simpa using hp)
    have e1 : ((s[k].toNat : Int) == (c.toNat : Int)) = true := by rw [hc]; simp
    clear hc
    go_wp2
    go_ret
    exact ⟨by rw [HF.out]; rfl, rfl⟩
   ·have e1 : ((s[k].toNat : Int) == (c.toNat : Int)) = false := by
     rw [beq_eq_false_iff_ne]; intro h; exact hc (UInt8.toNat_inj.1 (by omega))
    have HN2 : Hid (∀ j (hj : j < s.size), j < k + 1 → s[j] ≠ c) := by
     intro j hj h
     by_cases hjk : j = k
     ·subst hjk; exact hc
     ·exact HN.out j hj (by omega)
    clear hc
    go_wp2
    go_round
    case rel => exact ⟨k + 1, by omega, by go_num, HN2⟩
    case measure => simp [intOf]; omega
  ·have HF : Hid (hasB s.data.toList c = false) := by
    refine contains_false_of _ _ (fun j hj => ?_)
    exact HN.out j (by simpa using hj) (by have : j < s.size := by simpa using hj
                                           omega)
   go_wp2
   go_ret
   exact ⟨by rw [HF.out]; rfl, rfl⟩
def encode (set : Int) (s : ByteArray) : List UInt8 := if s.size ≤ 200 then enc (isIn set) s.data.toList else []
theorem encode_small (set : Int) (s : ByteArray) (h : s.size ≤ 200) : encode set s = enc (isIn set) s.data.toList := if_pos h
theorem encode_great (set : Int) (s : ByteArray) (h : ¬ s.size ≤ 200) : encode set s = [] := if_neg h
theorem isIn_low (set : Int) (c : UInt8) (h : (c.toNat : Int) < 32) : isIn set c = true := by
 have : c.toNat < 32 := by omega
 simp [isIn, this]
theorem isIn_high (set : Int) (c : UInt8) (h : (126 : Int) < (c.toNat : Int)) : isIn set c = true := by
 have : 126 < c.toNat := by omega
 simp [isIn, this]
theorem isIn_mid (set : Int) (c : UInt8) (h1 : (32 : Int) ≤ (c.toNat : Int)) (h2 : (c.toNat : Int) ≤ 126) : isIn set c = hasB (setB set) c := by
 have e1 : ¬ c.toNat < 32 := by omega
 have e2 : ¬ 126 < c.toNat := by omega
 simp [isIn, e1, e2]
theorem specEncode (set : Int) (s : ByteArray) (w : World) (hs : s.size ≤ maxLen) :
  Calls Tryz.prog 137 #[.int .i64 set, .string s] w fun e w' => e = .returned (.string ⟨(encode set s).toArray⟩) ∧ Below w.heap.size w w' := by
 unfold maxLen at hs
 obtain ⟨m, hm⟩ : ∃ m : ByteArray, m = ⟨(setB set).toArray⟩ := ⟨_, rfl⟩
 have CS : Hid (∀ W, Calls Tryz.prog 158 #[.int .i64 set] W fun e w' => e = .returned (.string m) ∧ w' = W) := fun W => by rw [hm]; exact l1Set set W
 have HM : Hid (m.data.toList = setB set) := by rw [hm]; rfl
 have hml : m.size ≤ 1000000 := by
  rw [hm]; show (setB set).toArray.size ≤ _; unfold setB
  simp only [List.size_toArray]
  (repeat' split) <;> simp
 clear hm
 by_cases hL : s.size ≤ 200
 ·rw [encode_small set s hL]
  have hLi : (s.size : Int) ≤ 200 := by omega
  go_enter Tryz.func137, Tryz.ntmps137
  go_wp2_with fail
  refine (CS.out _).mono ?_
  rintro e W1 ⟨rfl, hW⟩
  have hW2 := hW.symm
  subst hW2
  go_wp2_with fail
  go_loopw [5, 7] (fun v i wr => ∃ k : Nat, k ≤ s.size ∧ i = .int .i64 k ∧ OwnB w.heap.size v (enc (isIn set) (s.data.toList.take k)) wr ∧ Below w.heap.size w wr) (fun _ i wr => s.size - (intOf i).toNat)
  case atStart => exact ⟨0, Nat.zero_le _, rfl, ownB_new w _ (Nat.le_refl _), (Below.refl _ w).alloc (Nat.le_refl _) _⟩
  case round =>
   obtain ⟨k, hk, rfl, hI, hbw⟩ := hrel
   have hsz : w.heap.size ≤ wr.heap.size := hbw.size
   by_cases hp : k < s.size
   ·have hb := u8_lt s[k]
    have hki : (k : Int) < (s.size : Int) := by omega
    have hll := enc_take_len (isIn set) s k
    have HT : Hid (enc (isIn set) (s.data.toList.take (k + 1)) = enc (isIn set) (s.data.toList.take k) ++ encB (isIn set) s[k]) := enc_take _ s k hp
    cases hin : isIn set s[k] with
    | true =>
     have HT2 : Hid (enc (isIn set) (s.data.toList.take (k + 1)) = enc (isIn set) (s.data.toList.take k) ++ [37, fig ((s[k].toNat : Int) / 16).toNat, fig ((s[k].toNat : Int) % 16).toNat]) := by
      show _ = _
      rw [HT.out, encB_yes _ _ hin]
      have q1 : ((s[k].toNat : Int) / 16).toNat = s[k].toNat / 16 := by omega
      have q2 : ((s[k].toNat : Int) % 16).toNat = s[k].toNat % 16 := by omega
      rw [q1, q2]
     have HM2 : Hid ((32 : Int) ≤ (s[k].toNat : Int) → (s[k].toNat : Int) ≤ 126 → hasB m.data.toList s[k] = true) := fun a b => by rw [HM.out, ← isIn_mid set s[k] a b]; exact hin
     clear hin HT
     rcases (show (s[k].toNat : Int) < 32 ∨ ((32 : Int) ≤ (s[k].toNat : Int) ∧ (126 : Int) < (s[k].toNat : Int)) ∨ ((32 : Int) ≤ (s[k].toNat : Int) ∧ (s[k].toNat : Int) ≤ 126) from by omega) with h1 | ⟨h1, h2⟩ | ⟨h1, h2⟩
     all_goals
      first
       | (have hh := HM2.out h1 h2)
       | skip
      go_wp2_with (first
       | (go_at_call 159; refine (l1Has m s[k] _ hml).mono ?_; rintro e W1 ⟨rfl, hW⟩; have hW2 := hW.symm; subst hW2; rw [hh])
       | (go_at_call 160; refine (l1Figure _ _ (by omega) (by omega)).mono ?_; rintro e W1 ⟨rfl, hW⟩; have hW2 := hW.symm; subst hW2)
       | (at_builtin; refine wpAppendBytes wr rfl _ _ rfl w.heap.size _ _ [37, fig ((s[k].toNat : Int) / 16).toNat, fig ((s[k].toNat : Int) % 16).toNat] _ rfl hI rfl 3 rfl (by simp; omega) hsz ?_; intro v1 w1 R b1))
      go_roundw
      case rel => exact ⟨k + 1, by omega, by go_num, by rw [HT2.out]; exact R, hbw.trans b1⟩
      case measure => simp [intOf]; omega
    | false =>
     have HT2 : Hid (enc (isIn set) (s.data.toList.take (k + 1)) = enc (isIn set) (s.data.toList.take k) ++ [s[k]]) := by
      show _ = _
      rw [HT.out, encB_no _ _ hin]
     have h1 : (32 : Int) ≤ (s[k].toNat : Int) := by
      rcases (show (s[k].toNat : Int) < 32 ∨ (32 : Int) ≤ (s[k].toNat : Int) from by omega) with h | h
      ·rw [isIn_low set s[k] h] at hin; cases hin
      ·exact h
     have h2 : (s[k].toNat : Int) ≤ 126 := by
      rcases (show (126 : Int) < (s[k].toNat : Int) ∨ (s[k].toNat : Int) ≤ 126 from by omega) with h | h
      ·rw [isIn_high set s[k] h] at hin; cases hin
      ·exact h
     have HH : Hid (hasB m.data.toList s[k] = false) := by
      show _ = _
      rw [HM.out, ← isIn_mid set s[k] h1 h2]; exact hin
     clear hin HT
     go_wp2_with (first
      | (go_at_call 159; refine (l1Has m s[k] _ hml).mono ?_; rintro e W1 ⟨rfl, hW⟩; have hW2 := hW.symm; subst hW2; rw [HH.out])
      | (at_builtin; refine wpAppendByte wr rfl _ _ rfl w.heap.size _ _ s[k] _ rfl hI rfl rfl (by omega) hsz ?_; intro v1 w1 R b1))
     go_roundw
     case rel => exact ⟨k + 1, by omega, by go_num, by rw [HT2.out]; exact R, hbw.trans b1⟩
     case measure => simp [intOf]; omega
   ·have hkk : k = s.size := by omega
    subst hkk
    rw [List.take_of_length_le (by simp)] at hI
    have ht := ownB_text hI
    go_wp2
    go_ret
    exact ⟨rfl, hbw⟩
 ·rw [encode_great set s hL]
  have hLi : (200 : Int) < (s.size : Int) := by omega
  go_enter Tryz.func137, Tryz.ntmps137
  go_wp2_with fail
  refine (CS.out _).mono ?_
  rintro e W1 ⟨rfl, hW⟩
  have hW2 := hW.symm
  subst hW2
  go_wp2_with fail
  go_loopw [5, 7] (fun v i wr => i = .int .i64 0 ∧ OwnB w.heap.size v [] wr ∧ Below w.heap.size w wr) (fun _ i wr => 0)
  case atStart => exact ⟨rfl, ownB_new w _ (Nat.le_refl _), (Below.refl _ w).alloc (Nat.le_refl _) _⟩
  case round =>
   obtain ⟨rfl, hI, hbw⟩ := hrel
   have ht := ownB_text hI
   go_wp2
   go_ret
   exact ⟨rfl, hbw⟩
end Go.Proofs.YtnfhajhdpdidlaaGreatDoor
end
section
namespace Go.Proofs.YtnfhajhdpdidlaaGreatDoor
open Go.RowKit Go.Shelf
theorem setBytes (set : Int) (w : World) : Calls Tryz.prog 175 #[.int .i64 set] w fun e w' => e = .returned (.string ⟨(setB set).toArray⟩) ∧ w' = w := by
 unfold setB
 by_cases h1 : set = 1
 ·subst h1
  go_enter Tryz.func175, Tryz.ntmps175
  go_wp2
  go_ret
  exact ⟨rfl, rfl⟩
 by_cases h2 : set = 2
 ·subst h2
  go_enter Tryz.func175, Tryz.ntmps175
  go_wp2
  go_ret
  exact ⟨rfl, rfl⟩
 by_cases h3 : set = 3
 ·subst h3
  go_enter Tryz.func175, Tryz.ntmps175
  go_wp2
  go_ret
  exact ⟨rfl, rfl⟩
 by_cases h4 : set = 4
 ·subst h4
  go_enter Tryz.func175, Tryz.ntmps175
  go_wp2
  go_ret
  exact ⟨rfl, rfl⟩
 by_cases h5 : set = 5
 ·subst h5
  go_enter Tryz.func175, Tryz.ntmps175
  go_wp2
  go_ret
  exact ⟨rfl, rfl⟩
 ·rw [if_neg h1, if_neg h2, if_neg h3, if_neg h4, if_neg h5]
  have e1 : (set == 1) = false := beq_eq_false_iff_ne.2 h1
  have e2 : (set == 2) = false := beq_eq_false_iff_ne.2 h2
  have e3 : (set == 3) = false := beq_eq_false_iff_ne.2 h3
  have e4 : (set == 4) = false := beq_eq_false_iff_ne.2 h4
  have e5 : (set == 5) = false := beq_eq_false_iff_ne.2 h5
  clear h1 h2 h3 h4 h5
  go_enter Tryz.func175, Tryz.ntmps175
  go_wp2
  go_ret
  exact ⟨rfl, rfl⟩
def setT (set : Int) : ByteArray := ⟨(setB set).toArray⟩
theorem setT_list (set : Int) : (setT set).data.toList = setB set := rfl
theorem setOf (set : Int) (w : World) : Calls Tryz.prog 151 #[.int .i64 set] w fun e w' => e = .returned (.func (.func 176) #[] #[.pointer (some ⟨w.heap.size, 0, none⟩)]) ∧ w' = w.alloc (.cells #[.string (setT set)] 9) := by
 have CS : Hid (∀ W, Calls Tryz.prog 175 #[.int .i64 set] W fun e w' => e = .returned (.string (setT set)) ∧ w' = W) := fun W => setBytes set W
 go_enter Tryz.func151, Tryz.ntmps151
 go_wp2_with fail
 refine (CS.out _).mono ?_
 rintro e W1 ⟨rfl, hW⟩
 have hW2 := hW.symm
 subst hW2
 go_wp2_with fail
 go_ret
 exact ⟨rfl, rfl⟩
theorem setHas (set : Int) (c : UInt8) (g : Nat) (w : World) (hc : w.cell? ⟨g, 0, none⟩ = some (.string (setT set))) :
  Calls Tryz.prog 176 #[.int .u8 (c.toNat : Int), .pointer (some ⟨g, 0, none⟩)] w fun e w' => e = .returned (.bool (isIn set c)) ∧ w' = w := by
 have hb := u8_lt c
 rcases (show (c.toNat : Int) < 32 ∨ ((32 : Int) ≤ (c.toNat : Int) ∧ (126 : Int) < (c.toNat : Int)) ∨ ((32 : Int) ≤ (c.toNat : Int) ∧ (c.toNat : Int) ≤ 126) from by omega) with h1 | ⟨h1, h2⟩ | ⟨h1, h2⟩
 ·have HI : Hid (isIn set c = true) := isIn_low set c h1
  go_enter Tryz.func176, Tryz.ntmps176
  go_wp2
  go_ret
  exact ⟨by rw [HI.out]; rfl, rfl⟩
 ·have HI : Hid (isIn set c = true) := isIn_high set c h2
  go_enter Tryz.func176, Tryz.ntmps176
  go_wp2
  go_ret
  exact ⟨by rw [HI.out]; rfl, rfl⟩
 ·have HI : Hid (isIn set c = hasB (setB set) c) := isIn_mid set c h1 h2
  have HX : Hid (decide (0 ≤ Lib.indexByte (setB set) c) = hasB (setB set) c) := index_hasB _ _
  have CI : Hid (∀ W, Calls Tryz.prog 117 #[.string (setT set), .int .u8 (c.toNat : Int)] W fun e w' => e = .returned (.int .i64 (Lib.indexByte (setB set) c)) ∧ w' = W) := fun W => by
   have := Tryz.strings_IndexByte (setT set) (c.toNat : Int) W
   rw [u8_back, setT_list] at this; exact this
  obtain ⟨n, hn⟩ : ∃ n, n = Lib.indexByte (setB set) c := ⟨_, rfl⟩
  rw [← hn] at CI HX
  clear hn
  go_enter Tryz.func176, Tryz.ntmps176
  go_wp2_with fail
  refine (CI.out _).mono ?_
  rintro e W1 ⟨rfl, hW⟩
  have hW2 := hW.symm
  subst hW2
  go_wp2
  go_ret
  have a1 : decide ((c.toNat : Int) < 32) = false := decide_eq_false (by omega)
  have a2 : decide ((126 : Int) < (c.toNat : Int)) = false := decide_eq_false (by omega)
  exact ⟨ret_bool (by rw [HI.out, ← HX.out, a1, a2]; rfl), rfl⟩
theorem encodeBy (set : Int) (s : ByteArray) (g : Nat) (w : World) (hs : s.size ≤ 1000000) (hg : g < w.heap.size) (hc : w.cell? ⟨g, 0, none⟩ = some (.string (setT set))) :
  Calls Tryz.prog 150 #[.func (.func 176) #[] #[.pointer (some ⟨g, 0, none⟩)], .string s] w fun e w' => e = .returned (.string ⟨(enc (isIn set) s.data.toList).toArray⟩) ∧ Below w.heap.size w w' := by
 go_enter Tryz.func150, Tryz.ntmps150
 go_wp2
 go_loopw [6] (fun i wr => ∃ k : Nat, k ≤ s.size ∧ i = .int .i64 k ∧ Lib.IsBuilderF 67 5 w.heap.size w.heap.size (Lib.byteCells (enc (isIn set) (s.data.toList.take k))) wr ∧ Below w.heap.size w wr) (fun i wr => s.size - (intOf i).toNat)
 case atStart => exact ⟨0, Nat.zero_le _, rfl, Lib.IsBuilderF.of (Lib.fresh_isBuilder _ _ w), (Below.refl _ w).alloc (Nat.le_refl _) _⟩
 case round =>
  obtain ⟨k, hk, rfl, hI, hbw⟩ := hrel
  have hsz : w.heap.size ≤ wr.heap.size := hbw.size
  have hcr : wr.cell? ⟨g, 0, none⟩ = some (.string (setT set)) := (hbw.cell (p := ⟨g, 0, none⟩) hg).trans hc
  by_cases hp : k < s.size
  ·have hb := u8_lt s[k]
   have hki : (k : Int) < (s.size : Int) := by omega
   have hll := enc_take_len (isIn set) s k
   have h15 : bits .and .u8 (s[k].toNat : Int) 15 = (s[k].toNat : Int) % 16 := u8_and15 _ hb.1 hb.2
   have HT : Hid (enc (isIn set) (s.data.toList.take (k + 1)) = enc (isIn set) (s.data.toList.take k) ++ encB (isIn set) s[k]) := enc_take _ s k hp
   cases hin : isIn set s[k] with
   | true =>
    go_wp2_with (first
     | (go_at_call 176; refine (setHas set s[k] g _ hcr).mono ?_; rintro e W1 ⟨rfl, hW⟩; have hW2 := hW.symm; subst hW2; rw [hin])
     | fail)
    refine (writeByte_k w.heap.size w.heap.size _ 37 _ hI (by rw [Lib.byteCells_length]; omega) hsz).mono ?_
    rintro e W1 ⟨rfl, g1, b1, _⟩
    have s1 : w.heap.size ≤ W1.heap.size := Nat.le_trans hsz b1.size
    go_wp2_with fail
    rw [fig_at _ (fig_shr s[k]).1]
    refine (writeByte_k w.heap.size w.heap.size _ _ _ (Or.inr g1) (by rw [List.length_append, Lib.byteCells_length]; simp; omega) s1).mono ?_
    rintro e W2 ⟨rfl, g2, b2, _⟩
    have s2 : w.heap.size ≤ W2.heap.size := Nat.le_trans s1 b2.size
    go_wp2_with fail
    rw [fig_at _ (fig_shr s[k]).2]
    refine (writeByte_k w.heap.size w.heap.size _ _ _ (Or.inr g2) (by rw [List.length_append, List.length_append, Lib.byteCells_length]; simp; omega) s2).mono ?_
    rintro e W3 ⟨rfl, g3, b3, _⟩
    go_wp2
    go_roundw
    case rel => exact ⟨k + 1, by omega, by go_num, Or.inr (by rw [HT.out, encB_yes _ _ hin, cells_three]; exact g3), ((hbw.trans b1).trans b2).trans b3⟩
    case measure => simp [intOf]; omega
   | false =>
    have HT2 : Hid (enc (isIn set) (s.data.toList.take (k + 1)) = enc (isIn set) (s.data.toList.take k) ++ [s[k]]) := by
     show _ = _
     rw [HT.out, encB_no _ _ hin]
    go_wp2_with (first
     | (go_at_call 176; refine (setHas set s[k] g _ hcr).mono ?_; rintro e W1 ⟨rfl, hW⟩; have hW2 := hW.symm; subst hW2; rw [hin])
     | (go_at_call 45; refine (writeByte_k w.heap.size w.heap.size _ _ _ hI (by rw [Lib.byteCells_length]; omega) hsz).mono ?_; rintro e W1 ⟨rfl, g1, b1, _⟩))
    go_roundw
    case rel => exact ⟨k + 1, by omega, by go_num, Or.inr (by rw [HT2.out, byteCells_one]; exact g1), hbw.trans b1⟩
    case measure => simp [intOf]; omega
  ·have hkk : k = s.size := by omega
   subst hkk
   rw [List.take_of_length_le (by simp)] at hI
   go_wp2_with (go_at_call 47; refine (Tryz.Builder_String_any_k w.heap.size w.heap.size _ _ hI hsz).mono ?_; rintro e W1 ⟨rfl, _, b1, _⟩)
   go_ret
   exact ⟨rfl, hbw.trans b1⟩
end Go.Proofs.YtnfhajhdpdidlaaGreatDoor
end
section
namespace Go.Proofs.YtnfhajhdpdidlaaGreatDoor
open Go.RowKit Go.Shelf
theorem implEncode (set : Int) (s : ByteArray) (w : World) (hs : s.size ≤ maxLen) :
  Calls Tryz.prog 122 #[.int .i64 set, .string s] w fun e w' => e = .returned (.string ⟨(encode set s).toArray⟩) ∧ Below w.heap.size w w' := by
 unfold maxLen at hs
 by_cases hL : s.size ≤ 200
 ·rw [encode_small set s hL]
  have hLi : (s.size : Int) ≤ 200 := by omega
  go_enter Tryz.func122, Tryz.ntmps122
  go_wp2_with fail
  refine (setOf set _).mono ?_
  rintro e W1 ⟨rfl, hW⟩
  have hc : W1.cell? ⟨w.heap.size, 0, none⟩ = some (.string (setT set)) := by rw [hW, Lib.cell_of_heap (heap_alloc_new w _)]; rfl
  have hl : w.heap.size < W1.heap.size := by rw [hW]; simp
  have hb1 : Below w.heap.size w W1 := by rw [hW]; exact (Below.refl _ w).alloc (Nat.le_refl _) _
  clear hW
  go_wp2_with fail
  refine (encodeBy set s w.heap.size _ (by omega) hl hc).mono ?_
  rintro e W2 ⟨rfl, b2⟩
  go_wp2
  go_ret
  exact ⟨rfl, hb1.trans (b2.mono (Nat.le_of_lt hl))⟩
 ·rw [encode_great set s hL]
  have hLi : (200 : Int) < (s.size : Int) := by omega
  go_enter Tryz.func122, Tryz.ntmps122
  go_wp2
  go_ret
  exact ⟨rfl, Below.refl _ _⟩
end Go.Proofs.YtnfhajhdpdidlaaGreatDoor
end
section
namespace Go.Proofs.YtnfhajhdpdidlaaGreatDoor
open Go.RowKit Go.Shelf
structure U where
 sc : ByteArray
 us : ByteArray
 pw : ByteArray
 hk : Int
 hn : ByteArray
 ha : Int
 po : Int
 pa : Value
 op : ByteArray
 hq : Bool
 qu : ByteArray
 hf : Bool
 fr : ByteArray
def U.cells (u : U) : List Value := [.string u.sc, .string u.us, .string u.pw, .int .i64 u.hk, .string u.hn, .int .i64 u.ha, .int .i64 u.po, u.pa, .string u.op, .bool u.hq, .string u.qu, .bool u.hf, .string u.fr]
def UR (g : Nat) (t : ByteArray) (i : Nat) (u : U) (x : Bool) (w : World) : Prop := Rdr g t i (u.cells ++ [.bool x]) 79 w
theorem Rdr.cellR {g : Nat} {t : ByteArray} {i : Nat} {R : List Value} {T : TypeId} {w : World} (h : Rdr g t i R T w) (j : Nat) : w.cell? ⟨g, j + 3, none⟩ = R[j]? := by
 have h' : Blk g (#[.string t, .int .i64 (i : Int), .int .i64 (-1)] ++ R.toArray) T w := h
 rw [Blk.cell h' (j + 3), Array.getElem?_append_right (by simp)]
 simp
theorem Rdr.setR {g : Nat} {t : ByteArray} {i : Nat} {R : List Value} {T : TypeId} {w : World} (h : Rdr g t i R T w) (j : Nat) (v : Value) : Rdr g t i (R.set j v) T (w.setCell ⟨g, j + 3, none⟩ v) := by
 have h' : Blk g (#[.string t, .int .i64 (i : Int), .int .i64 (-1)] ++ R.toArray) T w := h
 have e : (#[Value.string t, Value.int .i64 (i : Int), Value.int .i64 (-1)] ++ R.toArray).setIfInBounds (j + 3) v = #[Value.string t, Value.int .i64 (i : Int), Value.int .i64 (-1)] ++ (R.set j v).toArray := by
  apply Array.ext'
  simp
 have := Blk.set h' (j + 3) v
 rw [e] at this
 exact this
theorem UR.cell {g : Nat} {t : ByteArray} {i : Nat} {u : U} {x : Bool} {w : World} (h : UR g t i u x w) (j : Nat) (v : Value) (e : (u.cells ++ [Value.bool x])[j]? = some v) : w.cell? ⟨g, j + 3, none⟩ = some v := (Rdr.cellR h j).trans e
theorem UR.set {g : Nat} {t : ByteArray} {i : Nat} {u : U} {x : Bool} {w : World} (h : UR g t i u x w) (j : Nat) (v : Value) (u' : U) (x' : Bool) (e : (u.cells ++ [Value.bool x]).set j v = u'.cells ++ [Value.bool x']) : UR g t i u' x' (w.setCell ⟨g, j + 3, none⟩ v) := by
 have := Rdr.setR h j v
 rw [e] at this
 exact this
theorem UR.free {g : Nat} {t : ByteArray} {i : Nat} {u : U} {x : Bool} {w : World} (h : UR g t i u x w) (j : Nat) : w.frozen? ⟨g, j, none⟩ = false := by
 have h' : Blk g (#[.string t, .int .i64 (i : Int), .int .i64 (-1)] ++ (u.cells ++ [Value.bool x]).toArray) 79 w := h
 exact Blk.free h' j
theorem UR.grown {g : Nat} {t : ByteArray} {i : Nat} {u : U} {x : Bool} {w w' : World} {B : Nat} (h : UR g t i u x w) (b : Below B w w') (hB : g < B) : UR g t i u x w' := Rdr.below h b hB
def wrT (set : Int) (l : List UInt8) : ByteArray := ⟨(encode set (mk l)).toArray⟩
theorem encAt (set : Int) (l : List UInt8) (w : World) (hl : l.length ≤ 1000) :
  Calls Tryz.prog 122 #[.int .i64 set, .string (mk l)] w fun e w' => e = .returned (.string (wrT set l)) ∧ Below w.heap.size w w' := implEncode set (mk l) w (by rw [mk_size]; unfold maxLen; omega)
theorem upL_none (l : List UInt8) : upL [] l = l := by
 induction l with
 | nil => rfl
 | cons c r ih => unfold upL at ih ⊢; rw [List.takeWhile_cons, if_pos (by simp [among]), ih]
theorem upL_le (S l : List UInt8) : (upL S l).length ≤ l.length := by
 unfold upL; exact (List.takeWhile_sublist _).length_le
theorem pass_lt {S : List UInt8} {t : ByteArray} {i : Nat} (h : passB S (t.data.toList.drop i) = true) : i + 1 ≤ t.size := by
 rcases Nat.lt_or_ge i t.size with h' | h'
 ·exact h'
 ·rw [pass_end _ _ _ h'] at h; cases h
def fragI (t : ByteArray) (i : Nat) : Nat := if passB [35] (t.data.toList.drop i) = true then t.size else i
def fragU (t : ByteArray) (i : Nat) (u : U) : U := if passB [35] (t.data.toList.drop i) = true then { u with hf := true, fr := wrT 3 (t.data.toList.drop (i + 1)) } else u
theorem readFrag (g : Nat) (t : ByteArray) (i : Nat) (u : U) (x : Bool) (w : World) (h : UR g t i u x w) (hE : Eof w) (hg : g ≠ 1) (hi : i ≤ t.size) (ht : t.size ≤ 1000) :
  Calls Tryz.prog 152 #[.pointer (some ⟨g, 0, none⟩)] w fun e w' => e = .returned .nilFunc ∧ UR g t (fragI t i) (fragU t i u) x w' ∧ w.grownBy w' (some g) := by
 have hgl := Rdr.lt h
 have H0 : Hid (UR g t i u x w) := h
 have HE : Hid (∀ W, w.grownBy W (some g) → Eof W) := fun W k => hE.grown k hg
 clear h hE
 cases hp : passB [35] (t.data.toList.drop i) with
 | false =>
  rw [show fragI t i = i by unfold fragI; rw [hp]; rfl, show fragU t i u = u by unfold fragU; rw [hp]; rfl]
  go_enter Tryz.func152, Tryz.ntmps152
  go_wp2_with fail
  refine (pass_no g t i _ ⟨#[35]⟩ w H0.out (HE.out w (World.grownBy.refl w _)) hi ht hp).mono ?_
  rintro e W1 ⟨rfl, hR1, hG1⟩
  have HU : Hid (UR g t i u x W1) := hR1
  have HG : Hid (w.grownBy W1 (some g)) := hG1
  clear hR1 hG1
  go_wp2
  go_ret
  exact ⟨rfl, HU.out, HG.out⟩
 | true =>
  rw [show fragI t i = t.size by unfold fragI; rw [hp]; rfl, show fragU t i u = { u with hf := true, fr := wrT 3 (t.data.toList.drop (i + 1)) } by unfold fragU; rw [hp]; rfl]
  have hi1 := pass_lt hp
  have hln : (t.data.toList.drop (i + 1)).length = t.size - (i + 1) := by simp
  go_enter Tryz.func152, Tryz.ntmps152
  go_wp2_with fail
  refine (pass_yes g t i _ ⟨#[35]⟩ w H0.out ht hp).mono ?_
  rintro e W1 ⟨rfl, hR1, hG1⟩
  have hU1 : UR g t (i + 1) u x W1 := hR1
  have c11 : W1.cell? ⟨g, 14, none⟩ = some (.bool u.hf) := hU1.cell 11 _ rfl
  have f11 : W1.frozen? ⟨g, 14, none⟩ = false := hU1.free 14
  have HU2 : Hid (UR g t (i + 1) { u with hf := true } x (W1.setCell ⟨g, 14, none⟩ (.bool true))) := hU1.set 11 _ _ _ rfl
  have HG2 : Hid (w.grownBy (W1.setCell ⟨g, 14, none⟩ (.bool true)) (some g)) := grown_then hG1 (grown_set W1 g 14 _)
  clear hR1 hG1 hU1
  go_wp2_with fail
  refine (upTo g t (i + 1) _ ⟨#[]⟩ _ HU2.out (HE.out _ HG2.out) hg hi1 ht).mono ?_
  rintro e W3 ⟨rfl, hR3, hG3⟩
  rw [show upL (ByteArray.mk #[]).data.toList (t.data.toList.drop (i + 1)) = t.data.toList.drop (i + 1) from upL_none _] at hR3 ⊢
  rw [hln, show i + 1 + (t.size - (i + 1)) = t.size by omega] at hR3
  have HU3 : Hid (UR g t t.size { u with hf := true } x W3) := hR3
  have HG3 : Hid (w.grownBy W3 (some g)) := grown_then HG2.out hG3
  have hgl3 : g < W3.heap.size := Rdr.lt hR3
  clear hR3 hG3 HU2 HG2 c11 f11
  go_wp2_with fail
  refine (encAt 3 (t.data.toList.drop (i + 1)) _ (by omega)).mono ?_
  rintro e W4 ⟨rfl, d4⟩
  have hU4 : UR g t t.size { u with hf := true } x W4 := HU3.out.grown d4 hgl3
  have HG4 : Hid (w.grownBy W4 (some g)) := grown_low HG3.out d4 HG3.out.size
  have c12 : W4.cell? ⟨g, 15, none⟩ = some (.string u.fr) := hU4.cell 12 _ rfl
  have f12 : W4.frozen? ⟨g, 15, none⟩ = false := hU4.free 15
  have HU5 : Hid (UR g t t.size { u with hf := true, fr := wrT 3 (t.data.toList.drop (i + 1)) } x (W4.setCell ⟨g, 15, none⟩ (.string (wrT 3 (t.data.toList.drop (i + 1)))))) := hU4.set 12 _ _ _ rfl
  have HG5 : Hid (w.grownBy (W4.setCell ⟨g, 15, none⟩ (.string (wrT 3 (t.data.toList.drop (i + 1))))) (some g)) := grown_then HG4.out (grown_set W4 g 15 _)
  clear hU4 HG4
  go_wp2
  go_ret
  exact ⟨rfl, HU5.out, HG5.out⟩
end Go.Proofs.YtnfhajhdpdidlaaGreatDoor
end
section
namespace Go.Proofs.YtnfhajhdpdidlaaGreatDoor
open Go.RowKit Go.Shelf
theorem up_len (S : List UInt8) (t : ByteArray) (i : Nat) (hi : i ≤ t.size) : i + (upL S (t.data.toList.drop i)).length ≤ t.size := by
 have := upL_le S (t.data.toList.drop i)
 have h2 : (t.data.toList.drop i).length = t.size - i := by simp
 omega
def queI (t : ByteArray) (i : Nat) : Nat := if passB [63] (t.data.toList.drop i) = true then i + 1 + (upL [35] (t.data.toList.drop (i + 1))).length else i
def queU (t : ByteArray) (i : Nat) (u : U) : U := if passB [63] (t.data.toList.drop i) = true then { u with hq := true, qu := wrT 2 (upL [35] (t.data.toList.drop (i + 1))) } else u
def opqI (t : ByteArray) (i : Nat) : Nat := i + (upL [63, 35] (t.data.toList.drop i)).length
def opqU (t : ByteArray) (i : Nat) (u : U) : U := { u with op := wrT 5 (upL [63, 35] (t.data.toList.drop i)) }
theorem readQuery (g : Nat) (t : ByteArray) (i : Nat) (u : U) (x : Bool) (w : World) (h : UR g t i u x w) (hE : Eof w) (hg : g ≠ 1) (hi : i ≤ t.size) (ht : t.size ≤ 1000) :
  Calls Tryz.prog 123 #[.pointer (some ⟨g, 0, none⟩)] w fun e w' => e = .returned (.func (.func 152) #[.pointer (some ⟨g, 0, none⟩)] #[]) ∧ UR g t (queI t i) (queU t i u) x w' ∧ w.grownBy w' (some g) := by
 have hgl := Rdr.lt h
 have H0 : Hid (UR g t i u x w) := h
 have HE : Hid (∀ W, w.grownBy W (some g) → Eof W) := fun W k => hE.grown k hg
 clear h hE
 cases hp : passB [63] (t.data.toList.drop i) with
 | false =>
  rw [show queI t i = i by unfold queI; rw [hp]; rfl, show queU t i u = u by unfold queU; rw [hp]; rfl]
  go_enter Tryz.func123, Tryz.ntmps123
  go_wp2_with fail
  refine (pass_no g t i _ ⟨#[63]⟩ w H0.out (HE.out w (World.grownBy.refl w _)) hi ht hp).mono ?_
  rintro e W1 ⟨rfl, hR1, hG1⟩
  have HU : Hid (UR g t i u x W1) := hR1
  have HG : Hid (w.grownBy W1 (some g)) := hG1
  clear hR1 hG1
  go_wp2
  go_ret
  exact ⟨rfl, HU.out, HG.out⟩
 | true =>
  rw [show queI t i = i + 1 + (upL [35] (t.data.toList.drop (i + 1))).length by unfold queI; rw [hp]; rfl, show queU t i u = { u with hq := true, qu := wrT 2 (upL [35] (t.data.toList.drop (i + 1))) } by unfold queU; rw [hp]; rfl]
  have hi1 := pass_lt hp
  have hul := up_len [35] t (i + 1) hi1
  go_enter Tryz.func123, Tryz.ntmps123
  go_wp2_with fail
  refine (pass_yes g t i _ ⟨#[63]⟩ w H0.out ht hp).mono ?_
  rintro e W1 ⟨rfl, hR1, hG1⟩
  have hU1 : UR g t (i + 1) u x W1 := hR1
  have c11 : W1.cell? ⟨g, 12, none⟩ = some (.bool u.hq) := hU1.cell 9 _ rfl
  have f11 : W1.frozen? ⟨g, 12, none⟩ = false := hU1.free 12
  have HU2 : Hid (UR g t (i + 1) { u with hq := true } x (W1.setCell ⟨g, 12, none⟩ (.bool true))) := hU1.set 9 _ _ _ rfl
  have HG2 : Hid (w.grownBy (W1.setCell ⟨g, 12, none⟩ (.bool true)) (some g)) := grown_then hG1 (grown_set W1 g 12 _)
  clear hR1 hG1 hU1
  go_wp2_with fail
  refine (upTo g t (i + 1) _ ⟨#[35]⟩ _ HU2.out (HE.out _ HG2.out) hg hi1 ht).mono ?_
  rintro e W3 ⟨rfl, hR3, hG3⟩
  obtain ⟨L, hL⟩ : ∃ L, L = upL [35] (t.data.toList.drop (i + 1)) := ⟨_, rfl⟩
  have hLl : L.length ≤ 1000 := by rw [hL]; omega
  have HR3 : Hid (UR g t ((i + 1) + L.length) { u with hq := true } x W3) := by rw [hL]; exact hR3
  have HG3 : Hid (w.grownBy W3 (some g)) := grown_then HG2.out hG3
  have hgl3 : g < W3.heap.size := Rdr.lt hR3
  have HL : Hid (L = upL [35] (t.data.toList.drop (i + 1))) := hL
  rw [show upL (ByteArray.mk #[35]).data.toList (t.data.toList.drop (i + 1)) = L from hL.symm]
  clear hR3 hG3 hL HU2 HG2 c11 f11
  go_wp2_with fail
  refine (encAt 2 L _ hLl).mono ?_
  rintro e W4 ⟨rfl, d4⟩
  have hU4 : UR g t ((i + 1) + L.length) { u with hq := true } x W4 := HR3.out.grown d4 hgl3
  have HG4 : Hid (w.grownBy W4 (some g)) := grown_low HG3.out d4 HG3.out.size
  have c12 : W4.cell? ⟨g, 13, none⟩ = some (.string u.qu) := hU4.cell 10 _ rfl
  have f12 : W4.frozen? ⟨g, 13, none⟩ = false := hU4.free 13
  have HU5 : Hid (UR g t ((i + 1) + L.length) { u with hq := true, qu := wrT 2 L } x (W4.setCell ⟨g, 13, none⟩ (.string (wrT 2 L)))) := hU4.set 10 _ _ _ rfl
  have HG5 : Hid (w.grownBy (W4.setCell ⟨g, 13, none⟩ (.string (wrT 2 L))) (some g)) := grown_then HG4.out (grown_set W4 g 13 _)
  clear hU4 HG4
  go_wp2
  go_ret
  refine ⟨rfl, ?_, HG5.out⟩
  rw [← HL.out]
  exact HU5.out
theorem readOpaque (g : Nat) (t : ByteArray) (i : Nat) (u : U) (x : Bool) (w : World) (h : UR g t i u x w) (hE : Eof w) (hg : g ≠ 1) (hi : i ≤ t.size) (ht : t.size ≤ 1000) :
  Calls Tryz.prog 95 #[.pointer (some ⟨g, 0, none⟩)] w fun e w' => e = .returned (.func (.func 123) #[.pointer (some ⟨g, 0, none⟩)] #[]) ∧ UR g t (opqI t i) (opqU t i u) x w' ∧ w.grownBy w' (some g) := by
 have hgl := Rdr.lt h
 have H0 : Hid (UR g t i u x w) := h
 have HE : Hid (∀ W, w.grownBy W (some g) → Eof W) := fun W k => hE.grown k hg
 clear h hE
 unfold opqI opqU
 have hul := up_len [63, 35] t i hi
 go_enter Tryz.func95, Tryz.ntmps95
 go_wp2_with fail
 refine (upTo g t i _ ⟨#[63, 35]⟩ _ H0.out (HE.out _ (World.grownBy.refl w _)) hg hi ht).mono ?_
 rintro e W3 ⟨rfl, hR3, hG3⟩
 obtain ⟨L, hL⟩ : ∃ L, L = upL [63, 35] (t.data.toList.drop i) := ⟨_, rfl⟩
 have hLl : L.length ≤ 1000 := by rw [hL]; omega
 have HR3 : Hid (UR g t (i + L.length) u x W3) := by rw [hL]; exact hR3
 have HG3 : Hid (w.grownBy W3 (some g)) := hG3
 have hgl3 : g < W3.heap.size := Rdr.lt hR3
 have HL : Hid (L = upL [63, 35] (t.data.toList.drop i)) := hL
 rw [show upL (ByteArray.mk #[63, 35]).data.toList (t.data.toList.drop i) = L from hL.symm]
 clear hR3 hG3 hL H0
 go_wp2_with fail
 refine (encAt 5 L _ hLl).mono ?_
 rintro e W4 ⟨rfl, d4⟩
 have hU4 : UR g t (i + L.length) u x W4 := HR3.out.grown d4 hgl3
 have HG4 : Hid (w.grownBy W4 (some g)) := grown_low HG3.out d4 HG3.out.size
 have c12 : W4.cell? ⟨g, 11, none⟩ = some (.string u.op) := hU4.cell 8 _ rfl
 have f12 : W4.frozen? ⟨g, 11, none⟩ = false := hU4.free 11
 have HU5 : Hid (UR g t (i + L.length) { u with op := wrT 5 L } x (W4.setCell ⟨g, 11, none⟩ (.string (wrT 5 L)))) := hU4.set 8 _ _ _ rfl
 have HG5 : Hid (w.grownBy (W4.setCell ⟨g, 11, none⟩ (.string (wrT 5 L))) (some g)) := grown_then HG4.out (grown_set W4 g 11 _)
 clear hU4 HG4
 go_wp2
 go_ret
 refine ⟨rfl, ?_, HG5.out⟩
 rw [← HL.out]
 exact HU5.out
theorem passSlashes_yes (g : Nat) (t : ByteArray) (i : Nat) (u : U) (x : Bool) (w : World) (h : UR g t i u x w) (hE : Eof w) (hg : g ≠ 1) (hi : i ≤ t.size) (ht : t.size ≤ 1000) (hp : passB [47, 92] (t.data.toList.drop i) = true) :
  Calls Tryz.prog 94 #[.pointer (some ⟨g, 0, none⟩)] w fun e w' => e = .returned (.func (.func 94) #[.pointer (some ⟨g, 0, none⟩)] #[]) ∧ UR g t (i + 1) u x w' ∧ w.grownBy w' (some g) := by
 have hgl := Rdr.lt h
 have H0 : Hid (UR g t i u x w) := h
 have HE : Hid (∀ W, w.grownBy W (some g) → Eof W) := fun W k => hE.grown k hg
 clear h hE
 go_enter Tryz.func94, Tryz.ntmps94
 go_wp2_with fail
 refine (pass_yes g t i _ ⟨#[47, 92]⟩ w H0.out ht hp).mono ?_
 rintro e W1 ⟨rfl, hR1, hG1⟩
 have HU : Hid (UR g t (i + 1) u x W1) := hR1
 have HG : Hid (w.grownBy W1 (some g)) := hG1
 clear hR1 hG1
 go_wp2
 go_ret
 exact ⟨rfl, HU.out, HG.out⟩
theorem passSlashes_no (g : Nat) (t : ByteArray) (i : Nat) (u : U) (x : Bool) (w : World) (h : UR g t i u x w) (hE : Eof w) (hg : g ≠ 1) (hi : i ≤ t.size) (ht : t.size ≤ 1000) (hp : passB [47, 92] (t.data.toList.drop i) = false) :
  Calls Tryz.prog 94 #[.pointer (some ⟨g, 0, none⟩)] w fun e w' => e = .returned (.func (.func 121) #[.pointer (some ⟨g, 0, none⟩)] #[]) ∧ UR g t i u x w' ∧ w.grownBy w' (some g) := by
 have hgl := Rdr.lt h
 have H0 : Hid (UR g t i u x w) := h
 have HE : Hid (∀ W, w.grownBy W (some g) → Eof W) := fun W k => hE.grown k hg
 clear h hE
 go_enter Tryz.func94, Tryz.ntmps94
 go_wp2_with fail
 refine (pass_no g t i _ ⟨#[47, 92]⟩ w H0.out (HE.out w (World.grownBy.refl w _)) hi ht hp).mono ?_
 rintro e W1 ⟨rfl, hR1, hG1⟩
 have HU : Hid (UR g t i u x W1) := hR1
 have HG : Hid (w.grownBy W1 (some g)) := hG1
 clear hR1 hG1
 go_wp2
 go_ret
 exact ⟨rfl, HU.out, HG.out⟩
theorem refuse (g : Nat) (t : ByteArray) (i : Nat) (u : U) (x : Bool) (w : World) (h : UR g t i u x w) (hE : Eof w) (hg : g ≠ 1) (hi : i ≤ t.size) (ht : t.size ≤ 1000) :
  Calls Tryz.prog 92 #[.pointer (some ⟨g, 0, none⟩)] w fun e w' => e = .returned .nilFunc ∧ UR g t i u true w' ∧ w.grownBy w' (some g) := by
 have c : w.cell? ⟨g, 16, none⟩ = some (.bool x) := h.cell 13 _ rfl
 have f : w.frozen? ⟨g, 16, none⟩ = false := h.free 16
 have HU : Hid (UR g t i u true (w.setCell ⟨g, 16, none⟩ (.bool true))) := h.set 13 _ _ _ rfl
 clear h
 go_enter Tryz.func92, Tryz.ntmps92
 go_wp2
 go_ret
 exact ⟨rfl, HU.out, grown_set w g 16 _⟩
end Go.Proofs.YtnfhajhdpdidlaaGreatDoor
end

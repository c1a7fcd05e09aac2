/- impl.isHostName, impl.allFigures, impl.endsWithNumber. impl.urlReader's states readPath, readScheme. impl.allFigures, impl.endsWithNumber. impl.isScheme, impl.portRead. impl.numberUpTo, impl.portRead. -/
import Derived.Test.YtnfhajhdpdidlaaGreatDoorB07
import Derived.Test.YtnfhajhdpdidlaaGreatDoorB03
import Derived.Test.YtnfhajhdpdidlaaGreatDoorB06
set_option linter.unusedVariables false
set_option maxHeartbeats 2000000
set_option maxRecDepth 100000
section
namespace Go.Proofs.YtnfhajhdpdidlaaGreatDoor
open Go.RowKit Go.Shelf
theorem isSmall (c : UInt8) (w : World) : Calls Tryz.prog 120 #[.int .u8 (c.toNat : Int)] w fun e w' => e = .returned (.bool (smallB c)) ∧ w' = w := by
 have hb := u8_lt c
 have HS : Hid (smallB c = decide ((97 : Int) ≤ (c.toNat : Int) ∧ (c.toNat : Int) ≤ 122)) := by show _ = _; unfold smallB; exact decide_eq_decide.2 (by omega)
 rcases (show (c.toNat : Int) < 97 ∨ ((97 : Int) ≤ (c.toNat : Int)) from by omega) with h1 | h1
 all_goals
  go_enter Tryz.func120, Tryz.ntmps120
  go_wp2
  go_ret
  exact ⟨ret_bool (by rw [HS.out]; simp <;> omega), rfl⟩
theorem isFigure (c : UInt8) (w : World) : Calls Tryz.prog 119 #[.int .u8 (c.toNat : Int)] w fun e w' => e = .returned (.bool (figB c)) ∧ w' = w := by
 have hb := u8_lt c
 have HS : Hid (figB c = decide ((48 : Int) ≤ (c.toNat : Int) ∧ (c.toNat : Int) ≤ 57)) := by show _ = _; unfold figB; exact decide_eq_decide.2 (by omega)
 rcases (show (c.toNat : Int) < 48 ∨ ((48 : Int) ≤ (c.toNat : Int)) from by omega) with h1 | h1
 all_goals
  go_enter Tryz.func119, Tryz.ntmps119
  go_wp2
  go_ret
  exact ⟨ret_bool (by rw [HS.out]; simp <;> omega), rfl⟩
theorem u8_back' (c : UInt8) : (c.toNat : Int).toNat.toUInt8 = c := by simp
theorem index_three (c : UInt8) : (Lib.indexByte [45, 95, 46] c < 0 ∧ c ≠ 45 ∧ c ≠ 95 ∧ c ≠ 46) ∨ (0 ≤ Lib.indexByte [45, 95, 46] c ∧ (c = 45 ∨ c = 95 ∨ c = 46)) := by
 by_cases h1 : c = 45
 ·subst h1; right; exact ⟨by decide, .inl rfl⟩
 ·by_cases h2 : c = 95
  ·subst h2; right; exact ⟨by decide, .inr (.inl rfl)⟩
  ·by_cases h3 : c = 46
   ·subst h3; right; exact ⟨by decide, .inr (.inr rfl)⟩
   ·left
    have e1 : ((45 : UInt8) == c) = false := by simpa using fun h => h1 h.symm
    have e2 : ((95 : UInt8) == c) = false := by simpa using fun h => h2 h.symm
    have e3 : ((46 : UInt8) == c) = false := by simpa using fun h => h3 h.symm
    refine ⟨?_, h1, h2, h3⟩
    simp [Lib.indexByte, e1, e2, e3]
theorem index_call (c : UInt8) (w : World) : Calls Tryz.prog 117 #[.string ⟨#[45, 95, 46]⟩, .int .u8 (c.toNat : Int)] w fun e w' => e = .returned (.int .i64 (Lib.indexByte [45, 95, 46] c)) ∧ w' = w := by
 have := Tryz.strings_IndexByte ⟨#[45, 95, 46]⟩ (c.toNat : Int) w
 rw [u8_back'] at this; exact this
theorem isHostName (s : ByteArray) (w : World) (hm : ∃ m, w.cell? ⟨0, 0, none⟩ = some (.int .i64 m)) (hs : s.size ≤ 1048576) :
  Calls Tryz.prog 154 #[.string s] w fun e w' => e = .returned (.bool (nameL s.data.toList)) ∧ Below w.heap.size w w' := by
 have hl : s.data.toList.length = s.size := by simp
 rcases (show s.size < 1 ∨ (1 ≤ s.size ∧ 60 < s.size) ∨ (1 ≤ s.size ∧ s.size ≤ 60) from by omega) with h1 | ⟨h1, h2⟩ | ⟨h1, h2⟩
 ·have h1i : (s.size : Int) < 1 := by omega
  have HZ : Hid (nameL s.data.toList = false) := nameL_len _ (by omega)
  go_enter Tryz.func154, Tryz.ntmps154
  go_wp2
  go_ret
  exact ⟨by rw [HZ.out]; rfl, Below.refl _ _⟩
 ·have h1i : (1 : Int) ≤ (s.size : Int) := by omega
  have h2i : (60 : Int) < (s.size : Int) := by omega
  have HZ : Hid (nameL s.data.toList = false) := nameL_len _ (by omega)
  go_enter Tryz.func154, Tryz.ntmps154
  go_wp2
  go_ret
  exact ⟨by rw [HZ.out]; rfl, Below.refl _ _⟩
 have h1i : (1 : Int) ≤ (s.size : Int) := by omega
 have h2i : (s.size : Int) ≤ 60 := by omega
 have HLEN : Hid (1 ≤ s.data.toList.length ∧ s.data.toList.length ≤ 60) := ⟨by omega, by omega⟩
 have CP : Hid (Calls Tryz.prog 177 #[.string s] w fun e w' => ∃ c, e = .returned (.slice (some ⟨w.heap.size, 0, none⟩) (partsL s.data.toList).length c) ∧ StrsAt w.heap.size (partsL s.data.toList) w' ∧ Below w.heap.size w w') := hostParts s w (by omega) hm
 have HY : Hid ((∀ c ∈ s.data.toList, nmB c = true ∨ c = 46) → (∀ p ∈ partsL s.data.toList, p ≠ []) → nameL s.data.toList = true) := fun a b => nameL_yes _ HLEN.out a b
 have HE : Hid ([] ∈ partsL s.data.toList → nameL s.data.toList = false) := nameL_empty _
 have HX : Hid (∀ k (hk : k < s.size), nmB s[k] = false → s[k] ≠ 46 → nameL s.data.toList = false) := fun k hk a b => nameL_byte _ s[k] (by simp [ByteArray.getElem_eq_getElem_data]) a b
 have hll := partsL_len_le s.data.toList
 clear hm
 obtain ⟨P, hP⟩ : ∃ P, P = partsL s.data.toList := ⟨_, rfl⟩
 rw [← hP] at CP HY HE hll
 clear hP
 obtain ⟨n, hn⟩ : ∃ n, n = P.length := ⟨_, rfl⟩
 rw [← hn] at CP hll
 have HN : Hid (n = P.length) := hn
 have hn9 : n ≤ 61 := by omega
 clear hn hll
 go_enter Tryz.func154, Tryz.ntmps154
 go_wp2
 go_loop [3] (fun i => ∃ k : Nat, k ≤ s.size ∧ i = .int .i64 k ∧ Hid (∀ j (hj : j < s.size), j < k → nmB s[j] = true ∨ s[j] = 46)) (fun i => s.size - (intOf i).toNat)
 case atStart => exact ⟨0, Nat.zero_le _, rfl, fun j hj h => absurd h (by omega)⟩
 case round =>
  obtain ⟨k, hk, rfl, HA⟩ := hrel
  by_cases hp : k < s.size
  ·have hki : (k : Int) < (s.size : Int) := by omega
   have HS : Hid (nmB s[k] = (smallB s[k] || figB s[k] || s[k] == 45 || s[k] == 95)) := rfl
   cases h3 : smallB s[k] with
   | true =>
    have HA2 : Hid (∀ j (hj : j < s.size), j < k + 1 → nmB s[j] = true ∨ s[j] = 46) := by
     intro j hj h
     by_cases hjk : j = k
     ·subst hjk; left; rw [HS.out, h3]; rfl
     ·exact HA.out j hj (by omega)
    go_wp2_with (first
     | (go_at_call 120; refine (isSmall s[k] _).mono ?_; rintro e W1 ⟨rfl, hW⟩; have hW2 := hW.symm; subst hW2; rw [h3])
     | fail)
    go_round
    case rel => exact ⟨k + 1, by omega, by go_num, HA2⟩
    case measure => simp [intOf]; omega
   | false =>
    cases h4 : figB s[k] with
    | true =>
     have HA2 : Hid (∀ j (hj : j < s.size), j < k + 1 → nmB s[j] = true ∨ s[j] = 46) := by
      intro j hj h
      by_cases hjk : j = k
      ·subst hjk; left; rw [HS.out, h3, h4]; rfl
      ·exact HA.out j hj (by omega)
     go_wp2_with (first
      | (go_at_call 120; refine (isSmall s[k] _).mono ?_; rintro e W1 ⟨rfl, hW⟩; have hW2 := hW.symm; subst hW2; rw [h3])
      | (go_at_call 119; refine (isFigure s[k] _).mono ?_; rintro e W1 ⟨rfl, hW⟩; have hW2 := hW.symm; subst hW2; rw [h4])
      | fail)
     go_round
     case rel => exact ⟨k + 1, by omega, by go_num, HA2⟩
     case measure => simp [intOf]; omega
    | false =>
     rcases index_three s[k] with ⟨hi, hx⟩ | ⟨hi, hx⟩
     ·have HZ : Hid (nameL s.data.toList = false) := HX.out k hp (by rw [HS.out, h3, h4]; simp [hx.1, hx.2.1]) hx.2.2
      clear hx
      go_wp2_with (first
       | (go_at_call 120; refine (isSmall s[k] _).mono ?_; rintro e W1 ⟨rfl, hW⟩; have hW2 := hW.symm; subst hW2; rw [h3])
       | (go_at_call 119; refine (isFigure s[k] _).mono ?_; rintro e W1 ⟨rfl, hW⟩; have hW2 := hW.symm; subst hW2; rw [h4])
       | (go_at_call 117; refine (index_call s[k] _).mono ?_; rintro e W1 ⟨rfl, hW⟩; have hW2 := hW.symm; subst hW2)
       | fail)
      go_ret
      exact ⟨by rw [HZ.out]; rfl, Below.refl _ _⟩
     ·have HA2 : Hid (∀ j (hj : j < s.size), j < k + 1 → nmB s[j] = true ∨ s[j] = 46) := by
       intro j hj h
       by_cases hjk : j = k
       ·subst hjk
        rcases hx with hx | hx | hx
        ·left; rw [HS.out, hx]; simp
        ·left; rw [HS.out, hx]; simp
        ·right; exact hx
       ·exact HA.out j hj (by omega)
      clear hx
      go_wp2_with (first
       | (go_at_call 120; refine (isSmall s[k] _).mono ?_; rintro e W1 ⟨rfl, hW⟩; have hW2 := hW.symm; subst hW2; rw [h3])
       | (go_at_call 119; refine (isFigure s[k] _).mono ?_; rintro e W1 ⟨rfl, hW⟩; have hW2 := hW.symm; subst hW2; rw [h4])
       | (go_at_call 117; refine (index_call s[k] _).mono ?_; rintro e W1 ⟨rfl, hW⟩; have hW2 := hW.symm; subst hW2)
       | fail)
      go_round
      case rel => exact ⟨k + 1, by omega, by go_num, HA2⟩
      case measure => simp [intOf]; omega
  ·have hkk : k = s.size := by omega
   subst hkk
   have HB : Hid (∀ c ∈ s.data.toList, nmB c = true ∨ c = 46) := by
    intro c hc
    obtain ⟨j, hj, e⟩ := List.getElem_of_mem hc
    have hj' : j < s.size := by simpa using hj
    have := HA.out j hj' hj'
    have e2 : s[j] = c := by rw [← e]; simp [ByteArray.getElem_eq_getElem_data]
    rw [e2] at this; exact this
   clear HA
   go_wp2_with (go_at_call 177; refine CP.out.mono ?_; rintro e w1 ⟨c, rfl, hS, hB⟩)
   go_loop [40] (fun i => ∃ k : Nat, k ≤ n ∧ i = .int .i64 k ∧ Hid (∀ j (hj : j < P.length), j < k → P[j] ≠ [])) (fun i => n - (intOf i).toNat)
   case atStart => exact ⟨0, Nat.zero_le _, rfl, fun j hj h => absurd h (by omega)⟩
   case round =>
    obtain ⟨k, hk, rfl, HA⟩ := hrel
    by_cases hp : k < n
    ·have hki : (k : Int) < (n : Int) := by omega
     have hkP : k < P.length := by rw [← HN.out]; exact hp
     have hc := hS.cell k hkP
     by_cases hz : P[k] = []
     ·have HZ : Hid (nameL s.data.toList = false) := HE.out (by rw [← hz]; exact List.getElem_mem hkP)
      rw [hz] at hc
      have hc2 : w1.cell? ⟨w.heap.size, k, none⟩ = some (.string ⟨#[]⟩) := hc
      clear hc
      go_wp2
      go_ret
      exact ⟨by rw [HZ.out]; rfl, hB⟩
     ·have HA2 : Hid (∀ j (hj : j < P.length), j < k + 1 → P[j] ≠ []) := by
       intro j hj h
       by_cases hjk : j = k
       ·subst hjk; exact hz
       ·exact HA.out j hj (by omega)
      obtain ⟨z, hzz, hzn⟩ : ∃ z : ByteArray, w1.cell? ⟨w.heap.size, k, none⟩ = some (.string z) ∧ z.toList ≠ [] := by
       refine ⟨_, hc, ?_⟩
       rw [ByteArray.toList_eq, mk_data]; exact hz
      have hne1 : (z.toList == []) = false := beq_eq_false_iff_ne.2 hzn
      have hne2 : z.toList.isEmpty = false := List.isEmpty_eq_false_iff.2 hzn
      clear hc hz
      go_wp2
      go_round
      case rel => exact ⟨k + 1, by omega, by go_num, HA2⟩
      case measure => simp [intOf]; omega
    ·have hkk : k = n := by omega
     have HZ : Hid (nameL s.data.toList = true) := HY.out HB.out (by
      intro p hp
      obtain ⟨j, hj, e⟩ := List.getElem_of_mem hp
      rw [← e]; exact HA.out j hj (by rw [hkk, HN.out]; exact hj))
     have hki : ¬ ((k : Int) < (n : Int)) := by omega
     go_wp2
     go_ret
     exact ⟨by rw [HZ.out]; rfl, hB⟩
end Go.Proofs.YtnfhajhdpdidlaaGreatDoor
end
section
namespace Go.Proofs.YtnfhajhdpdidlaaGreatDoor
open Go.RowKit Go.Shelf
theorem OwnS.keptG {B g : Nat} {v : Value} {ps : List (List UInt8)} {w w' : World} (h : OwnS B v ps w) (hg : w.grownBy w' (some g)) (hgB : g < B) : OwnS B v ps w' := by
 refine World.ownsRow.kept h hg ?_
 cases ho : v.ownBlock with
 | none => exact .inl rfl
 | some k => right; intro e; simp at e; have := (World.ownsRow.lt h k ho).1; omega
def MaxL (w : World) : Prop := ∃ m, w.cell? ⟨0, 0, none⟩ = some (.int .i64 m)
theorem MaxL.grown {w w' : World} {g : Nat} (h : MaxL w) (hg : w.grownBy w' (some g)) (hne : g ≠ 0) : MaxL w' := by
 obtain ⟨m, h⟩ := h
 refine ⟨m, ?_⟩
 have hl : 0 < w.heap.size := cell_in h
 have : w'.heap[0]? = w.heap[0]? := hg.block 0 hl (by simp; omega)
 rw [← h]; unfold World.cell?; rw [this]
theorem readPath (g : Nat) (t : ByteArray) (i : Nat) (u : U) (x : Bool) (w : World) (h : UR g t i u x w) (hE : Eof w) (hM : MaxL w) (hg : g ≠ 1) (hg2 : g ≠ 0) (hi : i ≤ t.size) (ht : t.size ≤ 1000) :
  Calls Tryz.prog 149 #[.pointer (some ⟨g, 0, none⟩)] w fun e w' => e = .returned (.func (.func 123) #[.pointer (some ⟨g, 0, none⟩)] #[]) ∧ (∃ v, UR g t (i + (upL [63, 35] (t.data.toList.drop i)).length) { u with pa := v } x w' ∧ OwnS w.heap.size v (pathL (upL [63, 35] (t.data.toList.drop i))) w') ∧ w.grownBy w' (some g) := by
 have hgl := Rdr.lt h
 have H0 : Hid (UR g t i u x w) := h
 have HE : Hid (∀ W, w.grownBy W (some g) → Eof W) := fun W k => hE.grown k hg
 have HM : Hid (∀ W, w.grownBy W (some g) → MaxL W) := fun W k => hM.grown k hg2
 clear h hE hM
 have hul := up_len [63, 35] t i hi
 go_enter Tryz.func149, Tryz.ntmps149
 go_wp2_with fail
 refine (upTo g t i _ ⟨#[63, 35]⟩ _ H0.out (HE.out _ (World.grownBy.refl w _)) hg hi ht).mono ?_
 rintro e W3 ⟨rfl, hR3, hG3⟩
 obtain ⟨L, hL⟩ : ∃ L, L = upL [63, 35] (t.data.toList.drop i) := ⟨_, rfl⟩
 have hLl : L.length ≤ 1000 := by rw [hL]; omega
 have HR3 : Hid (UR g t (i + L.length) u x W3) := by rw [hL]; exact hR3
 have HG3 : Hid (w.grownBy W3 (some g)) := hG3
 have hgl3 : g < W3.heap.size := Rdr.lt hR3
 have HL : Hid (L = upL [63, 35] (t.data.toList.drop i)) := hL
 rw [show upL (ByteArray.mk #[63, 35]).data.toList (t.data.toList.drop i) = L from hL.symm]
 obtain ⟨m, hm⟩ := HM.out W3 hG3
 clear hR3 hG3 hL H0
 go_wp2_with fail
 refine (implPathGet (mk L) m _ (by rw [mk_size]; omega) hm).mono ?_
 rintro e W4 ⟨v, rfl, hO4, d4⟩
 have hU4 : UR g t (i + L.length) u x W4 := HR3.out.grown d4 hgl3
 have HG4 : Hid (w.grownBy W4 (some g)) := grown_low HG3.out d4 HG3.out.size
 have c12 : W4.cell? ⟨g, 10, none⟩ = some u.pa := hU4.cell 7 _ rfl
 have f12 : W4.frozen? ⟨g, 10, none⟩ = false := hU4.free 10
 have HU5 : Hid (UR g t (i + L.length) { u with pa := v } x (W4.setCell ⟨g, 10, none⟩ v)) := hU4.set 7 _ _ _ rfl
 have HG5 : Hid (w.grownBy (W4.setCell ⟨g, 10, none⟩ v) (some g)) := grown_then HG4.out (grown_set W4 g 10 _)
 have HO5 : Hid (OwnS w.heap.size v (pathL L) (W4.setCell ⟨g, 10, none⟩ v)) := (OwnS.keptG hO4 (grown_set W4 g 10 _) hgl3).base HG3.out.size
 obtain ⟨a, c, rfl, _⟩ := hO4.strs
 clear hU4 HG4 hO4
 go_wp2
 go_ret
 refine ⟨rfl, ⟨.slice a (pathL (mk L).data.toList).length c, ?_, ?_⟩, HG5.out⟩
 ·rw [← HL.out]; exact HU5.out
 ·rw [← HL.out]; exact HO5.out
end Go.Proofs.YtnfhajhdpdidlaaGreatDoor
end
section
namespace Go.Proofs.YtnfhajhdpdidlaaGreatDoor
open Go.RowKit Go.Shelf
theorem figsL_no (s : ByteArray) (k : Nat) (hk : k < s.size) (h : figB s[k] = false) : figsL s.data.toList = false := by
 unfold figsL
 rw [List.all_eq_false]
 exact ⟨s[k], by simp [ByteArray.getElem_eq_getElem_data], by rw [h]; simp⟩
theorem figsL_yes (s : ByteArray) (h : ∀ j (hj : j < s.size), figB s[j] = true) : figsL s.data.toList = true := by
 unfold figsL
 rw [List.all_eq_true]
 intro c hc
 obtain ⟨j, hj, e⟩ := List.getElem_of_mem hc
 have hj' : j < s.size := by simpa using hj
 have e2 : s[j] = c := by rw [← e]; simp [ByteArray.getElem_eq_getElem_data]
 rw [← e2]; exact h j hj'
theorem allFigures (s : ByteArray) (w : World) (hs : s.size ≤ 1000000) :
  Calls Tryz.prog 180 #[.string s] w fun e w' => e = .returned (.bool (figsL s.data.toList)) ∧ w' = w := by
 go_enter Tryz.func180, Tryz.ntmps180
 go_wp2
 go_loop [3] (fun i => ∃ k : Nat, k ≤ s.size ∧ i = .int .i64 k ∧ Hid (∀ j (hj : j < s.size), j < k → figB s[j] = true)) (fun i => s.size - (intOf i).toNat)
 case atStart => exact ⟨0, Nat.zero_le _, rfl, fun j hj h => absurd h (by omega)⟩
 case round =>
  obtain ⟨k, hk, rfl, HA⟩ := hrel
  by_cases hp : k < s.size
  ·have hki : (k : Int) < (s.size : Int) := by omega
   cases h4 : figB s[k] with
   | true =>
    have HA2 : Hid (∀ j (hj : j < s.size), j < k + 1 → figB s[j] = true) := by
     intro j hj h
     by_cases hjk : j = k
     ·subst hjk; exact h4
     ·exact HA.out j hj (by omega)
    go_wp2_with (first
     | (go_at_call 119; refine (isFigure s[k] _).mono ?_; rintro e W1 ⟨rfl, hW⟩; have hW2 := hW.symm; subst hW2; rw [h4])
     | fail)
    go_round
    case rel => exact ⟨k + 1, by omega, by go_num, HA2⟩
    case measure => simp [intOf]; omega
   | false =>
    have HZ : Hid (figsL s.data.toList = false) := figsL_no s k hp h4
    go_wp2_with (first
     | (go_at_call 119; refine (isFigure s[k] _).mono ?_; rintro e W1 ⟨rfl, hW⟩; have hW2 := hW.symm; subst hW2; rw [h4])
     | fail)
    go_ret
    exact ⟨by rw [HZ.out]; rfl, rfl⟩
  ·have hkk : k = s.size := by omega
   subst hkk
   have HZ : Hid (figsL s.data.toList = true) := figsL_yes s (fun j hj => HA.out j hj hj)
   go_wp2
   go_ret
   exact ⟨by rw [HZ.out]; rfl, rfl⟩
theorem endsWithNumber (s : ByteArray) (w : World) (hm : ∃ m, w.cell? ⟨0, 0, none⟩ = some (.int .i64 m)) (hs : s.size ≤ 1000000) :
  Calls Tryz.prog 155 #[.string s] w fun e w' => e = .returned (.bool (endsL s.data.toList)) ∧ Below w.heap.size w w' := by
 have hl : s.data.toList.length = s.size := by simp
 have CP : Hid (Calls Tryz.prog 177 #[.string s] w fun e w' => ∃ c, e = .returned (.slice (some ⟨w.heap.size, 0, none⟩) (partsL s.data.toList).length c) ∧ StrsAt w.heap.size (partsL s.data.toList) w' ∧ Below w.heap.size w w') := hostParts s w hs hm
 have h1 := partsL_ne s.data.toList
 have hll := partsL_len_le s.data.toList
 have hq9 := lastP_le s.data.toList
 have HQ : Hid (∀ g W, StrsAt g (partsL s.data.toList) W → W.cell? ⟨g, (partsL s.data.toList).length - 1, none⟩ = some (.string (mk (lastP s.data.toList)))) := fun g W h => h.cell _ (by omega)
 have H0 : Hid (lastP s.data.toList = [] → endsL s.data.toList = false) := ends_empty _
 have HH : Hid (hexA (lastP s.data.toList) = true → endsL s.data.toList = partOk (lastP s.data.toList)) := ends_hex _
 have HF : Hid (lastP s.data.toList ≠ [] → hexA (lastP s.data.toList) = false → endsL s.data.toList = figsL (lastP s.data.toList)) := ends_figs _
 clear hm
 obtain ⟨n, hn⟩ : ∃ n, (partsL s.data.toList).length = n + 1 := ⟨(partsL s.data.toList).length - 1, by omega⟩
 obtain ⟨q, hq⟩ : ∃ q, q = lastP s.data.toList := ⟨_, rfl⟩
 rw [← hq] at HQ H0 HH HF hq9
 rw [hn] at CP HQ hll
 have hn9 : n ≤ 1000001 := by omega
 have hn1 : (n : Int) + 1 - 1 = (n : Int) := by omega
 obtain ⟨z, hz⟩ : ∃ z, z = mk q := ⟨_, rfl⟩
 have hzq : z.data.toList = q := by rw [hz, mk_data]
 rw [← hz] at HQ
 rw [← hzq] at H0 HH HF hq9
 have hz9 : z.size ≤ 1000000 := by
  have : z.data.toList.length = z.size := by simp
  omega
 clear hn hq hz hzq hll hq9 hl h1 q
 go_enter Tryz.func155, Tryz.ntmps155
 go_wp2_with fail
 refine CP.out.mono ?_
 rintro e w1 ⟨c, rfl, hS, hB⟩
 have hc : w1.cell? ⟨w.heap.size, n, none⟩ = some (.string z) := HQ.out _ _ hS
 have HB : Hid (Below w.heap.size w w1) := hB
 clear hS hB HQ
 cases hx : hexA z.data.toList with
 | true =>
  have HZ : Hid (endsL s.data.toList = partOk z.data.toList) := HH.out hx
  go_wp2_with fail
  refine (isHex z _).mono ?_
  rintro e W1 ⟨rfl, hW⟩
  have hW2 := hW.symm
  subst hW2
  rw [hx]
  go_wp2_with fail
  refine (partNumber z _ hz9).mono ?_
  rintro e W1 ⟨rfl, m, hW⟩
  subst hW
  go_wp2
  go_ret
  exact ⟨by rw [HZ.out]; rfl, below_drewN HB.out _⟩
 | false =>
  by_cases hz0 : z.data.toList = []
  ·have HZ : Hid (endsL s.data.toList = false) := H0.out hz0
   have he : z = ⟨#[]⟩ := by
    have := mk_list z
    rw [hz0] at this
    exact this.symm
   subst he
   go_wp2_with fail
   refine (isHex _ _).mono ?_
   rintro e W1 ⟨rfl, hW⟩
   have hW2 := hW.symm
   subst hW2
   rw [hx]
   go_wp2
   go_ret
   exact ⟨by rw [HZ.out]; rfl, HB.out⟩
  ·have HZ : Hid (endsL s.data.toList = figsL z.data.toList) := HF.out hz0 hx
   have hzn : z.toList ≠ [] := by rw [ByteArray.toList_eq]; exact hz0
   have hne1 : (z.toList == []) = false := beq_eq_false_iff_ne.2 hzn
   have hne2 : z.toList.isEmpty = false := List.isEmpty_eq_false_iff.2 hzn
   have hne4 : (z.toList != []) = true := by simp [bne, hne1]
   clear hz0
   go_wp2_with fail
   refine (isHex _ _).mono ?_
   rintro e W1 ⟨rfl, hW⟩
   have hW2 := hW.symm
   subst hW2
   rw [hx]
   go_wp2_with fail
   refine (allFigures z _ hz9).mono ?_
   rintro e W1 ⟨rfl, hW⟩
   have hW2 := hW.symm
   subst hW2
   go_wp2
   go_ret
   exact ⟨by rw [HZ.out]; rfl, HB.out⟩
end Go.Proofs.YtnfhajhdpdidlaaGreatDoor
end
section
namespace Go.Proofs.YtnfhajhdpdidlaaGreatDoor
open Go.RowKit Go.Shelf
def schB (c : UInt8) : Bool := smallB c || figB c || among [43, 45, 46] c
def schL (l : List UInt8) : Bool := match l with
 | [] => false
 | c :: r => smallB c && r.all schB
theorem schL_first (l : List UInt8) (h : 0 < l.length) (hs : smallB l[0] = false) : schL l = false := by
 cases l with
 | nil => simp at h
 | cons c r => show (smallB c && r.all schB) = false; simp at hs; rw [hs]; rfl
theorem schL_byte (l : List UInt8) (k : Nat) (hk : k < l.length) (h0 : 0 < k) (hs : schB l[k] = false) : schL l = false := by
 cases l with
 | nil => simp at hk
 | cons c r =>
  show (smallB c && r.all schB) = false
  obtain ⟨j, rfl⟩ : ∃ j, k = j + 1 := ⟨k - 1, by omega⟩
  have : r.all schB = false := by
   rw [List.all_eq_false]
   exact ⟨r[j]'(by simpa using hk), List.getElem_mem _, by simpa using hs⟩
  rw [this, Bool.and_false]
theorem schL_yes (l : List UInt8) (h0 : 0 < l.length) (h : ∀ j (hj : j < l.length), smallB l[j] = true ∨ (0 < j ∧ schB l[j] = true)) : schL l = true := by
 cases l with
 | nil => simp at h0
 | cons c r =>
  show (smallB c && r.all schB) = true
  rw [Bool.and_eq_true]
  refine ⟨?_, ?_⟩
  ·rcases h 0 (by simp) with e | ⟨e, _⟩
   ·simpa using e
   ·omega
  ·rw [List.all_eq_true]
   intro d hd
   obtain ⟨j, hj, rfl⟩ := List.mem_iff_getElem.1 hd
   rcases h (j + 1) (by simpa using hj) with e | ⟨_, e⟩
   ·have e' : smallB r[j] = true := by simpa using e
    unfold schB; rw [e']; rfl
   ·simpa using e
theorem indexSch (c : UInt8) (w : World) : Calls Tryz.prog 117 #[.string ⟨#[43, 45, 46]⟩, .int .u8 (c.toNat : Int)] w fun e w' => e = .returned (.int .i64 (Lib.indexByte [43, 45, 46] c)) ∧ w' = w := indexAt ⟨#[43, 45, 46]⟩ c w
theorem isScheme (l : List UInt8) (w : World) (hl : l.length ≤ 1000) :
  Calls Tryz.prog 91 #[.string (mk l)] w fun e w' => e = .returned (.bool (schL (low l))) ∧ Below w.heap.size w w' := by
 have CL : Hid (∀ W, Calls Tryz.prog 93 #[.string (mk l)] W fun e w' => e = .returned (.string (mk (low l))) ∧ Below W.heap.size W w') := fun W => implLower (mk l) W (by rw [mk_size]; omega)
 obtain ⟨z, hz⟩ : ∃ z, z = mk (low l) := ⟨_, rfl⟩
 rw [← hz] at CL
 have hzs : z.size = l.length := by rw [hz, mk_size, low_length]
 have hzl : z.data.toList = low l := by rw [hz, mk_data]
 have HZL : Hid (z.data.toList = low l) := hzl
 have hz9 : z.size ≤ 1000 := by omega
 have HF : Hid (∀ k (hk : k < z.size), k = 0 → smallB z[k] = false → schL (low l) = false) := by
  intro k hk h0 hs
  subst h0
  rw [← hzl]; exact schL_first _ (by simpa using hk) hs
 have HB : Hid (∀ k (hk : k < z.size), 0 < k → schB z[k] = false → schL (low l) = false) := by
  intro k hk h0 hs
  rw [← hzl]; exact schL_byte _ k (by simpa using hk) h0 hs
 have HY : Hid (0 < z.size → (∀ j (hj : j < z.size), smallB z[j] = true ∨ (0 < j ∧ schB z[j] = true)) → schL (low l) = true) := by
  intro h0 h
  rw [← hzl]; exact schL_yes _ (by simpa using h0) (fun j hj => h j (by simpa using hj))
 have HN : Hid (z.size = 0 → schL (low l) = false) := by
  intro h
  have : z.data.toList = [] := List.length_eq_zero_iff.1 (by simpa using h)
  rw [← hzl, this]; rfl
 clear hz hzl hzs
 go_enter Tryz.func91, Tryz.ntmps91
 go_wp2_with fail
 refine (CL.out _).mono ?_
 rintro e W1 ⟨rfl, d1⟩
 have HB1 : Hid (Below w.heap.size w W1) := d1
 clear d1 CL
 go_wp2
 go_loop [4] (fun i => ∃ k : Nat, k ≤ z.size ∧ i = .int .i64 k ∧ Hid (∀ j (hj : j < z.size), j < k → smallB z[j] = true ∨ (0 < j ∧ schB z[j] = true))) (fun i => z.size - (intOf i).toNat)
 case atStart => exact ⟨0, Nat.zero_le _, rfl, fun j hj h => absurd h (by omega)⟩
 case round =>
  obtain ⟨k, hk, rfl, HA⟩ := hrel
  by_cases hp : k < z.size
  ·have hki : (k : Int) < (z.size : Int) := by omega
   have HS : Hid (schB z[k] = (smallB z[k] || figB z[k] || among [43, 45, 46] z[k])) := rfl
   have HI : Hid (∀ b, among [43, 45, 46] z[k] = b → if b then 0 ≤ Lib.indexByte [43, 45, 46] z[k] else Lib.indexByte [43, 45, 46] z[k] < 0) := by
    intro b hb
    cases b with
    | true => exact among_yes hb
    | false => exact among_no hb
   cases h3 : smallB z[k] with
   | true =>
    cases h4 : figB z[k] <;> cases h5 : among [43, 45, 46] z[k]
    all_goals
     have hix := HI.out _ h5
     simp only [if_true, if_false, Bool.false_eq_true] at hix
     go_wp2_with (first
      | (go_at_call 119; refine (isFigure z[k] _).mono ?_; rintro e W9 ⟨rfl, hW⟩; have hW2 := hW.symm; subst hW2; rw [h4])
      | (go_at_call 117; refine (indexSch z[k] _).mono ?_; rintro e W9 ⟨rfl, hW⟩; have hW2 := hW.symm; subst hW2)
      | (go_at_call 120; refine (isSmall z[k] _).mono ?_; rintro e W9 ⟨rfl, hW⟩; have hW2 := hW.symm; subst hW2; rw [h3])
      | fail)
     go_round
     case rel =>
      refine ⟨k + 1, by omega, by go_num, ?_⟩
      intro j hj h
      by_cases hjk : j = k
      ·subst hjk; exact .inl h3
      ·exact HA.out j hj (by omega)
     case measure => simp [intOf]; omega
   | false =>
    by_cases hk0 : k = 0
    ·subst hk0
     have HR : Hid (schL (low l) = false) := HF.out 0 hp rfl h3
     cases h4 : figB z[0] <;> cases h5 : among [43, 45, 46] z[0]
     all_goals
      have hix := HI.out _ h5
      simp only [if_true, if_false, Bool.false_eq_true] at hix
      go_wp2_with (first
       | (go_at_call 119; refine (isFigure z[0] _).mono ?_; rintro e W9 ⟨rfl, hW⟩; have hW2 := hW.symm; subst hW2; rw [h4])
       | (go_at_call 117; refine (indexSch z[0] _).mono ?_; rintro e W9 ⟨rfl, hW⟩; have hW2 := hW.symm; subst hW2)
       | (go_at_call 120; refine (isSmall z[0] _).mono ?_; rintro e W9 ⟨rfl, hW⟩; have hW2 := hW.symm; subst hW2; rw [h3])
       | fail)
      go_ret
      exact ⟨by rw [HR.out]; rfl, HB1.out⟩
    ·have hk0' : ((k : Int) == 0) = false := by rw [beq_eq_false_iff_ne]; omega
     cases h4 : figB z[k] with
     | true =>
      cases h5 : among [43, 45, 46] z[k]
      all_goals
       have hix := HI.out _ h5
       simp only [if_true, if_false, Bool.false_eq_true] at hix
       go_wp2_with (first
        | (go_at_call 119; refine (isFigure z[k] _).mono ?_; rintro e W9 ⟨rfl, hW⟩; have hW2 := hW.symm; subst hW2; rw [h4])
        | (go_at_call 117; refine (indexSch z[k] _).mono ?_; rintro e W9 ⟨rfl, hW⟩; have hW2 := hW.symm; subst hW2)
        | (go_at_call 120; refine (isSmall z[k] _).mono ?_; rintro e W9 ⟨rfl, hW⟩; have hW2 := hW.symm; subst hW2; rw [h3])
        | fail)
       go_round
       case rel =>
        refine ⟨k + 1, by omega, by go_num, ?_⟩
        intro j hj h
        by_cases hjk : j = k
        ·subst hjk; exact .inr ⟨by omega, by rw [HS.out, h3, h4]; rfl⟩
        ·exact HA.out j hj (by omega)
       case measure => simp [intOf]; omega
     | false =>
      cases h5 : among [43, 45, 46] z[k] with
      | true =>
       have hix := HI.out _ h5
       simp only [if_true] at hix
       go_wp2_with (first
        | (go_at_call 119; refine (isFigure z[k] _).mono ?_; rintro e W9 ⟨rfl, hW⟩; have hW2 := hW.symm; subst hW2; rw [h4])
        | (go_at_call 117; refine (indexSch z[k] _).mono ?_; rintro e W9 ⟨rfl, hW⟩; have hW2 := hW.symm; subst hW2)
        | (go_at_call 120; refine (isSmall z[k] _).mono ?_; rintro e W9 ⟨rfl, hW⟩; have hW2 := hW.symm; subst hW2; rw [h3])
        | fail)
       go_round
       case rel =>
        refine ⟨k + 1, by omega, by go_num, ?_⟩
        intro j hj h
        by_cases hjk : j = k
        ·subst hjk; exact .inr ⟨by omega, by rw [HS.out, h3, h4, h5]; rfl⟩
        ·exact HA.out j hj (by omega)
       case measure => simp [intOf]; omega
      | false =>
       have HR : Hid (schL (low l) = false) := HB.out k hp (by omega) (by rw [HS.out, h3, h4, h5]; rfl)
       have hix := HI.out _ h5
       simp only [if_false, Bool.false_eq_true] at hix
       have hix2 : decide (0 ≤ Lib.indexByte [43, 45, 46] z[k]) = false := decide_eq_false (by omega)
       go_wp2_with (first
        | (go_at_call 119; refine (isFigure z[k] _).mono ?_; rintro e W9 ⟨rfl, hW⟩; have hW2 := hW.symm; subst hW2; rw [h4])
        | (go_at_call 117; refine (indexSch z[k] _).mono ?_; rintro e W9 ⟨rfl, hW⟩; have hW2 := hW.symm; subst hW2)
        | (go_at_call 120; refine (isSmall z[k] _).mono ?_; rintro e W9 ⟨rfl, hW⟩; have hW2 := hW.symm; subst hW2; rw [h3])
        | fail)
       go_ret
       exact ⟨by rw [HR.out]; rfl, HB1.out⟩
  ·have hkk : k = z.size := by omega
   subst hkk
   by_cases h0 : z.size = 0
   ·have HR : Hid (schL (low l) = false) := HN.out h0
    have hze : z = ⟨#[]⟩ := by
     have := mk_list z
     have hll : z.data.toList.length = z.size := by simp
     rw [List.length_eq_zero_iff.1 (show z.data.toList.length = 0 by omega)] at this
     exact this.symm
    subst hze
    go_wp2
    go_ret
    exact ⟨by rw [HR.out]; rfl, HB1.out⟩
   ·have HR : Hid (schL (low l) = true) := HY.out (by omega) (fun j hj => HA.out j hj hj)
    have hzn : z.toList ≠ [] := by rw [ByteArray.toList_eq]; exact list_ne z h0
    have hne1 : (z.toList == []) = false := beq_eq_false_iff_ne.2 hzn
    have hne2 : z.toList.isEmpty = false := List.isEmpty_eq_false_iff.2 hzn
    go_wp2
    go_ret
    exact ⟨by rw [HR.out]; rfl, HB1.out⟩
def portN : Int → List UInt8 → Option Int
 | n, [] => some n
 | n, c :: r => if 65535 < n * 10 + ((c.toNat : Int) - 48) then none else portN (n * 10 + ((c.toNat : Int) - 48)) r
def portL (l : List UInt8) (own : Int) : Option Int := if figsL l = true then (if l = [] then some (-1) else match portN 0 l with
 | none => none
 | some n => if n = own then some (-1) else some n) else none
end Go.Proofs.YtnfhajhdpdidlaaGreatDoor
end
section
namespace Go.Proofs.YtnfhajhdpdidlaaGreatDoor
open Go.RowKit Go.Shelf
def portV (l : List UInt8) (own : Int) : Int := (portL l own).getD 0
def portB (l : List UInt8) (own : Int) : Bool := (portL l own).isSome
theorem portL_nofig (l : List UInt8) (own : Int) (h : figsL l = false) : portV l own = 0 ∧ portB l own = false := by
 have e : portL l own = none := by unfold portL; rw [if_neg (by rw [h]; decide)]
 unfold portV portB; rw [e]; exact ⟨rfl, rfl⟩
theorem portL_empty (own : Int) : portV [] own = -1 ∧ portB [] own = true := by
 have e : portL [] own = some (-1) := rfl
 unfold portV portB; rw [e]; exact ⟨rfl, rfl⟩
theorem portL_none (l : List UInt8) (own : Int) (h : figsL l = true) (hn : l ≠ []) (hp : portN 0 l = none) : portV l own = 0 ∧ portB l own = false := by
 have e : portL l own = none := by unfold portL; rw [if_pos h, if_neg hn, hp]
 unfold portV portB; rw [e]; exact ⟨rfl, rfl⟩
theorem portL_own (l : List UInt8) (own : Int) (h : figsL l = true) (hn : l ≠ []) (hp : portN 0 l = some own) : portV l own = -1 ∧ portB l own = true := by
 have e : portL l own = some (-1) := by unfold portL; rw [if_pos h, if_neg hn, hp]; simp
 unfold portV portB; rw [e]; exact ⟨rfl, rfl⟩
theorem portL_some (l : List UInt8) (own n : Int) (h : figsL l = true) (hn : l ≠ []) (hp : portN 0 l = some n) (hne : n ≠ own) : portV l own = n ∧ portB l own = true := by
 have e : portL l own = some n := by unfold portL; rw [if_pos h, if_neg hn, hp]; simp [hne]
 unfold portV portB; rw [e]; exact ⟨rfl, rfl⟩
def numG (most : Int) : Int → List UInt8 → Option Int
 | n, [] => some n
 | n, c :: r => if figB c = true then (if most < n * 10 + ((c.toNat : Int) - 48) then none else numG most (n * 10 + ((c.toNat : Int) - 48)) r) else none
theorem numG_port (l : List UInt8) : ∀ n : Int, numG 65535 n l = if figsL l = true then portN n l else none := by
 induction l with
 | nil => intro n; rfl
 | cons c r ih =>
  intro n
  cases hc : figB c with
  | false =>
   have e : figsL (c :: r) = false := by unfold figsL; rw [List.all_cons, hc]; rfl
   unfold numG
   rw [hc, if_neg (by decide), e, if_neg (by decide)]
  | true =>
   have e : figsL (c :: r) = figsL r := by unfold figsL; rw [List.all_cons, hc]; rfl
   unfold numG
   rw [hc, if_pos rfl, e, ih, show portN n (c :: r) = (if 65535 < n * 10 + ((c.toNat : Int) - 48) then none else portN (n * 10 + ((c.toNat : Int) - 48)) r) from rfl]
   by_cases hb : 65535 < n * 10 + ((c.toNat : Int) - 48)
   ·rw [if_pos hb, if_pos hb]; cases figsL r <;> rfl
   ·rw [if_neg hb, if_neg hb]
theorem figB_le (c : UInt8) (h : figB c = true) : 48 ≤ c.toNat ∧ c.toNat ≤ 57 := by
 unfold figB at h; exact of_decide_eq_true h
theorem numberUpTo (s : ByteArray) (most : Int) (w : World) (hs : s.size ≤ 1000000) (hm0 : 0 ≤ most) (hm9 : most ≤ 1000000) :
  Calls Tryz.prog 173 #[.string s, .int .i64 most] w fun e w' => e = .returned (.tuple #[.int .i64 ((numG most 0 s.data.toList).getD 0), .bool (numG most 0 s.data.toList).isSome]) ∧ w' = w := by
 go_enter Tryz.func173, Tryz.ntmps173
 go_wp2
 go_loop [6, 7] (fun n i => ∃ (k : Nat) (m : Int), k ≤ s.size ∧ i = .int .i64 k ∧ n = .int .i64 m ∧ 0 ≤ m ∧ m ≤ most ∧ Hid (numG most 0 s.data.toList = numG most m (s.data.toList.drop k))) (fun n i => s.size - (intOf i).toNat)
 case atStart => exact ⟨0, 0, Nat.zero_le _, rfl, rfl, by decide, hm0, rfl⟩
 case round =>
  obtain ⟨k, m, hk, rfl, rfl, hn0, hn1, HP⟩ := hrel
  by_cases hp : k < s.size
  ·have hki : (k : Int) < (s.size : Int) := by omega
   have hln : s.data.toList.length = s.size := by simp
   have HD : Hid (s.data.toList.drop k = s[k] :: s.data.toList.drop (k + 1)) := by
    show _ = _
    rw [List.drop_eq_getElem_cons (by omega)]; rfl
   clear hln
   cases h4 : figB s[k] with
   | false =>
    have HN : Hid (numG most 0 s.data.toList = none) := by
     show _ = _
     rw [HP.out, HD.out, numG, h4, if_neg (by decide)]
    go_wp2_with (first
     | (go_at_call 119; refine (isFigure s[k] _).mono ?_; rintro e W1 ⟨rfl, hW⟩; have hW2 := hW.symm; subst hW2; rw [h4])
     | fail)
    exact bodyPost_ret (v := .tuple #[.int .i64 0, .bool false]) (by simp [results, Tryz.results173, go_sem]) rfl ⟨by rw [HN.out]; rfl, rfl⟩
   | true =>
    obtain ⟨g1, g2⟩ := figB_le _ h4
    have hw1 : IntKind.u8.wrap ((s[k].toNat : Int) - 48) = (s[k].toNat : Int) - 48 := by rw [IntKind.wrap_u8]; omega
    obtain ⟨v, hv⟩ : ∃ v, v = m * 10 + ((s[k].toNat : Int) - 48) := ⟨_, rfl⟩
    have hv0 : 0 ≤ v := by omega
    have hv1 : v ≤ 10000100 := by omega
    have HV : Hid (v = m * 10 + ((s[k].toNat : Int) - 48)) := hv
    have hv' : m * 10 + ((s[k].toNat : Int) - 48) = v := hv.symm
    clear hv
    by_cases hbig : most < v
    ·have HN : Hid (numG most 0 s.data.toList = none) := by
      show _ = _
      rw [HP.out, HD.out, numG, h4, if_pos rfl, if_pos (by rw [hv']; exact hbig)]
     go_wp2_with (first
      | (go_at_call 119; refine (isFigure s[k] _).mono ?_; rintro e W1 ⟨rfl, hW⟩; have hW2 := hW.symm; subst hW2; rw [h4])
      | fail)
     exact bodyPost_ret (v := .tuple #[.int .i64 0, .bool false]) (by simp [results, Tryz.results173, go_sem]) rfl ⟨by rw [HN.out]; rfl, rfl⟩
    ·have hbig' : v ≤ most := by omega
     have HP2 : Hid (numG most 0 s.data.toList = numG most v (s.data.toList.drop (k + 1))) := by
      show _ = _
      rw [HP.out, HD.out, numG, h4, if_pos rfl, if_neg (by rw [hv']; omega), hv']
     go_wp2_with (first
      | (go_at_call 119; refine (isFigure s[k] _).mono ?_; rintro e W1 ⟨rfl, hW⟩; have hW2 := hW.symm; subst hW2; rw [h4])
      | fail)
     go_round
     case rel => exact ⟨k + 1, v, by omega, by go_num, rfl, hv0, hbig', HP2⟩
     case measure => simp [intOf]; omega
  ·have hkk : k = s.size := by omega
   subst hkk
   have HN : Hid (numG most 0 s.data.toList = some m) := by
    show _ = _
    rw [HP.out, List.drop_of_length_le (by simp)]; rfl
   go_wp2
   exact bodyPost_ret (v := .tuple #[.int .i64 m, .bool true]) (by simp [results, Tryz.results173, go_sem]) rfl ⟨by rw [HN.out]; rfl, rfl⟩
theorem portRead (s : ByteArray) (own : Int) (w : World) (hs : s.size ≤ 1000) :
  Calls Tryz.prog 148 #[.string s, .int .i64 own] w fun e w' => e = .returned (.tuple #[.int .i64 (portV s.data.toList own), .bool (portB s.data.toList own)]) ∧ Below w.heap.size w w' := by
 have hnum := numG_port s.data.toList 0
 cases hn : numG 65535 0 s.data.toList with
 | none =>
  have HR : Hid (portV s.data.toList own = 0 ∧ portB s.data.toList own = false) := by
   cases hf : figsL s.data.toList with
   | false => exact portL_nofig _ own hf
   | true =>
    rw [hf, if_pos rfl, hn] at hnum
    by_cases he : s.data.toList = []
    ·rw [he] at hnum; cases hnum
    ·exact portL_none _ own hf he hnum.symm
  have CF : Hid (∀ W, Calls Tryz.prog 173 #[.string s, .int .i64 65535] W fun e w' => e = .returned (.tuple #[.int .i64 0, .bool false]) ∧ w' = W) := fun W => by
   have := numberUpTo s 65535 W (by omega) (by decide) (by decide)
   rw [hn] at this; exact this
  clear hnum hn
  go_enter Tryz.func148, Tryz.ntmps148
  go_wp2_with fail
  refine (CF.out _).mono ?_
  rintro e W1 ⟨rfl, hW⟩
  have hW2 := hW.symm
  subst hW2
  go_wp2
  exact bodyPost_ret (v := .tuple #[.int .i64 0, .bool false]) (by simp [results, Tryz.results148, go_sem]) rfl ⟨by rw [HR.out.1, HR.out.2], Below.refl _ _⟩
 | some m =>
  have hf : figsL s.data.toList = true := by
   cases hf : figsL s.data.toList with
   | true => rfl
   | false => rw [hf, if_neg (by decide), hn] at hnum; cases hnum
  have hpn : portN 0 s.data.toList = some m := by rw [hf, if_pos rfl, hn] at hnum; exact hnum.symm
  have CF : Hid (∀ W, Calls Tryz.prog 173 #[.string s, .int .i64 65535] W fun e w' => e = .returned (.tuple #[.int .i64 m, .bool true]) ∧ w' = W) := fun W => by
   have := numberUpTo s 65535 W (by omega) (by decide) (by decide)
   rw [hn] at this; exact this
  clear hnum hn
  by_cases h0 : s.size = 0
  ·have hse : s = ⟨#[]⟩ := by
    have := mk_list s
    have hll : s.data.toList.length = s.size := by simp
    rw [List.length_eq_zero_iff.1 (show s.data.toList.length = 0 by omega)] at this
    exact this.symm
   subst hse
   clear hf hpn
   have HR : Hid (portV (ByteArray.mk #[]).data.toList own = -1 ∧ portB (ByteArray.mk #[]).data.toList own = true) := portL_empty own
   go_enter Tryz.func148, Tryz.ntmps148
   go_wp2_with fail
   refine (CF.out _).mono ?_
   rintro e W1 ⟨rfl, hW⟩
   have hW2 := hW.symm
   subst hW2
   go_wp2
   exact bodyPost_ret (v := .tuple #[.int .i64 (-1), .bool true]) (by simp [results, Tryz.results148, go_sem]) rfl ⟨by rw [HR.out.1, HR.out.2], Below.refl _ _⟩
  ·have hzl : s.data.toList ≠ [] := list_ne s h0
   have hzn : s.toList ≠ [] := by rw [ByteArray.toList_eq]; exact list_ne s h0
   have hne1 : (s.toList == []) = false := beq_eq_false_iff_ne.2 hzn
   have hne2 : s.toList.isEmpty = false := List.isEmpty_eq_false_iff.2 hzn
   by_cases ho : m = own
   ·have HR : Hid (portV s.data.toList own = -1 ∧ portB s.data.toList own = true) := portL_own _ own hf hzl (by rw [← ho]; exact hpn)
    subst ho
    clear hzl hzn hf hpn
    go_enter Tryz.func148, Tryz.ntmps148
    go_wp2_with fail
    refine (CF.out _).mono ?_
    rintro e W1 ⟨rfl, hW⟩
    have hW2 := hW.symm
    subst hW2
    go_wp2
    exact bodyPost_ret (v := .tuple #[.int .i64 (-1), .bool true]) (by simp [results, Tryz.results148, go_sem]) rfl ⟨by rw [HR.out.1, HR.out.2], Below.refl _ _⟩
   ·have HR : Hid (portV s.data.toList own = m ∧ portB s.data.toList own = true) := portL_some _ own m hf hzl hpn ho
    have ho' : (m == own) = false := beq_eq_false_iff_ne.2 ho
    clear hzl hzn hf hpn
    go_enter Tryz.func148, Tryz.ntmps148
    go_wp2_with fail
    refine (CF.out _).mono ?_
    rintro e W1 ⟨rfl, hW⟩
    have hW2 := hW.symm
    subst hW2
    go_wp2
    exact bodyPost_ret (v := .tuple #[.int .i64 m, .bool true]) (by simp [results, Tryz.results148, go_sem]) rfl ⟨by rw [HR.out.1, HR.out.2], Below.refl _ _⟩
end Go.Proofs.YtnfhajhdpdidlaaGreatDoor
end

/- spec.l3Scheme. -/
import Derived.Test.YtnfhajhdpdidlaaGreatDoorB14
import Derived.Test.YtnfhajhdpdidlaaGreatDoorB23
set_option linter.unusedVariables false
set_option linter.unusedSimpArgs false
set_option maxHeartbeats 4000000
set_option maxRecDepth 100000
section
namespace Go.Proofs.YtnfhajhdpdidlaaGreatDoor
open Go.RowKit Go.Shelf
def letB (c : UInt8) : Bool := decide (97 ≤ c.toNat ∧ c.toNat ≤ 122) || decide (65 ≤ c.toNat ∧ c.toNat ≤ 90)
def morB (c : UInt8) : Bool := decide (48 ≤ c.toNat ∧ c.toNat ≤ 57) || decide (c.toNat = 43 ∨ c.toNat = 45 ∨ c.toNat = 46)
theorem small_low (c : UInt8) : smallB (lowB c) = letB c := by
 have key : ∀ n : _root_.Fin 256, smallB (lowB (UInt8.ofNat n.val)) = letB (UInt8.ofNat n.val) := by decide
 have := key ⟨c.toNat, c.toNat_lt⟩
 simpa using this
theorem sch_low (c : UInt8) : schB (lowB c) = (letB c || morB c) := by
 have key : ∀ n : _root_.Fin 256, schB (lowB (UInt8.ofNat n.val)) = (letB (UInt8.ofNat n.val) || morB (UInt8.ofNat n.val)) := by decide
 have := key ⟨c.toNat, c.toNat_lt⟩
 simpa using this
def okAt (j : Nat) (c : UInt8) : Bool := letB c || (decide (0 < j) && morB c)
theorem ok_not_colon (j : Nat) (c : UInt8) (h : okAt j c = true) : among [58] c = false := by
 rw [among_one]
 cases hc : c == 58 with
 | false => rfl
 | true =>
  have : c = 58 := by simpa using hc
  subst this
  unfold okAt letB morB at h
  simp at h
def sch3 (l : List UInt8) : Option (List UInt8 × List UInt8) := if passB [58] (l.drop (upL [58] l).length) = true ∧ schL (low (upL [58] l)) = true then some (low (upL [58] l), l.drop ((upL [58] l).length + 1)) else none
theorem low_get (l : List UInt8) (j : Nat) (h : j < (low l).length) : (low l)[j] = lowB (l[j]'(by rw [low_length] at h; exact h)) := by
 simp only [low, List.getElem_map]
theorem sch_hit (l : List UInt8) (k : Nat) (hk : k < l.length) (h0 : 0 < k) (hc : l[k] = 58) (h : ∀ j (hj : j < l.length), j < k → okAt j l[j] = true) : sch3 l = some (low (l.take k), l.drop (k + 1)) := by
 have hu : upL [58] l = l.take k := by
  apply up_stop
  ·intro c hc'
   obtain ⟨j, hj, rfl⟩ := List.mem_iff_getElem.1 hc'
   rw [List.length_take] at hj
   rw [List.getElem_take]
   exact ok_not_colon j _ (h j (by omega) (by omega))
  ·intro c hc'
   rw [List.getElem?_eq_getElem hk, hc] at hc'
   simp at hc'; rw [← hc']; decide
 have hl : (l.take k).length = k := by rw [List.length_take]; omega
 unfold sch3
 rw [hu, hl, if_pos]
 refine ⟨?_, ?_⟩
 ·rw [List.drop_eq_getElem_cons hk, hc]; rfl
 ·apply schL_yes
  ·rw [low_length, hl]; exact h0
  ·intro j hj
   have hj' : j < k := by rw [low_length, hl] at hj; exact hj
   rw [low_get, small_low, sch_low, List.getElem_take]
   have := h j (by omega) hj'
   unfold okAt at this
   rcases Bool.or_eq_true _ _ ▸ this with e | e
   ·exact .inl e
   ·rw [Bool.and_eq_true] at e
    exact .inr ⟨of_decide_eq_true e.1, by rw [e.2, Bool.or_true]⟩
theorem sch_bad (l : List UInt8) (k : Nat) (hk : k < l.length) (hb : okAt k l[k] = false) (hc : l[k] ≠ 58 ∨ k = 0) (h : ∀ j (hj : j < l.length), j < k → okAt j l[j] = true) : sch3 l = none := by
 unfold sch3
 rw [if_neg]
 rintro ⟨_, hs⟩
 by_cases h58 : l[k] = 58
 ·have h0 : k = 0 := by rcases hc with e | e; exact absurd h58 e; exact e
  subst h0
  have hu : upL [58] l = [] := by
   have := up_stop [58] l 0 (by intro c hc'; simp at hc') (by intro c hc'; rw [List.getElem?_eq_getElem hk, h58] at hc'; simp at hc'; rw [← hc']; decide)
   simpa using this
  rw [hu] at hs
  cases hs
 ·have hlen : k < (upL [58] l).length := by
   rcases up_cases [58] l with ⟨e, _⟩ | ⟨a, c, b, e, hu, hc', ha⟩
   ·rw [e]; exact hk
   ·rw [hu]
    rcases Nat.lt_or_ge k a.length with hlt | hge
    ·exact hlt
    ·exfalso
     have hcc : c = 58 := by rw [among_one] at hc'; simpa using hc'
     have hac : a.length < l.length := by rw [e]; simp
     have hla : l[a.length] = 58 := by
      have : l[a.length]? = some 58 := by rw [e, List.getElem?_append_right (Nat.le_refl _), hcc]; simp
      rw [List.getElem?_eq_getElem hac] at this; simpa using this
     rcases Nat.lt_or_ge a.length k with hlt | hge2
     ·have := ok_not_colon _ _ (h a.length hac hlt)
      rw [hla] at this
      exact absurd this (by decide)
     ·have : k = a.length := by omega
      subst this
      exact h58 hla
  have hget : (upL [58] l)[k] = l[k] := by
   have hp : upL [58] l <+: l := by unfold upL; exact List.takeWhile_prefix _
   exact List.IsPrefix.getElem hp hlen
  have hkl : k < (low (upL [58] l)).length := by rw [low_length]; exact hlen
  unfold okAt at hb
  rw [Bool.or_eq_false_iff] at hb
  by_cases h0 : k = 0
  ·subst h0
   have := schL_first (low (upL [58] l)) hkl (by rw [low_get, small_low, hget]; exact hb.1)
   rw [this] at hs; cases hs
  ·have hm : morB l[k] = false := by
    have := hb.2
    rw [decide_eq_true (show 0 < k by omega), Bool.true_and] at this
    exact this
   have := schL_byte (low (upL [58] l)) k hkl (by omega) (by rw [low_get, sch_low, hget, hb.1, hm]; rfl)
   rw [this] at hs; cases hs
theorem sch_end (l : List UInt8) (h : ∀ j (hj : j < l.length), okAt j l[j] = true) : sch3 l = none := by
 unfold sch3
 rw [if_neg]
 rintro ⟨hp, _⟩
 have : upL [58] l = l := up_all [58] l (by
  intro c hc
  obtain ⟨j, hj, rfl⟩ := List.mem_iff_getElem.1 hc
  exact ok_not_colon j _ (h j hj))
 rw [this, List.drop_length] at hp
 cases hp
def sch3a (l : List UInt8) : ByteArray := match sch3 l with
 | some (a, _) => mk a
 | none => ⟨#[]⟩
def sch3b (l : List UInt8) : ByteArray := match sch3 l with
 | some (_, b) => mk b
 | none => ⟨#[]⟩
theorem slice_to (s : ByteArray) (t : Nat) (W : World) (ht : t ≤ s.size) : (Instr.slice 9 (.string s) none (some (.int .i64 (t : Int))) none).run Tryz.prog W = .ok (.string (s.extract 0 t)) W := by
 have := run_slice_string_h (P := Tryz.prog) W 9 s Tryz.underlying9 .i64 (t : Int) (by omega) (by omega)
 simpa using this
theorem slice_from (s : ByteArray) (f : Nat) (W : World) (hf : f ≤ s.size) : (Instr.slice 9 (.string s) (some (.int .i64 (f : Int))) none none).run Tryz.prog W = .ok (.string (s.extract f s.size)) W := by
 have := run_slice_string_l (P := Tryz.prog) W 9 s Tryz.underlying9 .i64 (f : Int) (by omega) (by omega)
 simpa using this
theorem sch_low1 {w W1 : World} (d : Below w.drew.heap.size w.drew W1) : Below w.heap.size w W1 := ((Below.refl _ w).drew).trans d
theorem l3Scheme (s : ByteArray) (w : World) (hs : s.size ≤ 1048576) :
  Calls Tryz.prog 110 #[.string s] w fun e w' => e = .returned (.tuple #[.string (sch3a s.data.toList), .string (sch3b s.data.toList), .bool (sch3 s.data.toList).isSome]) ∧ Below w.heap.size w w' := by
 have HLN : Hid (s.data.toList.length = s.size) := tl_size s
 go_enter Tryz.func110, Tryz.ntmps110
 go_wp2
 go_loop [5] (fun i => ∃ k : Nat, k ≤ s.size ∧ i = .int .i64 (k : Int) ∧ Hid (∀ j (hj : j < s.data.toList.length), j < k → okAt j s.data.toList[j] = true)) (fun i => s.size - (intOf i).toNat)
 case atStart => exact ⟨0, Nat.zero_le _, rfl, by intro j hj h; omega⟩
 case round =>
  obtain ⟨k, hk, rfl, HA⟩ := hrel
  by_cases hp : k < s.size
  ·have hpi : (k : Int) < (s.size : Int) := by omega
   have hkl : k < s.data.toList.length := by have := HLN.out; omega
   have hb0 := u8_lt s[k]
   have HC : Hid (s.data.toList[k] = s[k]) := rfl
   have HGO : Hid (okAt k s[k] = true → ∀ j (hj : j < s.data.toList.length), j < k + 1 → okAt j s.data.toList[j] = true) := by
    intro h j hj hjk
    rcases Nat.lt_or_ge j k with h1 | h1
    ·exact HA.out j hj h1
    ·have : j = k := by omega
     subst this; exact h
   have HNO : Hid (okAt k s[k] = false → (s[k] ≠ 58 ∨ k = 0) → sch3 s.data.toList = none) := fun h1 h2 => sch_bad _ k hkl h1 h2 HA.out
   have HOK : Hid (okAt k s[k] = (letB s[k] || (decide (0 < k) && morB s[k]))) := rfl
   by_cases hlet : letB s[k] = true
   ·have HG2 := HGO.out (by unfold okAt; rw [hlet]; rfl)
    have HG3 : Hid (∀ j (hj : j < s.data.toList.length), j < k + 1 → okAt j s.data.toList[j] = true) := HG2
    have hcase : ((97 : Int) ≤ (s[k].toNat : Int) ∧ (s[k].toNat : Int) ≤ 122) ∨ ((65 : Int) ≤ (s[k].toNat : Int) ∧ (s[k].toNat : Int) ≤ 90) := by
     unfold letB at hlet
     simp at hlet
     omega
    clear HG2 HGO HNO HOK hlet HC HA
    rcases hcase with ⟨h1, h2⟩ | ⟨h1, h2⟩
    all_goals
     go_wp2
     go_round
     case rel => exact ⟨k + 1, by omega, by go_num, HG3⟩
     case measure => simp [intOf]; omega
   ·have hlf : letB s[k] = false := by simpa using hlet
    have hn1 : ¬ ((97 : Int) ≤ (s[k].toNat : Int) ∧ (s[k].toNat : Int) ≤ 122) := by
     intro h; unfold letB at hlf; simp at hlf; omega
    have hn2 : ¬ ((65 : Int) ≤ (s[k].toNat : Int) ∧ (s[k].toNat : Int) ≤ 90) := by
     intro h; unfold letB at hlf; simp at hlf; omega
    by_cases h58 : s[k] = 58
    ·have hb : (s[k].toNat : Int) = 58 := by rw [h58]; rfl
     by_cases h0 : 0 < k
     ·have h0i : (0 : Int) < (k : Int) := by omega
      have HH : Hid (sch3 s.data.toList = some (low (s.data.toList.take k), s.data.toList.drop (k + 1))) := sch_hit _ k hkl h0 h58 HA.out
      obtain ⟨X, hX⟩ : ∃ X, X = s.extract 0 k := ⟨_, rfl⟩
      obtain ⟨Y, hY⟩ : ∃ Y, Y = s.extract (k + 1) s.size := ⟨_, rfl⟩
      have hXs : X.size ≤ 1048576 := by rw [hX, ByteArray.size_extract]; omega
      have HXL : Hid (X.data.toList = s.data.toList.take k) := by show _ = _; rw [hX, ext_list s 0 k (Nat.zero_le _) hk]; simp
      have HYL : Hid (Y = mk (s.data.toList.drop (k + 1))) := by show _ = _; rw [← mk_list Y, hY, ext_from]
      have CL : Hid (∀ W, Calls Tryz.prog 128 #[.string X] W fun e w' => e = .returned (.string (mk (low X.data.toList))) ∧ Below W.heap.size W w') := fun W => specLower X W (by omega)
      have hs1 : ∀ W : World, (Instr.slice 9 (.string s) none (some (.int .i64 (k : Int))) none).run Tryz.prog W = .ok (.string X) W := fun W => by rw [hX]; exact slice_to s k W hk
      have hs2 : ∀ W : World, (Instr.slice 9 (.string s) (some (.int .i64 ((k : Int) + 1))) none none).run Tryz.prog W = .ok (.string Y) W := fun W => by rw [hY]; exact slice_from s (k + 1) W (by omega)
      have hadd : IntKind.i64.wrap ((k : Int) + 1) = (k : Int) + 1 := by rw [IntKind.wrap_i64]; omega
      clear hX hY h58 hlf hlet HGO HNO HOK HC HA
      go_wp2
      go_region_with (first
       | (go_at_call 128; refine (CL.out _).mono ?_; rintro e W1 ⟨rfl, d1⟩))
      all_goals
       have HB1 : Hid (Below w.heap.size w W1) := sch_low1 d1
       clear d1 CL hs1 hs2
       go_wp2
       refine bodyPost_ret (v := .tuple #[.string (mk (low X.data.toList)), .string Y, .bool true]) (by simp [results, Tryz.results110, go_sem]) rfl ⟨?_, HB1.out⟩
       unfold sch3a sch3b
       rw [HH.out, HXL.out, HYL.out]; rfl
     ·have h0i : ¬ ((0 : Int) < (k : Int)) := by omega
      have HN : Hid (sch3 s.data.toList = none) := HNO.out (by unfold okAt; rw [hlf, decide_eq_false h0]; rfl) (.inr (by omega))
      clear h58 hlf hlet HGO HNO HOK HC HA
      go_wp2
      exact bodyPost_ret (v := .tuple #[.string ⟨#[]⟩, .string ⟨#[]⟩, .bool false]) (by simp [results, Tryz.results110, go_sem]) rfl ⟨by unfold sch3a sch3b; rw [HN.out]; rfl, Below.refl _ _⟩
    ·have hb58 : ¬ ((s[k].toNat : Int) = 58) := by
      intro e; apply h58; apply UInt8.toNat_inj.1; show s[k].toNat = 58; omega
     cases hmor : morB s[k] with
     | true =>
      have hcase : ((48 : Int) ≤ (s[k].toNat : Int) ∧ (s[k].toNat : Int) ≤ 57) ∨ (s[k].toNat : Int) = 43 ∨ (s[k].toNat : Int) = 45 ∨ (s[k].toNat : Int) = 46 := by
       unfold morB at hmor; simp at hmor; omega
      by_cases h0 : 0 < k
      ·have h0i : (0 : Int) < (k : Int) := by omega
       have HG3 : Hid (∀ j (hj : j < s.data.toList.length), j < k + 1 → okAt j s.data.toList[j] = true) := HGO.out (by unfold okAt; rw [hmor, decide_eq_true h0, Bool.and_self, Bool.or_true])
       clear h58 hlf hlet HGO HNO HOK HC HA hmor
       rcases hcase with ⟨h1, h2⟩ | h1 | h1 | h1
       all_goals
        go_wp2
        go_round
        case rel => exact ⟨k + 1, by omega, by go_num, HG3⟩
        case measure => simp [intOf]; omega
      ·have h0i : ¬ ((0 : Int) < (k : Int)) := by omega
       have HN : Hid (sch3 s.data.toList = none) := HNO.out (by unfold okAt; rw [hlf, decide_eq_false h0]; rfl) (.inr (by omega))
       clear h58 hlf hlet HGO HNO HOK HC HA hmor
       rcases hcase with ⟨h1, h2⟩ | h1 | h1 | h1
       all_goals
        go_wp2
        exact bodyPost_ret (v := .tuple #[.string ⟨#[]⟩, .string ⟨#[]⟩, .bool false]) (by simp [results, Tryz.results110, go_sem]) rfl ⟨by unfold sch3a sch3b; rw [HN.out]; rfl, Below.refl _ _⟩
     | false =>
      have HN : Hid (sch3 s.data.toList = none) := HNO.out (by unfold okAt; rw [hlf, hmor, Bool.and_false]; rfl) (.inl h58)
      have hcase : (s[k].toNat : Int) < 43 ∨ (s[k].toNat : Int) = 44 ∨ (s[k].toNat : Int) = 47 ∨ ((59 : Int) ≤ (s[k].toNat : Int) ∧ (s[k].toNat : Int) ≤ 64) ∨ ((91 : Int) ≤ (s[k].toNat : Int) ∧ (s[k].toNat : Int) ≤ 96) ∨ (123 : Int) ≤ (s[k].toNat : Int) := by
       unfold morB at hmor; simp at hmor; omega
      have hkz : (0 : Int) < (k : Int) ∨ ¬ ((0 : Int) < (k : Int)) := by omega
      have e43 : ((s[k].toNat : Int) == 43) = false := by rw [beq_eq_false_iff_ne]; omega
      have e45 : ((s[k].toNat : Int) == 45) = false := by rw [beq_eq_false_iff_ne]; omega
      have e46 : ((s[k].toNat : Int) == 46) = false := by rw [beq_eq_false_iff_ne]; omega
      clear h58 hlf hlet HGO HNO HOK HC HA hmor
      rcases hcase with h1 | h1 | h1 | ⟨h1, h2⟩ | ⟨h1, h2⟩ | h1
      all_goals
       rcases hkz with hkz | hkz
       all_goals
        go_wp2
        exact bodyPost_ret (v := .tuple #[.string ⟨#[]⟩, .string ⟨#[]⟩, .bool false]) (by simp [results, Tryz.results110, go_sem]) rfl ⟨by unfold sch3a sch3b; rw [HN.out]; rfl, Below.refl _ _⟩
  ·have hpi : ¬ ((k : Int) < (s.size : Int)) := by omega
   have HN : Hid (sch3 s.data.toList = none) := sch_end _ (fun j hj => HA.out j hj (by have := HLN.out; omega))
   clear HA
   go_wp2
   exact bodyPost_ret (v := .tuple #[.string ⟨#[]⟩, .string ⟨#[]⟩, .bool false]) (by simp [results, Tryz.results110, go_sem]) rfl ⟨by unfold sch3a sch3b; rw [HN.out]; rfl, Below.refl _ _⟩
end Go.Proofs.YtnfhajhdpdidlaaGreatDoor
end

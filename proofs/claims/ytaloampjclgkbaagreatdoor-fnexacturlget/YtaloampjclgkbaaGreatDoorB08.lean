/- Plain facts on a host's name: its bytes, its pieces, whether it ends with a number. impl.isHostName, impl.allFigures, impl.endsWithNumber. impl.urlReader's states readPath, readScheme. impl.allFigures, impl.endsWithNumber. impl.isScheme, impl.portRead. -/
import Derived.Test.YtaloampjclgkbaaGreatDoorB07
import Derived.Test.YtaloampjclgkbaaGreatDoorB04
import Derived.Test.YtaloampjclgkbaaGreatDoorB06
section
set_option linter.unusedVariables false
namespace Go.Proofs.YtaloampjclgkbaaGreatDoor
open Go.RowKit

def smallB (c : UInt8) : Bool := decide (97 ≤ c.toNat ∧ c.toNat ≤ 122)
def figB (c : UInt8) : Bool := decide (48 ≤ c.toNat ∧ c.toNat ≤ 57)
/-- A byte of a label. -/
def nmB (c : UInt8) : Bool := smallB c || figB c || c == 45 || c == 95

def nameL (l : List UInt8) : Bool := decide (1 ≤ l.length ∧ l.length ≤ 60 ∧ (∀ c ∈ l, nmB c = true ∨ c = 46) ∧ (∀ p ∈ partsL l, p ≠ []))

theorem nameL_len (l : List UInt8) (h : ¬ (1 ≤ l.length ∧ l.length ≤ 60)) : nameL l = false := by
  unfold nameL; exact decide_eq_false (fun hh => h ⟨hh.1, hh.2.1⟩)
theorem nameL_byte (l : List UInt8) (c : UInt8) (hc : c ∈ l) (h1 : nmB c = false) (h2 : c ≠ 46) : nameL l = false := by
  unfold nameL; refine decide_eq_false (fun hh => ?_)
  rcases hh.2.2.1 c hc with h | h
  · rw [h1] at h; cases h
  · exact h2 h
theorem nameL_empty (l : List UInt8) (h : [] ∈ partsL l) : nameL l = false := by
  unfold nameL; exact decide_eq_false (fun hh => hh.2.2.2 [] h rfl)
theorem nameL_yes (l : List UInt8) (h : 1 ≤ l.length ∧ l.length ≤ 60) (hb : ∀ c ∈ l, nmB c = true ∨ c = 46) (hp : ∀ p ∈ partsL l, p ≠ []) : nameL l = true := by
  unfold nameL; exact decide_eq_true ⟨h.1, h.2, hb, hp⟩
theorem nameL_le (l : List UInt8) (h : nameL l = true) : 1 ≤ l.length ∧ l.length ≤ 60 := by
  unfold nameL at h; have := of_decide_eq_true h; exact ⟨this.1, this.2.1⟩

theorem cutL_byte (l : List UInt8) : ∀ p ∈ cutL 46 l, ∀ c ∈ p, c ∈ l ∧ c ≠ 46 := by
  induction l with
  | nil => intro p hp c hc; simp [cutL] at hp; subst hp; cases hc
  | cons d r ih =>
    by_cases hd : d = 46
    · subst hd
      rw [cutL_b]
      intro p hp c hc
      rcases List.mem_cons.1 hp with rfl | hp
      · cases hc
      · exact ⟨List.mem_cons_of_mem _ (ih p hp c hc).1, (ih p hp c hc).2⟩
    · obtain ⟨q, qs, hq⟩ : ∃ q qs, cutL 46 r = q :: qs := by
        cases h : cutL 46 r with
        | nil => exact absurd h (cutL_ne _ _)
        | cons q qs => exact ⟨q, qs, rfl⟩
      rw [cutL_c 46 d r q qs hd hq]
      rw [hq] at ih
      intro p hp c hc
      rcases List.mem_cons.1 hp with rfl | hp
      · rcases List.mem_cons.1 hc with rfl | hc
        · exact ⟨List.mem_cons_self .., hd⟩
        · have := ih q (List.mem_cons_self ..) c hc
          exact ⟨List.mem_cons_of_mem _ this.1, this.2⟩
      · have := ih p (List.mem_cons_of_mem _ hp) c hc
        exact ⟨List.mem_cons_of_mem _ this.1, this.2⟩
theorem cutL_cover (l : List UInt8) : ∀ c ∈ l, c = 46 ∨ ∃ p ∈ cutL 46 l, c ∈ p := by
  induction l with
  | nil => intro c hc; cases hc
  | cons d r ih =>
    intro c hc
    by_cases hd : d = 46
    · subst hd
      rw [cutL_b]
      rcases List.mem_cons.1 hc with rfl | hc
      · exact .inl rfl
      · rcases ih c hc with h | ⟨p, hp, h⟩
        · exact .inl h
        · exact .inr ⟨p, List.mem_cons_of_mem _ hp, h⟩
    · obtain ⟨q, qs, hq⟩ : ∃ q qs, cutL 46 r = q :: qs := by
        cases h : cutL 46 r with
        | nil => exact absurd h (cutL_ne _ _)
        | cons q qs => exact ⟨q, qs, rfl⟩
      rw [cutL_c 46 d r q qs hd hq]
      rw [hq] at ih
      rcases List.mem_cons.1 hc with rfl | hc
      · exact .inr ⟨_, List.mem_cons_self .., List.mem_cons_self ..⟩
      · rcases ih c hc with h | ⟨p, hp, h⟩
        · exact .inl h
        · rcases List.mem_cons.1 hp with rfl | hp
          · exact .inr ⟨_, List.mem_cons_self .., List.mem_cons_of_mem _ h⟩
          · exact .inr ⟨p, List.mem_cons_of_mem _ hp, h⟩

theorem partsL_or (l : List UInt8) : (1 < (cutL 46 l).length ∧ (cutL 46 l)[(cutL 46 l).length - 1]? = some [] ∧ partsL l = (cutL 46 l).dropLast) ∨ (((cutL 46 l).length ≤ 1 ∨ (cutL 46 l)[(cutL 46 l).length - 1]? ≠ some []) ∧ partsL l = cutL 46 l) := by
  by_cases h : 1 < (cutL 46 l).length ∧ (cutL 46 l)[(cutL 46 l).length - 1]? = some []
  · exact .inl ⟨h.1, h.2, partsL_drop l h.1 h.2⟩
  · have : (cutL 46 l).length ≤ 1 ∨ (cutL 46 l)[(cutL 46 l).length - 1]? ≠ some [] := by
      by_cases h1 : 1 < (cutL 46 l).length
      · exact .inr (fun h2 => h ⟨h1, h2⟩)
      · exact .inl (by omega)
    exact .inr ⟨this, partsL_keep l this⟩

theorem parts_bad (l : List UInt8) (i : Nat) (hi : i < (cutL 46 l).length) (h : (cutL 46 l)[i] = []) (hb : i + 1 < (cutL 46 l).length ∨ i = 0) : [] ∈ partsL l := by
  rcases partsL_or l with ⟨h1, h2, e⟩ | ⟨h1, e⟩
  · rw [e]
    have hlt : i < (cutL 46 l).dropLast.length := by rw [List.length_dropLast]; omega
    have : (cutL 46 l).dropLast[i] = [] := by rw [List.getElem_dropLast]; exact h
    rw [← this]; exact List.getElem_mem hlt
  · rw [e, ← h]; exact List.getElem_mem hi
theorem parts_good (l : List UInt8) (h : ∀ i (hi : i < (cutL 46 l).length), (i + 1 < (cutL 46 l).length ∨ i = 0) → (cutL 46 l)[i] ≠ []) : ∀ p ∈ partsL l, p ≠ [] := by
  intro p hp
  rcases partsL_or l with ⟨h1, h2, e⟩ | ⟨h1, e⟩
  · rw [e] at hp
    obtain ⟨i, hi, e2⟩ := List.getElem_of_mem hp
    rw [List.length_dropLast] at hi
    rw [← e2, List.getElem_dropLast]
    exact h i (by omega) (.inl (by omega))
  · rw [e] at hp
    obtain ⟨i, hi, e2⟩ := List.getElem_of_mem hp
    rw [← e2]
    by_cases hb : i + 1 < (cutL 46 l).length ∨ i = 0
    · exact h i hi hb
    · rcases h1 with h1 | h1
      · exact absurd (Or.inr (by omega)) hb
      · intro h0
        apply h1
        have : (cutL 46 l).length - 1 = i := by omega
        rw [this, List.getElem?_eq_getElem hi, h0]

/-- Whether a text of figures alone. -/
def figsL (q : List UInt8) : Bool := q.all figB
theorem hexA_figs (q : List UInt8) (h : hexA q = true) : figsL q = false := by
  match q, h with
  | a :: b :: r, h =>
    simp only [hexA, Bool.and_eq_true, Bool.or_eq_true, beq_iff_eq] at h
    obtain ⟨rfl, h | h⟩ := h
    · subst h; simp [figsL, figB]
    · subst h; simp [figsL, figB]

/-- The last part of a host's text. -/
def lastP (l : List UInt8) : List UInt8 := (partsL l)[(partsL l).length - 1]'(by have := partsL_ne l; omega)
theorem lastP_le (l : List UInt8) : (lastP l).length ≤ l.length := partsL_mem_le l _ (List.getElem_mem _)
/-- Whether it ends with a number. -/
def endsL (l : List UInt8) : Bool := !(lastP l).isEmpty && (figsL (lastP l) || (hexA (lastP l) && partOk (lastP l)))
theorem ends_empty (l : List UInt8) (h : lastP l = []) : endsL l = false := by unfold endsL; rw [h]; rfl
theorem ends_hex (l : List UInt8) (h : hexA (lastP l) = true) : endsL l = partOk (lastP l) := by
  have hne : (lastP l).isEmpty = false := by
    cases hq : lastP l with
    | nil => rw [hq] at h; simp [hexA] at h
    | cons a b => rfl
  unfold endsL; rw [hexA_figs _ h, h, hne]; simp
theorem ends_figs (l : List UInt8) (hn : lastP l ≠ []) (h : hexA (lastP l) = false) : endsL l = figsL (lastP l) := by
  have hne : (lastP l).isEmpty = false := List.isEmpty_eq_false_iff.2 hn
  unfold endsL; rw [h, hne]; simp
theorem partV_ok (q : List UInt8) : decide (0 ≤ partV q) = partOk q := by
  unfold partV partOk
  cases h : partN q with
  | none => rfl
  | some m => have := partN_ge q m h; simp [this]
end Go.Proofs.YtaloampjclgkbaaGreatDoor
end

section
set_option linter.unusedVariables false
namespace Go.Proofs.YtaloampjclgkbaaGreatDoor
open Go.RowKit Go.Shelf

theorem isSmall (c : UInt8) (w : World) : Calls Tryz.prog 86 #[.int .u8 (c.toNat : Int)] w fun e w' => e = .returned (.bool (smallB c)) ∧ w' = w := by
  have hb := u8_lt c
  have HS : Hid (smallB c = decide ((97 : Int) ≤ (c.toNat : Int) ∧ (c.toNat : Int) ≤ 122)) := by show _ = _; unfold smallB; exact decide_eq_decide.2 (by omega)
  rcases (show (c.toNat : Int) < 97 ∨ ((97 : Int) ≤ (c.toNat : Int)) from by omega) with h1 | h1
  all_goals
    go_enter Tryz.func86, Tryz.ntmps86
    go_wp2
    go_ret
    exact ⟨ret_bool (by rw [HS.out]; simp <;> omega), rfl⟩
theorem isFigure (c : UInt8) (w : World) : Calls Tryz.prog 85 #[.int .u8 (c.toNat : Int)] w fun e w' => e = .returned (.bool (figB c)) ∧ w' = w := by
  have hb := u8_lt c
  have HS : Hid (figB c = decide ((48 : Int) ≤ (c.toNat : Int) ∧ (c.toNat : Int) ≤ 57)) := by show _ = _; unfold figB; exact decide_eq_decide.2 (by omega)
  rcases (show (c.toNat : Int) < 48 ∨ ((48 : Int) ≤ (c.toNat : Int)) from by omega) with h1 | h1
  all_goals
    go_enter Tryz.func85, Tryz.ntmps85
    go_wp2
    go_ret
    exact ⟨ret_bool (by rw [HS.out]; simp <;> omega), rfl⟩

theorem u8_back' (c : UInt8) : (c.toNat : Int).toNat.toUInt8 = c := by simp
theorem index_three (c : UInt8) : (Lib.indexByte [45, 95, 46] c < 0 ∧ c ≠ 45 ∧ c ≠ 95 ∧ c ≠ 46) ∨ (0 ≤ Lib.indexByte [45, 95, 46] c ∧ (c = 45 ∨ c = 95 ∨ c = 46)) := by
  by_cases h1 : c = 45
  · subst h1; right; exact ⟨by decide, .inl rfl⟩
  · by_cases h2 : c = 95
    · subst h2; right; exact ⟨by decide, .inr (.inl rfl)⟩
    · by_cases h3 : c = 46
      · subst h3; right; exact ⟨by decide, .inr (.inr rfl)⟩
      · left
        have e1 : ((45 : UInt8) == c) = false := by simpa using fun h => h1 h.symm
        have e2 : ((95 : UInt8) == c) = false := by simpa using fun h => h2 h.symm
        have e3 : ((46 : UInt8) == c) = false := by simpa using fun h => h3 h.symm
        refine ⟨?_, h1, h2, h3⟩
        simp [Lib.indexByte, e1, e2, e3]

theorem index_call (c : UInt8) (w : World) : Calls Tryz.prog 83 #[.string ⟨#[45, 95, 46]⟩, .int .u8 (c.toNat : Int)] w fun e w' => e = .returned (.int .i64 (Lib.indexByte [45, 95, 46] c)) ∧ w' = w := by
  have := Tryz.strings_IndexByte ⟨#[45, 95, 46]⟩ (c.toNat : Int) w
  rw [u8_back'] at this; exact this

set_option maxHeartbeats 2000000 in
set_option maxRecDepth 100000 in
theorem isHostName (s : ByteArray) (w : World) (hm : ∃ m, w.cell? ⟨1, 0, none⟩ = some (.int .i64 m)) (hs : s.size ≤ 1048576) :
    Calls Tryz.prog 140 #[.string s] w fun e w' => e = .returned (.bool (nameL s.data.toList)) ∧ Below w.heap.size w w' := by
  have hl : s.data.toList.length = s.size := by simp
  rcases (show s.size < 1 ∨ (1 ≤ s.size ∧ 60 < s.size) ∨ (1 ≤ s.size ∧ s.size ≤ 60) from by omega) with h1 | ⟨h1, h2⟩ | ⟨h1, h2⟩
  · have h1i : (s.size : Int) < 1 := by omega
    have HZ : Hid (nameL s.data.toList = false) := nameL_len _ (by omega)
    go_enter Tryz.func140, Tryz.ntmps140
    go_wp2
    go_ret
    exact ⟨by rw [HZ.out]; rfl, Below.refl _ _⟩
  · have h1i : (1 : Int) ≤ (s.size : Int) := by omega
    have h2i : (60 : Int) < (s.size : Int) := by omega
    have HZ : Hid (nameL s.data.toList = false) := nameL_len _ (by omega)
    go_enter Tryz.func140, Tryz.ntmps140
    go_wp2
    go_ret
    exact ⟨by rw [HZ.out]; rfl, Below.refl _ _⟩
  have h1i : (1 : Int) ≤ (s.size : Int) := by omega
  have h2i : (s.size : Int) ≤ 60 := by omega
  have HLEN : Hid (1 ≤ s.data.toList.length ∧ s.data.toList.length ≤ 60) := ⟨by omega, by omega⟩
  have CP : Hid (Calls Tryz.prog 153 #[.string s] w fun e w' => ∃ c, e = .returned (.slice (some ⟨w.heap.size, 0, none⟩) (partsL s.data.toList).length c) ∧ StrsAt w.heap.size (partsL s.data.toList) w' ∧ Below w.heap.size w w') := hostParts s w (by omega) hm
  have HY : Hid ((∀ c ∈ s.data.toList, nmB c = true ∨ c = 46) → (∀ p ∈ partsL s.data.toList, p ≠ []) → nameL s.data.toList = true) := fun a b => nameL_yes _ HLEN.out a b
  have HE : Hid ([] ∈ partsL s.data.toList → nameL s.data.toList = false) := nameL_empty _
  have HX : Hid (∀ k (hk : k < s.size), nmB s[k] = false → s[k] ≠ 46 → nameL s.data.toList = false) := fun k hk a b => nameL_byte _ s[k] (by simp [ByteArray.getElem_eq_getElem_data]) a b
  have hll := partsL_len_le s.data.toList
  clear hm
  obtain ⟨P, hP⟩ : ∃ P, P = partsL s.data.toList := ⟨_, rfl⟩
  rw [← hP] at CP HY HE hll
  clear hP
  obtain ⟨n, hn⟩ : ∃ n, n = P.length := ⟨_, rfl⟩
  rw [← hn] at CP hll
  have HN : Hid (n = P.length) := hn
  have hn9 : n ≤ 61 := by omega
  clear hn hll
  go_enter Tryz.func140, Tryz.ntmps140
  go_wp2
  go_loop [3] (fun i => ∃ k : Nat, k ≤ s.size ∧ i = .int .i64 k ∧ Hid (∀ j (hj : j < s.size), j < k → nmB s[j] = true ∨ s[j] = 46)) (fun i => s.size - (intOf i).toNat)
  case atStart => exact ⟨0, Nat.zero_le _, rfl, fun j hj h => absurd h (by omega)⟩
  case round =>
    obtain ⟨k, hk, rfl, HA⟩ := hrel
    by_cases hp : k < s.size
    · have hki : (k : Int) < (s.size : Int) := by omega
      have HS : Hid (nmB s[k] = (smallB s[k] || figB s[k] || s[k] == 45 || s[k] == 95)) := rfl
      cases h3 : smallB s[k] with
      | true =>
        have HA2 : Hid (∀ j (hj : j < s.size), j < k + 1 → nmB s[j] = true ∨ s[j] = 46) := by
          intro j hj h
          by_cases hjk : j = k
          · subst hjk; left; rw [HS.out, h3]; rfl
          · exact HA.out j hj (by omega)
        go_wp2_with (first
          | (go_at_call 86; refine (isSmall s[k] _).mono ?_; rintro e W1 ⟨rfl, hW⟩; have hW2 := hW.symm; subst hW2; rw [h3])
          | fail)
        go_round
        case rel => exact ⟨k + 1, by omega, by go_num, HA2⟩
        case measure => simp [intOf]; omega
      | false =>
        cases h4 : figB s[k] with
        | true =>
          have HA2 : Hid (∀ j (hj : j < s.size), j < k + 1 → nmB s[j] = true ∨ s[j] = 46) := by
            intro j hj h
            by_cases hjk : j = k
            · subst hjk; left; rw [HS.out, h3, h4]; rfl
            · exact HA.out j hj (by omega)
          go_wp2_with (first
            | (go_at_call 86; refine (isSmall s[k] _).mono ?_; rintro e W1 ⟨rfl, hW⟩; have hW2 := hW.symm; subst hW2; rw [h3])
            | (go_at_call 85; refine (isFigure s[k] _).mono ?_; rintro e W1 ⟨rfl, hW⟩; have hW2 := hW.symm; subst hW2; rw [h4])
            | fail)
          go_round
          case rel => exact ⟨k + 1, by omega, by go_num, HA2⟩
          case measure => simp [intOf]; omega
        | false =>
          rcases index_three s[k] with ⟨hi, hx⟩ | ⟨hi, hx⟩
          · have HZ : Hid (nameL s.data.toList = false) := HX.out k hp (by rw [HS.out, h3, h4]; simp [hx.1, hx.2.1]) hx.2.2
            clear hx
            go_wp2_with (first
              | (go_at_call 86; refine (isSmall s[k] _).mono ?_; rintro e W1 ⟨rfl, hW⟩; have hW2 := hW.symm; subst hW2; rw [h3])
              | (go_at_call 85; refine (isFigure s[k] _).mono ?_; rintro e W1 ⟨rfl, hW⟩; have hW2 := hW.symm; subst hW2; rw [h4])
              | (go_at_call 83; refine (index_call s[k] _).mono ?_; rintro e W1 ⟨rfl, hW⟩; have hW2 := hW.symm; subst hW2)
              | fail)
            go_ret
            exact ⟨by rw [HZ.out]; rfl, Below.refl _ _⟩
          · have HA2 : Hid (∀ j (hj : j < s.size), j < k + 1 → nmB s[j] = true ∨ s[j] = 46) := by
              intro j hj h
              by_cases hjk : j = k
              · subst hjk
                rcases hx with hx | hx | hx
                · left; rw [HS.out, hx]; simp
                · left; rw [HS.out, hx]; simp
                · right; exact hx
              · exact HA.out j hj (by omega)
            clear hx
            go_wp2_with (first
              | (go_at_call 86; refine (isSmall s[k] _).mono ?_; rintro e W1 ⟨rfl, hW⟩; have hW2 := hW.symm; subst hW2; rw [h3])
              | (go_at_call 85; refine (isFigure s[k] _).mono ?_; rintro e W1 ⟨rfl, hW⟩; have hW2 := hW.symm; subst hW2; rw [h4])
              | (go_at_call 83; refine (index_call s[k] _).mono ?_; rintro e W1 ⟨rfl, hW⟩; have hW2 := hW.symm; subst hW2)
              | fail)
            go_round
            case rel => exact ⟨k + 1, by omega, by go_num, HA2⟩
            case measure => simp [intOf]; omega
    · have hkk : k = s.size := by omega
      subst hkk
      have HB : Hid (∀ c ∈ s.data.toList, nmB c = true ∨ c = 46) := by
        intro c hc
        obtain ⟨j, hj, e⟩ := List.getElem_of_mem hc
        have hj' : j < s.size := by simpa using hj
        have := HA.out j hj' hj'
        have e2 : s[j] = c := by rw [← e]; simp [ByteArray.getElem_eq_getElem_data]
        rw [e2] at this; exact this
      clear HA
      go_wp2_with (go_at_call 153; refine CP.out.mono ?_; rintro e w1 ⟨c, rfl, hS, hB⟩)
      go_loop [40] (fun i => ∃ k : Nat, k ≤ n ∧ i = .int .i64 k ∧ Hid (∀ j (hj : j < P.length), j < k → P[j] ≠ [])) (fun i => n - (intOf i).toNat)
      case atStart => exact ⟨0, Nat.zero_le _, rfl, fun j hj h => absurd h (by omega)⟩
      case round =>
        obtain ⟨k, hk, rfl, HA⟩ := hrel
        by_cases hp : k < n
        · have hki : (k : Int) < (n : Int) := by omega
          have hkP : k < P.length := by rw [← HN.out]; exact hp
          have hc := hS.cell k hkP
          by_cases hz : P[k] = []
          · have HZ : Hid (nameL s.data.toList = false) := HE.out (by rw [← hz]; exact List.getElem_mem hkP)
            rw [hz] at hc
            have hc2 : w1.cell? ⟨w.heap.size, k, none⟩ = some (.string ⟨#[]⟩) := hc
            clear hc
            go_wp2
            go_ret
            exact ⟨by rw [HZ.out]; rfl, hB⟩
          · have HA2 : Hid (∀ j (hj : j < P.length), j < k + 1 → P[j] ≠ []) := by
              intro j hj h
              by_cases hjk : j = k
              · subst hjk; exact hz
              · exact HA.out j hj (by omega)
            obtain ⟨z, hzz, hzn⟩ : ∃ z : ByteArray, w1.cell? ⟨w.heap.size, k, none⟩ = some (.string z) ∧ z.toList ≠ [] := by
              refine ⟨_, hc, ?_⟩
              rw [ByteArray.toList_eq, mk_data]; exact hz
            have hne1 : (z.toList == []) = false := beq_eq_false_iff_ne.2 hzn
            have hne2 : z.toList.isEmpty = false := List.isEmpty_eq_false_iff.2 hzn
            clear hc hz
            go_wp2
            go_round
            case rel => exact ⟨k + 1, by omega, by go_num, HA2⟩
            case measure => simp [intOf]; omega
        · have hkk : k = n := by omega
          have HZ : Hid (nameL s.data.toList = true) := HY.out HB.out (by
            intro p hp
            obtain ⟨j, hj, e⟩ := List.getElem_of_mem hp
            rw [← e]; exact HA.out j hj (by rw [hkk, HN.out]; exact hj))
          have hki : ¬ ((k : Int) < (n : Int)) := by omega
          go_wp2
          go_ret
          exact ⟨by rw [HZ.out]; rfl, hB⟩
end Go.Proofs.YtaloampjclgkbaaGreatDoor
end

section
set_option linter.unusedVariables false
namespace Go.Proofs.YtaloampjclgkbaaGreatDoor
open Go.RowKit Go.Shelf

theorem OwnS.keptG {B g : Nat} {v : Value} {ps : List (List UInt8)} {w w' : World} (h : OwnS B v ps w) (hg : w.grownBy w' (some g)) (hgB : g < B) : OwnS B v ps w' := by
  refine World.ownsRow.kept h hg ?_
  cases ho : v.ownBlock with
  | none => exact .inl rfl
  | some k => right; intro e; simp at e; have := (World.ownsRow.lt h k ho).1; omega
/-- internal/bytealg.MaxLen holds a number. -/
def MaxL (w : World) : Prop := ∃ m, w.cell? ⟨1, 0, none⟩ = some (.int .i64 m)
theorem MaxL.grown {w w' : World} {g : Nat} (h : MaxL w) (hg : w.grownBy w' (some g)) (hne : g ≠ 1) : MaxL w' := by
  obtain ⟨m, h⟩ := h
  refine ⟨m, ?_⟩
  have hl : 1 < w.heap.size := cell_in h
  have : w'.heap[1]? = w.heap[1]? := hg.block 1 hl (by simp; omega)
  rw [← h]; unfold World.cell?; rw [this]

set_option maxHeartbeats 2000000 in
set_option maxRecDepth 100000 in
theorem readPath (g : Nat) (t : ByteArray) (i : Nat) (u : U) (x : Bool) (w : World) (h : UR g t i u x w) (hE : Eof w) (hM : MaxL w) (hg : g ≠ 0) (hg2 : g ≠ 1) (hi : i ≤ t.size) (ht : t.size ≤ 1000) :
    Calls Tryz.prog 110 #[.pointer (some ⟨g, 0, none⟩)] w fun e w' => e = .returned (.func (.func 89) #[.pointer (some ⟨g, 0, none⟩)] #[]) ∧ (∃ v, UR g t (i + (upL [63, 35] (t.data.toList.drop i)).length) { u with pa := v } x w' ∧ OwnS w.heap.size v (pathL (upL [63, 35] (t.data.toList.drop i))) w') ∧ w.grownBy w' (some g) := by
  have hgl := Rdr.lt h
  have H0 : Hid (UR g t i u x w) := h
  have HE : Hid (∀ W, w.grownBy W (some g) → Eof W) := fun W k => hE.grown k hg
  have HM : Hid (∀ W, w.grownBy W (some g) → MaxL W) := fun W k => hM.grown k hg2
  clear h hE hM
  have hul := up_len [63, 35] t i hi
  go_enter Tryz.func110, Tryz.ntmps110
  go_wp2_with fail
  refine (upTo g t i _ ⟨#[63, 35]⟩ _ H0.out (HE.out _ (World.grownBy.refl w _)) hg hi ht).mono ?_
  rintro e W3 ⟨rfl, hR3, hG3⟩
  obtain ⟨L, hL⟩ : ∃ L, L = upL [63, 35] (t.data.toList.drop i) := ⟨_, rfl⟩
  have hLl : L.length ≤ 1000 := by rw [hL]; omega
  have HR3 : Hid (UR g t (i + L.length) u x W3) := by rw [hL]; exact hR3
  have HG3 : Hid (w.grownBy W3 (some g)) := hG3
  have hgl3 : g < W3.heap.size := Rdr.lt hR3
  have HL : Hid (L = upL [63, 35] (t.data.toList.drop i)) := hL
  rw [show upL (ByteArray.mk #[63, 35]).data.toList (t.data.toList.drop i) = L from hL.symm]
  obtain ⟨m, hm⟩ := HM.out W3 hG3
  clear hR3 hG3 hL H0
  go_wp2_with fail
  refine (implPathGet (mk L) m _ (by rw [mk_size]; omega) hm).mono ?_
  rintro e W4 ⟨v, rfl, hO4, d4⟩
  have hU4 : UR g t (i + L.length) u x W4 := HR3.out.grown d4 hgl3
  have HG4 : Hid (w.grownBy W4 (some g)) := grown_low HG3.out d4 HG3.out.size
  have c12 : W4.cell? ⟨g, 10, none⟩ = some u.pa := hU4.cell 7 _ rfl
  have f12 : W4.frozen? ⟨g, 10, none⟩ = false := hU4.free 10
  have HU5 : Hid (UR g t (i + L.length) { u with pa := v } x (W4.setCell ⟨g, 10, none⟩ v)) := hU4.set 7 _ _ _ rfl
  have HG5 : Hid (w.grownBy (W4.setCell ⟨g, 10, none⟩ v) (some g)) := grown_then HG4.out (grown_set W4 g 10 _)
  have HO5 : Hid (OwnS w.heap.size v (pathL L) (W4.setCell ⟨g, 10, none⟩ v)) := (OwnS.keptG hO4 (grown_set W4 g 10 _) hgl3).base HG3.out.size
  obtain ⟨a, c, rfl, _⟩ := hO4.strs
  clear hU4 HG4 hO4
  go_wp2
  go_ret
  refine ⟨rfl, ⟨.slice a (pathL (mk L).data.toList).length c, ?_, ?_⟩, HG5.out⟩
  · rw [← HL.out]; exact HU5.out
  · rw [← HL.out]; exact HO5.out
end Go.Proofs.YtaloampjclgkbaaGreatDoor
end

section
set_option linter.unusedVariables false
namespace Go.Proofs.YtaloampjclgkbaaGreatDoor
open Go.RowKit Go.Shelf

theorem figsL_no (s : ByteArray) (k : Nat) (hk : k < s.size) (h : figB s[k] = false) : figsL s.data.toList = false := by
  unfold figsL
  rw [List.all_eq_false]
  exact ⟨s[k], by simp [ByteArray.getElem_eq_getElem_data], by rw [h]; simp⟩
theorem figsL_yes (s : ByteArray) (h : ∀ j (hj : j < s.size), figB s[j] = true) : figsL s.data.toList = true := by
  unfold figsL
  rw [List.all_eq_true]
  intro c hc
  obtain ⟨j, hj, e⟩ := List.getElem_of_mem hc
  have hj' : j < s.size := by simpa using hj
  have e2 : s[j] = c := by rw [← e]; simp [ByteArray.getElem_eq_getElem_data]
  rw [← e2]; exact h j hj'

set_option maxHeartbeats 2000000 in
set_option maxRecDepth 100000 in
theorem allFigures (s : ByteArray) (w : World) (hs : s.size ≤ 1000000) :
    Calls Tryz.prog 136 #[.string s] w fun e w' => e = .returned (.bool (figsL s.data.toList)) ∧ w' = w := by
  go_enter Tryz.func136, Tryz.ntmps136
  go_wp2
  go_loop [3] (fun i => ∃ k : Nat, k ≤ s.size ∧ i = .int .i64 k ∧ Hid (∀ j (hj : j < s.size), j < k → figB s[j] = true)) (fun i => s.size - (intOf i).toNat)
  case atStart => exact ⟨0, Nat.zero_le _, rfl, fun j hj h => absurd h (by omega)⟩
  case round =>
    obtain ⟨k, hk, rfl, HA⟩ := hrel
    by_cases hp : k < s.size
    · have hki : (k : Int) < (s.size : Int) := by omega
      cases h4 : figB s[k] with
      | true =>
        have HA2 : Hid (∀ j (hj : j < s.size), j < k + 1 → figB s[j] = true) := by
          intro j hj h
          by_cases hjk : j = k
          · subst hjk; exact h4
          · exact HA.out j hj (by omega)
        go_wp2_with (first
          | (go_at_call 85; refine (isFigure s[k] _).mono ?_; rintro e W1 ⟨rfl, hW⟩; have hW2 := hW.symm; subst hW2; rw [h4])
          | fail)
        go_round
        case rel => exact ⟨k + 1, by omega, by go_num, HA2⟩
        case measure => simp [intOf]; omega
      | false =>
        have HZ : Hid (figsL s.data.toList = false) := figsL_no s k hp h4
        go_wp2_with (first
          | (go_at_call 85; refine (isFigure s[k] _).mono ?_; rintro e W1 ⟨rfl, hW⟩; have hW2 := hW.symm; subst hW2; rw [h4])
          | fail)
        go_ret
        exact ⟨by rw [HZ.out]; rfl, rfl⟩
    · have hkk : k = s.size := by omega
      subst hkk
      have HZ : Hid (figsL s.data.toList = true) := figsL_yes s (fun j hj => HA.out j hj hj)
      go_wp2
      go_ret
      exact ⟨by rw [HZ.out]; rfl, rfl⟩


set_option maxHeartbeats 2000000 in
set_option maxRecDepth 100000 in
theorem endsWithNumber (s : ByteArray) (w : World) (hm : ∃ m, w.cell? ⟨1, 0, none⟩ = some (.int .i64 m)) (hs : s.size ≤ 1000000) :
    Calls Tryz.prog 141 #[.string s] w fun e w' => e = .returned (.bool (endsL s.data.toList)) ∧ Below w.heap.size w w' := by
  have hl : s.data.toList.length = s.size := by simp
  have CP : Hid (Calls Tryz.prog 153 #[.string s] w fun e w' => ∃ c, e = .returned (.slice (some ⟨w.heap.size, 0, none⟩) (partsL s.data.toList).length c) ∧ StrsAt w.heap.size (partsL s.data.toList) w' ∧ Below w.heap.size w w') := hostParts s w hs hm
  have h1 := partsL_ne s.data.toList
  have hll := partsL_len_le s.data.toList
  have hq9 := lastP_le s.data.toList
  have HQ : Hid (∀ g W, StrsAt g (partsL s.data.toList) W → W.cell? ⟨g, (partsL s.data.toList).length - 1, none⟩ = some (.string (mk (lastP s.data.toList)))) := fun g W h => h.cell _ (by omega)
  have H0 : Hid (lastP s.data.toList = [] → endsL s.data.toList = false) := ends_empty _
  have HH : Hid (hexA (lastP s.data.toList) = true → endsL s.data.toList = partOk (lastP s.data.toList)) := ends_hex _
  have HF : Hid (lastP s.data.toList ≠ [] → hexA (lastP s.data.toList) = false → endsL s.data.toList = figsL (lastP s.data.toList)) := ends_figs _
  clear hm
  obtain ⟨n, hn⟩ : ∃ n, (partsL s.data.toList).length = n + 1 := ⟨(partsL s.data.toList).length - 1, by omega⟩
  obtain ⟨q, hq⟩ : ∃ q, q = lastP s.data.toList := ⟨_, rfl⟩
  rw [← hq] at HQ H0 HH HF hq9
  rw [hn] at CP HQ hll
  have hn9 : n ≤ 1000001 := by omega
  have hn1 : (n : Int) + 1 - 1 = (n : Int) := by omega
  obtain ⟨z, hz⟩ : ∃ z, z = mk q := ⟨_, rfl⟩
  have hzq : z.data.toList = q := by rw [hz, mk_data]
  rw [← hz] at HQ
  rw [← hzq] at H0 HH HF hq9
  have hz9 : z.size ≤ 1000000 := by
    have : z.data.toList.length = z.size := by simp
    omega
  clear hn hq hz hzq hll hq9 hl h1 q
  go_enter Tryz.func141, Tryz.ntmps141
  go_wp2_with fail
  refine CP.out.mono ?_
  rintro e w1 ⟨c, rfl, hS, hB⟩
  have hc : w1.cell? ⟨w.heap.size, n, none⟩ = some (.string z) := HQ.out _ _ hS
  have HB : Hid (Below w.heap.size w w1) := hB
  clear hS hB HQ
  cases hx : hexA z.data.toList with
  | true =>
    have HZ : Hid (endsL s.data.toList = partOk z.data.toList) := HH.out hx
    go_wp2_with fail
    refine (isHex z _).mono ?_
    rintro e W1 ⟨rfl, hW⟩
    have hW2 := hW.symm
    subst hW2
    rw [hx]
    go_wp2_with fail
    refine (partNumber z _ hz9).mono ?_
    rintro e W1 ⟨rfl, m, hW⟩
    subst hW
    go_wp2
    go_ret
    exact ⟨by rw [HZ.out]; rfl, below_drewN HB.out _⟩
  | false =>
    by_cases hz0 : z.data.toList = []
    · have HZ : Hid (endsL s.data.toList = false) := H0.out hz0
      have he : z = ⟨#[]⟩ := by
        have := mk_list z
        rw [hz0] at this
        exact this.symm
      subst he
      go_wp2_with fail
      refine (isHex _ _).mono ?_
      rintro e W1 ⟨rfl, hW⟩
      have hW2 := hW.symm
      subst hW2
      rw [hx]
      go_wp2
      go_ret
      exact ⟨by rw [HZ.out]; rfl, HB.out⟩
    · have HZ : Hid (endsL s.data.toList = figsL z.data.toList) := HF.out hz0 hx
      have hzn : z.toList ≠ [] := by rw [ByteArray.toList_eq]; exact hz0
      have hne1 : (z.toList == []) = false := beq_eq_false_iff_ne.2 hzn
      have hne2 : z.toList.isEmpty = false := List.isEmpty_eq_false_iff.2 hzn
      have hne4 : (z.toList != []) = true := by simp [bne, hne1]
      clear hz0
      go_wp2_with fail
      refine (isHex _ _).mono ?_
      rintro e W1 ⟨rfl, hW⟩
      have hW2 := hW.symm
      subst hW2
      rw [hx]
      go_wp2_with fail
      refine (allFigures z _ hz9).mono ?_
      rintro e W1 ⟨rfl, hW⟩
      have hW2 := hW.symm
      subst hW2
      go_wp2
      go_ret
      exact ⟨by rw [HZ.out]; rfl, HB.out⟩
end Go.Proofs.YtaloampjclgkbaaGreatDoor
end

section
set_option linter.unusedVariables false
namespace Go.Proofs.YtaloampjclgkbaaGreatDoor
open Go.RowKit Go.Shelf

/-- Whether a byte, in small letters, may stand in a scheme behind the first. -/
def schB (c : UInt8) : Bool := smallB c || figB c || among [43, 45, 46] c
/-- Whether a text of small letters is a scheme. -/
def schL (l : List UInt8) : Bool := match l with
  | [] => false
  | c :: r => smallB c && r.all schB
theorem schL_first (l : List UInt8) (h : 0 < l.length) (hs : smallB l[0] = false) : schL l = false := by
  cases l with
  | nil => simp at h
  | cons c r => show (smallB c && r.all schB) = false; simp at hs; rw [hs]; rfl
theorem schL_byte (l : List UInt8) (k : Nat) (hk : k < l.length) (h0 : 0 < k) (hs : schB l[k] = false) : schL l = false := by
  cases l with
  | nil => simp at hk
  | cons c r =>
    show (smallB c && r.all schB) = false
    obtain ⟨j, rfl⟩ : ∃ j, k = j + 1 := ⟨k - 1, by omega⟩
    have : r.all schB = false := by
      rw [List.all_eq_false]
      exact ⟨r[j]'(by simpa using hk), List.getElem_mem _, by simpa using hs⟩
    rw [this, Bool.and_false]
theorem schL_yes (l : List UInt8) (h0 : 0 < l.length) (h : ∀ j (hj : j < l.length), smallB l[j] = true ∨ (0 < j ∧ schB l[j] = true)) : schL l = true := by
  cases l with
  | nil => simp at h0
  | cons c r =>
    show (smallB c && r.all schB) = true
    rw [Bool.and_eq_true]
    refine ⟨?_, ?_⟩
    · rcases h 0 (by simp) with e | ⟨e, _⟩
      · simpa using e
      · omega
    · rw [List.all_eq_true]
      intro d hd
      obtain ⟨j, hj, rfl⟩ := List.mem_iff_getElem.1 hd
      rcases h (j + 1) (by simpa using hj) with e | ⟨_, e⟩
      · have e' : smallB r[j] = true := by simpa using e
        unfold schB; rw [e']; rfl
      · simpa using e

theorem indexSch (c : UInt8) (w : World) : Calls Tryz.prog 83 #[.string ⟨#[43, 45, 46]⟩, .int .u8 (c.toNat : Int)] w fun e w' => e = .returned (.int .i64 (Lib.indexByte [43, 45, 46] c)) ∧ w' = w := indexAt ⟨#[43, 45, 46]⟩ c w
set_option maxHeartbeats 2000000 in
set_option maxRecDepth 100000 in
theorem isScheme (l : List UInt8) (w : World) (hl : l.length ≤ 1000) :
    Calls Tryz.prog 58 #[.string (mk l)] w fun e w' => e = .returned (.bool (schL (low l))) ∧ Below w.heap.size w w' := by
  have CL : Hid (∀ W, Calls Tryz.prog 60 #[.string (mk l)] W fun e w' => e = .returned (.string (mk (low l))) ∧ Below W.heap.size W w') := fun W => implLower (mk l) W (by rw [mk_size]; omega)
  obtain ⟨z, hz⟩ : ∃ z, z = mk (low l) := ⟨_, rfl⟩
  rw [← hz] at CL
  have hzs : z.size = l.length := by rw [hz, mk_size, low_length]
  have hzl : z.data.toList = low l := by rw [hz, mk_data]
  have HZL : Hid (z.data.toList = low l) := hzl
  have hz9 : z.size ≤ 1000 := by omega
  have HF : Hid (∀ k (hk : k < z.size), k = 0 → smallB z[k] = false → schL (low l) = false) := by
    intro k hk h0 hs
    subst h0
    rw [← hzl]; exact schL_first _ (by simpa using hk) hs
  have HB : Hid (∀ k (hk : k < z.size), 0 < k → schB z[k] = false → schL (low l) = false) := by
    intro k hk h0 hs
    rw [← hzl]; exact schL_byte _ k (by simpa using hk) h0 hs
  have HY : Hid (0 < z.size → (∀ j (hj : j < z.size), smallB z[j] = true ∨ (0 < j ∧ schB z[j] = true)) → schL (low l) = true) := by
    intro h0 h
    rw [← hzl]; exact schL_yes _ (by simpa using h0) (fun j hj => h j (by simpa using hj))
  have HN : Hid (z.size = 0 → schL (low l) = false) := by
    intro h
    have : z.data.toList = [] := List.length_eq_zero_iff.1 (by simpa using h)
    rw [← hzl, this]; rfl
  clear hz hzl hzs
  go_enter Tryz.func58, Tryz.ntmps58
  go_wp2_with fail
  refine (CL.out _).mono ?_
  rintro e W1 ⟨rfl, d1⟩
  have HB1 : Hid (Below w.heap.size w W1) := d1
  clear d1 CL
  go_wp2
  go_loop [4] (fun i => ∃ k : Nat, k ≤ z.size ∧ i = .int .i64 k ∧ Hid (∀ j (hj : j < z.size), j < k → smallB z[j] = true ∨ (0 < j ∧ schB z[j] = true))) (fun i => z.size - (intOf i).toNat)
  case atStart => exact ⟨0, Nat.zero_le _, rfl, fun j hj h => absurd h (by omega)⟩
  case round =>
    obtain ⟨k, hk, rfl, HA⟩ := hrel
    by_cases hp : k < z.size
    · have hki : (k : Int) < (z.size : Int) := by omega
      have HS : Hid (schB z[k] = (smallB z[k] || figB z[k] || among [43, 45, 46] z[k])) := rfl
      have HI : Hid (∀ b, among [43, 45, 46] z[k] = b → if b then 0 ≤ Lib.indexByte [43, 45, 46] z[k] else Lib.indexByte [43, 45, 46] z[k] < 0) := by
        intro b hb
        cases b with
        | true => exact among_yes hb
        | false => exact among_no hb
      cases h3 : smallB z[k] with
      | true =>
        cases h4 : figB z[k] <;> cases h5 : among [43, 45, 46] z[k]
        all_goals
          have hix := HI.out _ h5
          simp only [if_true, if_false, Bool.false_eq_true] at hix
          go_wp2_with (first
            | (go_at_call 85; refine (isFigure z[k] _).mono ?_; rintro e W9 ⟨rfl, hW⟩; have hW2 := hW.symm; subst hW2; rw [h4])
            | (go_at_call 83; refine (indexSch z[k] _).mono ?_; rintro e W9 ⟨rfl, hW⟩; have hW2 := hW.symm; subst hW2)
            | (go_at_call 86; refine (isSmall z[k] _).mono ?_; rintro e W9 ⟨rfl, hW⟩; have hW2 := hW.symm; subst hW2; rw [h3])
            | fail)
          go_round
          case rel =>
            refine ⟨k + 1, by omega, by go_num, ?_⟩
            intro j hj h
            by_cases hjk : j = k
            · subst hjk; exact .inl h3
            · exact HA.out j hj (by omega)
          case measure => simp [intOf]; omega
      | false =>
        by_cases hk0 : k = 0
        · subst hk0
          have HR : Hid (schL (low l) = false) := HF.out 0 hp rfl h3
          cases h4 : figB z[0] <;> cases h5 : among [43, 45, 46] z[0]
          all_goals
            have hix := HI.out _ h5
            simp only [if_true, if_false, Bool.false_eq_true] at hix
            go_wp2_with (first
              | (go_at_call 85; refine (isFigure z[0] _).mono ?_; rintro e W9 ⟨rfl, hW⟩; have hW2 := hW.symm; subst hW2; rw [h4])
              | (go_at_call 83; refine (indexSch z[0] _).mono ?_; rintro e W9 ⟨rfl, hW⟩; have hW2 := hW.symm; subst hW2)
              | (go_at_call 86; refine (isSmall z[0] _).mono ?_; rintro e W9 ⟨rfl, hW⟩; have hW2 := hW.symm; subst hW2; rw [h3])
              | fail)
            go_ret
            exact ⟨by rw [HR.out]; rfl, HB1.out⟩
        · have hk0' : ((k : Int) == 0) = false := by rw [beq_eq_false_iff_ne]; omega
          cases h4 : figB z[k] with
          | true =>
            cases h5 : among [43, 45, 46] z[k]
            all_goals
              have hix := HI.out _ h5
              simp only [if_true, if_false, Bool.false_eq_true] at hix
              go_wp2_with (first
                | (go_at_call 85; refine (isFigure z[k] _).mono ?_; rintro e W9 ⟨rfl, hW⟩; have hW2 := hW.symm; subst hW2; rw [h4])
                | (go_at_call 83; refine (indexSch z[k] _).mono ?_; rintro e W9 ⟨rfl, hW⟩; have hW2 := hW.symm; subst hW2)
                | (go_at_call 86; refine (isSmall z[k] _).mono ?_; rintro e W9 ⟨rfl, hW⟩; have hW2 := hW.symm; subst hW2; rw [h3])
                | fail)
              go_round
              case rel =>
                refine ⟨k + 1, by omega, by go_num, ?_⟩
                intro j hj h
                by_cases hjk : j = k
                · subst hjk; exact .inr ⟨by omega, by rw [HS.out, h3, h4]; rfl⟩
                · exact HA.out j hj (by omega)
              case measure => simp [intOf]; omega
          | false =>
            cases h5 : among [43, 45, 46] z[k] with
            | true =>
              have hix := HI.out _ h5
              simp only [if_true] at hix
              go_wp2_with (first
                | (go_at_call 85; refine (isFigure z[k] _).mono ?_; rintro e W9 ⟨rfl, hW⟩; have hW2 := hW.symm; subst hW2; rw [h4])
                | (go_at_call 83; refine (indexSch z[k] _).mono ?_; rintro e W9 ⟨rfl, hW⟩; have hW2 := hW.symm; subst hW2)
                | (go_at_call 86; refine (isSmall z[k] _).mono ?_; rintro e W9 ⟨rfl, hW⟩; have hW2 := hW.symm; subst hW2; rw [h3])
                | fail)
              go_round
              case rel =>
                refine ⟨k + 1, by omega, by go_num, ?_⟩
                intro j hj h
                by_cases hjk : j = k
                · subst hjk; exact .inr ⟨by omega, by rw [HS.out, h3, h4, h5]; rfl⟩
                · exact HA.out j hj (by omega)
              case measure => simp [intOf]; omega
            | false =>
              have HR : Hid (schL (low l) = false) := HB.out k hp (by omega) (by rw [HS.out, h3, h4, h5]; rfl)
              have hix := HI.out _ h5
              simp only [if_false, Bool.false_eq_true] at hix
              have hix2 : decide (0 ≤ Lib.indexByte [43, 45, 46] z[k]) = false := decide_eq_false (by omega)
              go_wp2_with (first
                | (go_at_call 85; refine (isFigure z[k] _).mono ?_; rintro e W9 ⟨rfl, hW⟩; have hW2 := hW.symm; subst hW2; rw [h4])
                | (go_at_call 83; refine (indexSch z[k] _).mono ?_; rintro e W9 ⟨rfl, hW⟩; have hW2 := hW.symm; subst hW2)
                | (go_at_call 86; refine (isSmall z[k] _).mono ?_; rintro e W9 ⟨rfl, hW⟩; have hW2 := hW.symm; subst hW2; rw [h3])
                | fail)
              go_ret
              exact ⟨by rw [HR.out]; rfl, HB1.out⟩
    · have hkk : k = z.size := by omega
      subst hkk
      by_cases h0 : z.size = 0
      · have HR : Hid (schL (low l) = false) := HN.out h0
        have hze : z = ⟨#[]⟩ := by
          have := mk_list z
          have hll : z.data.toList.length = z.size := by simp
          rw [List.length_eq_zero_iff.1 (show z.data.toList.length = 0 by omega)] at this
          exact this.symm
        subst hze
        go_wp2
        go_ret
        exact ⟨by rw [HR.out]; rfl, HB1.out⟩
      · have HR : Hid (schL (low l) = true) := HY.out (by omega) (fun j hj => HA.out j hj hj)
        have hzn : z.toList ≠ [] := by rw [ByteArray.toList_eq]; exact list_ne z h0
        have hne1 : (z.toList == []) = false := beq_eq_false_iff_ne.2 hzn
        have hne2 : z.toList.isEmpty = false := List.isEmpty_eq_false_iff.2 hzn
        go_wp2
        go_ret
        exact ⟨by rw [HR.out]; rfl, HB1.out⟩

/-- A port, read: whether there is one, and which; that of the scheme is -1. -/
def portN : Int → List UInt8 → Option Int
  | n, [] => some n
  | n, c :: r => if 65535 < n * 10 + ((c.toNat : Int) - 48) then none else portN (n * 10 + ((c.toNat : Int) - 48)) r
def portL (l : List UInt8) (own : Int) : Option Int := if figsL l = true then (if l = [] then some (-1) else match portN 0 l with
  | none => none
  | some n => if n = own then some (-1) else some n) else none
end Go.Proofs.YtaloampjclgkbaaGreatDoor
end

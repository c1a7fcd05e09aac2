/- Plain facts on queries: their pieces and pairs. Nothing of any program. spec.l1At: the place of the first of some bytes. spec.l3Trim. spec.l3Scheme. A box with an address, and a zero address for the answer, as spec's functions have them. -/
import Derived.Test.YticbekooadnnlaaGreatDoorB04
import Derived.Test.YticbekooadnnlaaGreatDoorB02
import Derived.Test.YticbekooadnnlaaGreatDoorB01
import Derived.BigQuiet
import Derived.Deep.QuietTactic
import Derived.WalkSmall
import Derived.Test.YticbekooadnnlaaGreatDoorB14
section
set_option linter.unusedVariables false
namespace Go.Proofs.YticbekooadnnlaaGreatDoor
open Go.RowKit

/-- Up to the first byte that is among some. -/
def notIn (any : List UInt8) (c : UInt8) : Bool := !any.contains c
def aheadL (any l : List UInt8) : List UInt8 := l.takeWhile (notIn any)
def behindL (any l : List UInt8) : List UInt8 := (l.dropWhile (notIn any)).drop 1
def atL (any l : List UInt8) : Nat := (aheadL any l).length
theorem atL_le (any l : List UInt8) : atL any l ≤ l.length := (List.takeWhile_sublist _).length_le
theorem ahead_take (any l : List UInt8) : l.take (atL any l) = aheadL any l := by
  unfold atL aheadL
  induction l with
  | nil => rfl
  | cons c r ih =>
    rw [List.takeWhile_cons]
    split
    · simp [ih]
    · simp
theorem behind_drop (any l : List UInt8) : l.drop (atL any l + 1) = behindL any l := by
  unfold atL aheadL behindL
  induction l with
  | nil => rfl
  | cons c r ih =>
    rw [List.takeWhile_cons, List.dropWhile_cons]
    split
    · simpa using ih
    · simp
theorem ahead_hit (b : UInt8) (l r : List UInt8) (h : ∀ c ∈ l, c ≠ b) : aheadL [b] (l ++ b :: r) = l ∧ behindL [b] (l ++ b :: r) = r := by
  have hp : ∀ c ∈ l, notIn [b] c = true := by intro c hc; simp [notIn]; exact h c hc
  have hb : notIn [b] b = false := by simp [notIn]
  unfold aheadL behindL
  rw [List.takeWhile_append_of_pos hp, List.dropWhile_append_of_pos hp, List.takeWhile_cons, List.dropWhile_cons, hb]
  simp
theorem ahead_none (b : UInt8) (l : List UInt8) (h : ∀ c ∈ l, c ≠ b) : aheadL [b] l = l ∧ behindL [b] l = [] := by
  have hp : ∀ c ∈ l, notIn [b] c = true := by intro c hc; simp [notIn]; exact h c hc
  have e1 := List.takeWhile_append_of_pos (l₂ := []) hp
  have e2 := List.dropWhile_append_of_pos (l₂ := []) hp
  simp at e1 e2
  unfold aheadL behindL
  exact ⟨e1, by rw [e2]; rfl⟩
theorem cut_one (b : UInt8) (l : List UInt8) : (Lib.cut l [b]).1 = aheadL [b] l ∧ (Lib.cut l [b]).2.1 = behindL [b] l := by
  rcases Lib.index_spec l [b] with ⟨hi, hno⟩ | ⟨i, hi, hil, ho, hno⟩
  · have hf : ∀ c ∈ l, c ≠ b := by
      intro c hc
      obtain ⟨j, hj, e⟩ := List.getElem_of_mem hc
      have := hno j (by omega)
      rw [occ_one _ _ _ hj] at this
      rw [← e]
      exact fun h => by rw [h] at this; simp at this
    have e : Lib.cut l [b] = (l, [], false) := by unfold Lib.cut; rw [hi, if_neg (by decide)]
    rw [e, (ahead_none b l hf).1, (ahead_none b l hf).2]
    exact ⟨rfl, rfl⟩
  · have hlt : i < l.length := by
      rcases Nat.lt_or_ge i l.length with h | h
      · exact h
      · unfold Lib.occAt at ho
        rw [List.drop_of_length_le h] at ho
        cases ho
    have hsi : l[i] = b := by rw [occ_one _ _ _ hlt] at ho; exact (beq_iff_eq.1 ho).symm
    have e3 : l = l.take i ++ b :: l.drop (i + 1) := by
      conv => lhs; rw [← List.take_append_drop i l, List.drop_eq_getElem_cons hlt, hsi]
    have hf : ∀ c ∈ l.take i, c ≠ b := by
      intro c hc
      obtain ⟨j, hj, e⟩ := List.getElem_of_mem hc
      have hj' : j < i := by simp at hj; omega
      have := hno j hj'
      rw [occ_one _ _ _ (by omega)] at this
      rw [← e, List.getElem_take]
      exact fun h => by rw [h] at this; simp at this
    have e : Lib.cut l [b] = (l.take i, l.drop (i + 1), true) := by
      unfold Lib.cut
      rw [hi, if_pos (by omega)]
      simp
    obtain ⟨h1, h2⟩ := ahead_hit b (l.take i) (l.drop (i + 1)) hf
    rw [← e3] at h1 h2
    rw [e, h1, h2]
    exact ⟨rfl, rfl⟩

def plusL (l : List UInt8) : List UInt8 := turnL 43 32 l
theorem plusL_len (l : List UInt8) : (plusL l).length = l.length := turnL_len _ _ _
/-- A piece of a query, read. -/
def textG (l : List UInt8) : List UInt8 := dec (plusL l)
def pieceG (p : List UInt8) : List UInt8 × List UInt8 := (textG (aheadL [61] p), textG (behindL [61] p))
def formG (ps : List (List UInt8)) : List (List UInt8 × List UInt8) := (ps.filter fun p => !p.isEmpty).map pieceG
def formL (l : List UInt8) : List (List UInt8 × List UInt8) := if l.length ≤ 600 then formG (cutL 38 l) else []
theorem formL_small (l : List UInt8) (h : l.length ≤ 600) : formL l = formG (cutL 38 l) := if_pos h
theorem formL_great (l : List UInt8) (h : ¬ l.length ≤ 600) : formL l = [] := if_neg h
theorem formG_snoc (ps : List (List UInt8)) (k : Nat) (hk : k < ps.length) : formG (ps.take (k + 1)) = if ps[k] = [] then formG (ps.take k) else formG (ps.take k) ++ [pieceG ps[k]] := by
  unfold formG
  rw [List.take_succ_eq_append_getElem hk, List.filter_append, List.map_append]
  by_cases h : ps[k] = []
  · rw [if_pos h]; simp [h]
  · rw [if_neg h]
    have : (!(ps[k]).isEmpty) = true := by simpa using h
    simp [this]
theorem formG_len (ps : List (List UInt8)) : (formG ps).length ≤ ps.length := by
  unfold formG; rw [List.length_map]; exact List.length_filter_le _ _
theorem formL_len (l : List UInt8) : (formL l).length ≤ 601 := by
  unfold formL
  split
  · have h1 := formG_len (cutL 38 l); have h2 := cutL_len_le 38 l; omega
  · simp
theorem ahead_le (any l : List UInt8) : (aheadL any l).length ≤ l.length := (List.takeWhile_sublist _).length_le
theorem behind_le (any l : List UInt8) : (behindL any l).length ≤ l.length := by
  rw [← behind_drop]; simp
end Go.Proofs.YticbekooadnnlaaGreatDoor
end

section
set_option linter.unusedVariables false
namespace Go.Proofs.YticbekooadnnlaaGreatDoor
open Go.RowKit Go.Shelf

theorem atL_hit (any l : List UInt8) (i : Nat) (hi : i < l.length) (hno : ∀ j (h : j < l.length), j < i → any.contains l[j] = false) (hy : any.contains l[i] = true) : atL any l = i := by
  induction l generalizing i with
  | nil => simp at hi
  | cons c r ih =>
    unfold atL aheadL
    rw [List.takeWhile_cons]
    cases i with
    | zero =>
      have : notIn any c = false := by unfold notIn; simp at hy ⊢; exact hy
      rw [this]; rfl
    | succ i =>
      have h0 : notIn any c = true := by have := hno 0 (by simp) (by omega); unfold notIn; simp at this ⊢; exact this
      rw [h0]
      have := ih i (by simpa using hi) (fun j h hj => by have := hno (j + 1) (by simpa using h) (by omega); simpa using this) (by simpa using hy)
      unfold atL aheadL at this
      simp [this]
theorem atL_miss (any l : List UInt8) (hno : ∀ j (h : j < l.length), any.contains l[j] = false) : atL any l = l.length := by
  induction l with
  | nil => rfl
  | cons c r ih =>
    unfold atL aheadL
    have h0 : notIn any c = true := by have := hno 0 (by simp); unfold notIn; simp at this ⊢; exact this
    rw [List.takeWhile_cons, h0]
    have := ih (fun j h => by have := hno (j + 1) (by simpa using h); simpa using this)
    unfold atL aheadL at this
    simp [this]
theorem contains_no (t : ByteArray) (c : UInt8) (h : ∀ j (hj : j < t.size), t[j] ≠ c) : t.data.toList.contains c = false := by
  rw [Bool.eq_false_iff]
  intro e
  rw [List.contains_iff_mem] at e
  obtain ⟨j, hj, e⟩ := List.getElem_of_mem e
  exact h j (by simpa using hj) (by rw [← e]; simp; rfl)
theorem contains_yes (t : ByteArray) (c : UInt8) (j : Nat) (hj : j < t.size) (h : t[j] = c) : t.data.toList.contains c = true := by
  rw [List.contains_iff_mem, ← h]
  have e : t.data.toList[j]'(by simpa using hj) = t[j] := by simp; rfl
  rw [← e]; exact List.getElem_mem _

set_option maxHeartbeats 2000000 in
set_option maxRecDepth 100000 in
theorem l1At (s t : ByteArray) (w : World) (hs : s.size ≤ 10000000) (ht : t.size ≤ 1000) :
    Calls Tryz.prog 78 #[.string s, .string t] w fun e w' => e = .returned (.int .i64 (atL t.data.toList s.data.toList : Nat)) ∧ Below w.heap.size w w' := by
  have hl : s.data.toList.length = s.size := by simp
  go_enter Tryz.func78, Tryz.ntmps78
  go_wp2
  go_loopw [5] (fun x wr => ∃ i : Nat, i ≤ s.size ∧ x = .int .i64 i ∧ Hid (∀ j (h : j < s.data.toList.length), j < i → t.data.toList.contains s.data.toList[j] = false) ∧ ∃ n, wr = w.drewN n) (fun x wr => s.size - (intOf x).toNat)
  case atStart => exact ⟨0, Nat.zero_le _, rfl, fun j h hj => absurd hj (by omega), 0, rfl⟩
  case round =>
    obtain ⟨i, hi, rfl, HN, n, rfl⟩ := hrel
    by_cases hp : i < s.size
    · have hpi : (i : Int) < (s.size : Int) := by omega
      go_wp2
      go_loopw [6] (fun x wr => ∃ k : Nat, k ≤ t.size ∧ x = .int .i64 k ∧ Hid (∀ j (h : j < t.size), j < k → t[j] ≠ s[i]) ∧ ∃ n, wr = w.drewN n) (fun x wr => t.size - (intOf x).toNat)
      case atStart => exact ⟨0, Nat.zero_le _, rfl, fun j h hj => absurd hj (by omega), n, rfl⟩
      case round =>
        obtain ⟨k, hk, rfl, HK, n2, rfl⟩ := hrel
        by_cases hq : k < t.size
        · have hqi : (k : Int) < (t.size : Int) := by omega
          by_cases hc : t[k] = s[i]
          · have e1 : ((s[i].toNat : Int) == (t[k].toNat : Int)) = true := by rw [hc]; simp
            have HR : Hid (atL t.data.toList s.data.toList = i) := atL_hit _ _ i (by omega) HN.out (by rw [show s.data.toList[i]'(by omega) = s[i] from by simp; rfl]; exact contains_yes t _ k hq hc)
            clear hc
            go_wp2
            go_quiet (fail)
            go_wp2
            go_ret
            exact ⟨by rw [HR.out]; rfl, below_drewN (below_drewN (Below.refl _ _) _) _⟩
          · have e1 : ((s[i].toNat : Int) == (t[k].toNat : Int)) = false := by
              rw [beq_eq_false_iff_ne]; intro h; exact hc (UInt8.toNat_inj.1 (by omega))
            have HK2 : Hid (∀ j (h : j < t.size), j < k + 1 → t[j] ≠ s[i]) := by
              intro j h hj
              by_cases hjk : j = k
              · subst hjk; exact hc
              · exact HK.out j h (by omega)
            clear hc
            go_wp2
            go_quiet (fail)
            go_wp2
            go_roundw
            case rel => exact ⟨k + 1, by omega, by go_num, HK2, _, rfl⟩
            case measure => simp [intOf]; omega
        · have hqi : ¬ ((k : Int) < (t.size : Int)) := by omega
          have HN2 : Hid (∀ j (h : j < s.data.toList.length), j < i + 1 → t.data.toList.contains s.data.toList[j] = false) := by
            intro j h hj
            by_cases hji : j = i
            · subst hji
              rw [show s.data.toList[j]'h = s[j] from by simp; rfl]
              exact contains_no t _ (fun x hx => HK.out x hx (by omega))
            · exact HN.out j h (by omega)
          go_wp2
          go_roundw
          case rel => exact ⟨i + 1, by omega, by go_num, HN2, n2, rfl⟩
          case measure => simp [intOf]; omega
    · have hpi : ¬ ((i : Int) < (s.size : Int)) := by omega
      have HR : Hid (atL t.data.toList s.data.toList = s.size) := by
        show _ = _
        rw [← hl]; exact atL_miss _ _ (fun j h => HN.out j h (by omega))
      go_wp2
      go_ret
      exact ⟨by rw [HR.out]; rfl, below_drewN (Below.refl _ _) _⟩
end Go.Proofs.YticbekooadnnlaaGreatDoor
end

section
set_option linter.unusedVariables false
set_option linter.unusedSimpArgs false
namespace Go.Proofs.YticbekooadnnlaaGreatDoor
open Go.RowKit Go.Shelf

theorem drop_snoc (l : List UInt8) (k : Nat) (hk : k < l.length) : dropT (l.take (k + 1)) = if stays l[k] = true then dropT (l.take k) ++ [l[k]] else dropT (l.take k) := by
  unfold dropT
  rw [List.take_succ_eq_append_getElem hk, List.filter_append]
  by_cases h : stays l[k] = true
  · rw [if_pos h]; simp [h]
  · rw [if_neg h]; simp [h]
def txtOf (v : Value) : ByteArray := match v with
  | .string s => s
  | _ => ⟨#[]⟩
theorem ext_from (s : ByteArray) (k : Nat) : (s.extract k s.size).data.toList = s.data.toList.drop k := by
  rw [ByteArray.data_extract, Array.toList_extract]
  rw [List.extract_eq_take_drop, List.take_of_length_le]
  rw [List.length_drop]
  show s.data.toList.length - k ≤ s.data.size - k
  simp
theorem dw_cons (s : ByteArray) (h : 0 < s.size) (hl : low32 s[0] = true) : s.data.toList.dropWhile low32 = (s.data.toList.drop 1).dropWhile low32 := by
  have hln : s.data.toList.length = s.size := by simp
  rw [show s.data.toList = s[0] :: s.data.toList.drop 1 from (by
    have := List.drop_eq_getElem_cons (l := s.data.toList) (i := 0) (by omega)
    rw [List.drop_zero] at this
    exact this)]
  rw [List.dropWhile_cons, if_pos hl]; rfl
theorem rdw_snoc (s : ByteArray) (k : Nat) (h : s.size = k + 1) (hl : low32 (s[k]'(by omega)) = true) : (s.data.toList.reverse.dropWhile low32).reverse = ((s.data.toList.take k).reverse.dropWhile low32).reverse := by
  have hln : s.data.toList.length = s.size := by simp
  have e : s.data.toList = s.data.toList.take k ++ [s[k]'(by omega)] := by
    have := List.take_succ_eq_append_getElem (l := s.data.toList) (i := k) (by omega)
    rw [List.take_of_length_le (by omega)] at this
    exact this
  conv => lhs; rw [e]
  rw [List.reverse_append, List.reverse_singleton, List.singleton_append, List.dropWhile_cons, if_pos hl]
theorem tl_size (s : ByteArray) : s.data.toList.length = s.size := by simp
theorem stays_yes (c : UInt8) (h : stays c = true) : ((c.toNat : Int) != 9) = true ∧ ((c.toNat : Int) != 10) = true ∧ ((c.toNat : Int) != 13) = true := by
  unfold stays at h
  simp at h
  have key : ∀ k : Nat, k < 256 → ¬ c = UInt8.ofNat k → ((c.toNat : Int) != (k : Int)) = true := by
    intro k hk hne
    rw [bne_iff_ne]
    intro e
    apply hne
    apply UInt8.toNat_inj.1
    rw [UInt8.toNat_ofNat']
    omega
  exact ⟨key 9 (by decide) (by intro e; exact absurd e (by first | exact h.2 | exact h.2.2)), key 10 (by decide) (by intro e; first | exact absurd e h.1.2 | exact absurd e h.2.1), key 13 (by decide) (by intro e; first | exact absurd e h.1.1 | exact absurd e h.1)⟩
theorem stays_no (c : UInt8) (h : stays c = false) : ((c.toNat : Int) != 9) = false ∨ (((c.toNat : Int) != 9) = true ∧ ((c.toNat : Int) != 10) = false) ∨ (((c.toNat : Int) != 9) = true ∧ ((c.toNat : Int) != 10) = true ∧ ((c.toNat : Int) != 13) = false) := by
  unfold stays at h
  simp at h
  by_cases a : c = 13
  · subst a; right; right; decide
  · by_cases b : c = 10
    · subst b; right; left; decide
    · rw [h a b]; left; decide
set_option maxHeartbeats 4000000 in
set_option maxRecDepth 100000 in
theorem l3Trim (s : ByteArray) (w : World) (hs : s.size ≤ 1048576) :
    Calls Tryz.prog 44 #[.string s] w fun e w' => e = .returned (.string (mk (trimL s.data.toList))) ∧ Below w.heap.size w w' := by
  go_enter Tryz.func44, Tryz.ntmps44
  go_wp2
  go_loop [0] (fun v => ∃ x : ByteArray, v = .string x ∧ x.size ≤ 1048576 ∧ Hid (s.data.toList.dropWhile low32 = x.data.toList.dropWhile low32)) (fun v => (txtOf v).size)
  case atStart => exact ⟨s, rfl, hs, rfl⟩
  case round =>
    obtain ⟨x, rfl, hx, HX⟩ := hrel
    by_cases h0 : 0 < x.size
    · have h0i : (0 : Int) < (x.size : Int) := by omega
      cases hl : low32 x[0] with
      | true =>
        have hb : (x[0].toNat : Int) ≤ 32 := by unfold low32 at hl; have := of_decide_eq_true hl; omega
        have h1i : (1 : Int) ≤ (x.size : Int) := by omega
        have hxe : (x.extract 1 x.size).size = x.size - 1 := by rw [ByteArray.size_extract]; omega
        have HX2 : Hid (s.data.toList.dropWhile low32 = (x.extract 1 x.size).data.toList.dropWhile low32) := by
          show _ = _
          rw [HX.out, ext_from, dw_cons x h0 hl]
        clear hl
        go_wp2
        go_round
        case rel => exact ⟨_, rfl, by rw [hxe]; omega, HX2⟩
        case measure => show (x.extract 1 x.size).size < x.size; rw [hxe]; omega
      | false =>
        have hb : ¬ ((x[0].toNat : Int) ≤ 32) := by unfold low32 at hl; have := of_decide_eq_false hl; omega
        have HY : Hid (s.data.toList.dropWhile low32 = x.data.toList) := by
          show _ = _
          rw [HX.out, dw_eq _ 0 (by intro c hc; simp at hc) (by
            intro c hc
            have e : x.data.toList[0]? = some x[0] := by rw [List.getElem?_eq_getElem (by simpa using h0)]; rfl
            rw [e] at hc; simp at hc; rw [← hc]; exact hl)]
          rfl
        clear hl HX
        go_wp2
        go_loop [0] (fun v => ∃ y : ByteArray, v = .string y ∧ y.size ≤ 1048576 ∧ Hid ((x.data.toList.reverse.dropWhile low32).reverse = (y.data.toList.reverse.dropWhile low32).reverse)) (fun v => (txtOf v).size)
        case atStart => exact ⟨x, rfl, hx, rfl⟩
        case round =>
          obtain ⟨y, rfl, hy, HV⟩ := hrel
          by_cases h0 : 0 < y.size
          · obtain ⟨m, hm⟩ : ∃ m, y.size = m + 1 := ⟨y.size - 1, by omega⟩
            have hmy : m < y.size := by omega
            have h0i : (0 : Int) < (y.size : Int) := by omega
            have hm1 : (y.size : Int) - 1 = (m : Int) := by omega
            have hmi : (m : Int) < (y.size : Int) := by omega
            have hm2 : (m : Int) ≤ (y.size : Int) := by omega
            cases hl : low32 y[m] with
            | true =>
              have hb : (y[m].toNat : Int) ≤ 32 := by unfold low32 at hl; have := of_decide_eq_true hl; omega
              have hye : (y.extract 0 m).size = m := by rw [ByteArray.size_extract]; omega
              have HV2 : Hid ((x.data.toList.reverse.dropWhile low32).reverse = ((y.extract 0 m).data.toList.reverse.dropWhile low32).reverse) := by
                show _ = _
                rw [HV.out, rdw_snoc y m hm hl, ext_list y 0 m (Nat.zero_le _) (by omega)]; simp
              have HM : Hid (y.size = m + 1) := hm
              clear hl hm
              go_wp2
              go_round
              case rel => exact ⟨_, rfl, by rw [hye]; omega, HV2⟩
              case measure => show (y.extract 0 m).size < y.size; rw [hye]; exact hmy
            | false =>
              have hb : ¬ ((y[m].toNat : Int) ≤ 32) := by unfold low32 at hl; have := of_decide_eq_false hl; omega
              have HZ : Hid ((x.data.toList.reverse.dropWhile low32).reverse = y.data.toList) := by
                show _ = _
                rw [HV.out, dw_rev y.data.toList (m + 1) (by simp; omega) (by intro c hc; rw [List.drop_of_length_le (by simp; omega)] at hc; cases hc) (by
                  intro j hj c hc
                  have hjm : j = m := by omega
                  subst hjm
                  rw [List.getElem?_eq_getElem (by simp; omega)] at hc; simp at hc; rw [← hc]; exact hl), List.take_of_length_le (by simp; omega)]
              clear hl hm HV
              go_wp2
              go_loopw [3, 4] (fun v i wr => ∃ k : Nat, k ≤ y.size ∧ i = .int .i64 k ∧ Hid (OwnB w.heap.size v (dropT (y.data.toList.take k)) wr) ∧ Hid (Below w.heap.size w wr)) (fun _ i wr => y.size - (intOf i).toNat)
              case atStart => exact ⟨0, Nat.zero_le _, rfl, ownB_new w _ (Nat.le_refl _), (Below.refl _ w).alloc (Nat.le_refl _) _⟩
              case round =>
                obtain ⟨k, hk, rfl, HI, HBW⟩ := hrel
                have hsz : w.heap.size ≤ wr.heap.size := HBW.out.size
                by_cases hp : k < y.size
                · have hkl : k < y.data.toList.length := by simpa using hp
                  have hki : (k : Int) < (y.size : Int) := by omega
                  have hll : (dropT (y.data.toList.take k)).length ≤ 1048576 := by
                    have h1 : (dropT (y.data.toList.take k)).length ≤ (y.data.toList.take k).length := List.length_filter_le _ _
                    have h2 : (y.data.toList.take k).length ≤ k := List.length_take_le _ _
                    omega
                  have hsn := drop_snoc y.data.toList k hkl
                  have h256 := UInt8.toNat_lt y[k]
                  cases hst : stays y[k] with
                  | true =>
                    have HT : Hid (dropT (y.data.toList.take (k + 1)) = dropT (y.data.toList.take k) ++ [y[k]]) := by show _ = _; rw [hsn, if_pos (show stays y.data.toList[k] = true from hst)]; rfl
                    obtain ⟨b1, b2, b3⟩ := stays_yes y[k] hst
                    clear hsn hst
                    go_wp2_with (at_builtin; refine wpAppendByte wr rfl _ _ rfl w.heap.size _ _ y[k] _ rfl HI.out rfl rfl (by omega) hsz ?_; intro v' w1 R b1)
                    go_roundw
                    case rel => exact ⟨k + 1, by omega, by go_num, by rw [HT.out]; exact R, HBW.out.trans b1⟩
                    case measure => simp [intOf]; omega
                  | false =>
                    have HT : Hid (dropT (y.data.toList.take (k + 1)) = dropT (y.data.toList.take k)) := by show _ = _; rw [hsn, if_neg (show ¬ stays y.data.toList[k] = true by rw [show y.data.toList[k] = y[k] from rfl, hst]; decide)]
                    have hno := stays_no y[k] hst
                    clear hsn hst
                    rcases hno with b1 | ⟨b1, b2⟩ | ⟨b1, b2, b3⟩
                    all_goals
                      go_wp2
                      go_roundw
                      case rel => exact ⟨k + 1, by omega, by go_num, by rw [HT.out]; exact HI.out, HBW.out⟩
                      case measure => simp [intOf]; omega
                · have hkk : ¬ ((k : Int) < (y.size : Int)) := by omega
                  have hI : OwnB w.heap.size _ (dropT (y.data.toList.take k)) wr := HI.out
                  rw [List.take_of_length_le (by simp; omega)] at hI
                  have htx := ownB_text hI
                  have HE : Hid (trimL s.data.toList = dropT y.data.toList) := by show _ = _; unfold trimL midL; rw [HY.out, HZ.out]
                  clear hI
                  go_wp2
                  go_ret
                  rw [HE.out]
                  exact ⟨rfl, HBW.out⟩
          · have h0i : ¬ ((0 : Int) < (y.size : Int)) := by omega
            have HZ : Hid ((x.data.toList.reverse.dropWhile low32).reverse = y.data.toList) := by
              show _ = _
              rw [HV.out, List.length_eq_zero_iff.1 (show y.data.toList.length = 0 by have h := tl_size y; omega)]; rfl
            clear HV
            go_wp2
            go_loopw [3, 4] (fun v i wr => ∃ k : Nat, k ≤ y.size ∧ i = .int .i64 k ∧ Hid (OwnB w.heap.size v (dropT (y.data.toList.take k)) wr) ∧ Hid (Below w.heap.size w wr)) (fun _ i wr => y.size - (intOf i).toNat)
            case atStart => exact ⟨0, Nat.zero_le _, rfl, ownB_new w _ (Nat.le_refl _), (Below.refl _ w).alloc (Nat.le_refl _) _⟩
            case round =>
              obtain ⟨k, hk, rfl, HI, HBW⟩ := hrel
              have hsz : w.heap.size ≤ wr.heap.size := HBW.out.size
              by_cases hp : k < y.size
              · exact absurd hp (by omega)
              · have hkk : ¬ ((k : Int) < (y.size : Int)) := by omega
                have hI : OwnB w.heap.size _ (dropT (y.data.toList.take k)) wr := HI.out
                rw [List.take_of_length_le (by simp; omega)] at hI
                have htx := ownB_text hI
                have HE : Hid (trimL s.data.toList = dropT y.data.toList) := by show _ = _; unfold trimL midL; rw [HY.out, HZ.out]
                clear hI
                go_wp2
                go_ret
                rw [HE.out]
                exact ⟨rfl, HBW.out⟩
    · have h0i : ¬ ((0 : Int) < (x.size : Int)) := by omega
      have HY : Hid (s.data.toList.dropWhile low32 = x.data.toList) := by
        show _ = _
        rw [HX.out, List.length_eq_zero_iff.1 (show x.data.toList.length = 0 by have h := tl_size x; omega)]; rfl
      clear HX
      go_wp2
      go_loop [0] (fun v => ∃ y : ByteArray, v = .string y ∧ y.size ≤ 1048576 ∧ Hid ((x.data.toList.reverse.dropWhile low32).reverse = (y.data.toList.reverse.dropWhile low32).reverse)) (fun v => (txtOf v).size)
      case atStart => exact ⟨x, rfl, hx, rfl⟩
      case round =>
        obtain ⟨y, rfl, hy, HV⟩ := hrel
        by_cases h0 : 0 < y.size
        · obtain ⟨m, hm⟩ : ∃ m, y.size = m + 1 := ⟨y.size - 1, by omega⟩
          have hmy : m < y.size := by omega
          have h0i : (0 : Int) < (y.size : Int) := by omega
          have hm1 : (y.size : Int) - 1 = (m : Int) := by omega
          have hmi : (m : Int) < (y.size : Int) := by omega
          have hm2 : (m : Int) ≤ (y.size : Int) := by omega
          cases hl : low32 y[m] with
          | true =>
            have hb : (y[m].toNat : Int) ≤ 32 := by unfold low32 at hl; have := of_decide_eq_true hl; omega
            have hye : (y.extract 0 m).size = m := by rw [ByteArray.size_extract]; omega
            have HV2 : Hid ((x.data.toList.reverse.dropWhile low32).reverse = ((y.extract 0 m).data.toList.reverse.dropWhile low32).reverse) := by
              show _ = _
              rw [HV.out, rdw_snoc y m hm hl, ext_list y 0 m (Nat.zero_le _) (by omega)]; simp
            have HM : Hid (y.size = m + 1) := hm
            clear hl hm
            go_wp2
            go_round
            case rel => exact ⟨_, rfl, by rw [hye]; omega, HV2⟩
            case measure => show (y.extract 0 m).size < y.size; rw [hye]; exact hmy
          | false =>
            have hb : ¬ ((y[m].toNat : Int) ≤ 32) := by unfold low32 at hl; have := of_decide_eq_false hl; omega
            have HZ : Hid ((x.data.toList.reverse.dropWhile low32).reverse = y.data.toList) := by
              show _ = _
              rw [HV.out, dw_rev y.data.toList (m + 1) (by simp; omega) (by intro c hc; rw [List.drop_of_length_le (by simp; omega)] at hc; cases hc) (by
                intro j hj c hc
                have hjm : j = m := by omega
                subst hjm
                rw [List.getElem?_eq_getElem (by simp; omega)] at hc; simp at hc; rw [← hc]; exact hl), List.take_of_length_le (by simp; omega)]
            clear hl hm HV
            go_wp2
            go_loopw [3, 4] (fun v i wr => ∃ k : Nat, k ≤ y.size ∧ i = .int .i64 k ∧ Hid (OwnB w.heap.size v (dropT (y.data.toList.take k)) wr) ∧ Hid (Below w.heap.size w wr)) (fun _ i wr => y.size - (intOf i).toNat)
            case atStart => exact ⟨0, Nat.zero_le _, rfl, ownB_new w _ (Nat.le_refl _), (Below.refl _ w).alloc (Nat.le_refl _) _⟩
            case round =>
              obtain ⟨k, hk, rfl, HI, HBW⟩ := hrel
              have hsz : w.heap.size ≤ wr.heap.size := HBW.out.size
              by_cases hp : k < y.size
              · have hkl : k < y.data.toList.length := by simpa using hp
                have hki : (k : Int) < (y.size : Int) := by omega
                have hll : (dropT (y.data.toList.take k)).length ≤ 1048576 := by
                  have h1 : (dropT (y.data.toList.take k)).length ≤ (y.data.toList.take k).length := List.length_filter_le _ _
                  have h2 : (y.data.toList.take k).length ≤ k := List.length_take_le _ _
                  omega
                have hsn := drop_snoc y.data.toList k hkl
                have h256 := UInt8.toNat_lt y[k]
                cases hst : stays y[k] with
                | true =>
                  have HT : Hid (dropT (y.data.toList.take (k + 1)) = dropT (y.data.toList.take k) ++ [y[k]]) := by show _ = _; rw [hsn, if_pos (show stays y.data.toList[k] = true from hst)]; rfl
                  obtain ⟨b1, b2, b3⟩ := stays_yes y[k] hst
                  clear hsn hst
                  go_wp2_with (at_builtin; refine wpAppendByte wr rfl _ _ rfl w.heap.size _ _ y[k] _ rfl HI.out rfl rfl (by omega) hsz ?_; intro v' w1 R b1)
                  go_roundw
                  case rel => exact ⟨k + 1, by omega, by go_num, by rw [HT.out]; exact R, HBW.out.trans b1⟩
                  case measure => simp [intOf]; omega
                | false =>
                  have HT : Hid (dropT (y.data.toList.take (k + 1)) = dropT (y.data.toList.take k)) := by show _ = _; rw [hsn, if_neg (show ¬ stays y.data.toList[k] = true by rw [show y.data.toList[k] = y[k] from rfl, hst]; decide)]
                  have hno := stays_no y[k] hst
                  clear hsn hst
                  rcases hno with b1 | ⟨b1, b2⟩ | ⟨b1, b2, b3⟩
                  all_goals
                    go_wp2
                    go_roundw
                    case rel => exact ⟨k + 1, by omega, by go_num, by rw [HT.out]; exact HI.out, HBW.out⟩
                    case measure => simp [intOf]; omega
              · have hkk : ¬ ((k : Int) < (y.size : Int)) := by omega
                have hI : OwnB w.heap.size _ (dropT (y.data.toList.take k)) wr := HI.out
                rw [List.take_of_length_le (by simp; omega)] at hI
                have htx := ownB_text hI
                have HE : Hid (trimL s.data.toList = dropT y.data.toList) := by show _ = _; unfold trimL midL; rw [HY.out, HZ.out]
                clear hI
                go_wp2
                go_ret
                rw [HE.out]
                exact ⟨rfl, HBW.out⟩
        · have h0i : ¬ ((0 : Int) < (y.size : Int)) := by omega
          have HZ : Hid ((x.data.toList.reverse.dropWhile low32).reverse = y.data.toList) := by
            show _ = _
            rw [HV.out, List.length_eq_zero_iff.1 (show y.data.toList.length = 0 by have h := tl_size y; omega)]; rfl
          clear HV
          go_wp2
          go_loopw [3, 4] (fun v i wr => ∃ k : Nat, k ≤ y.size ∧ i = .int .i64 k ∧ Hid (OwnB w.heap.size v (dropT (y.data.toList.take k)) wr) ∧ Hid (Below w.heap.size w wr)) (fun _ i wr => y.size - (intOf i).toNat)
          case atStart => exact ⟨0, Nat.zero_le _, rfl, ownB_new w _ (Nat.le_refl _), (Below.refl _ w).alloc (Nat.le_refl _) _⟩
          case round =>
            obtain ⟨k, hk, rfl, HI, HBW⟩ := hrel
            have hsz : w.heap.size ≤ wr.heap.size := HBW.out.size
            by_cases hp : k < y.size
            · exact absurd hp (by omega)
            · have hkk : ¬ ((k : Int) < (y.size : Int)) := by omega
              have hI : OwnB w.heap.size _ (dropT (y.data.toList.take k)) wr := HI.out
              rw [List.take_of_length_le (by simp; omega)] at hI
              have htx := ownB_text hI
              have HE : Hid (trimL s.data.toList = dropT y.data.toList) := by show _ = _; unfold trimL midL; rw [HY.out, HZ.out]
              clear hI
              go_wp2
              go_ret
              rw [HE.out]
              exact ⟨rfl, HBW.out⟩
end Go.Proofs.YticbekooadnnlaaGreatDoor
end

section
set_option linter.unusedVariables false
set_option linter.unusedSimpArgs false
namespace Go.Proofs.YticbekooadnnlaaGreatDoor
open Go.RowKit Go.Shelf

def letB (c : UInt8) : Bool := decide (97 ≤ c.toNat ∧ c.toNat ≤ 122) || decide (65 ≤ c.toNat ∧ c.toNat ≤ 90)
def morB (c : UInt8) : Bool := decide (48 ≤ c.toNat ∧ c.toNat ≤ 57) || decide (c.toNat = 43 ∨ c.toNat = 45 ∨ c.toNat = 46)
set_option maxRecDepth 100000 in
theorem small_low (c : UInt8) : smallB (lowB c) = letB c := by
  have key : ∀ n : _root_.Fin 256, smallB (lowB (UInt8.ofNat n.val)) = letB (UInt8.ofNat n.val) := by decide
  have := key ⟨c.toNat, c.toNat_lt⟩
  simpa using this
set_option maxRecDepth 100000 in
theorem sch_low (c : UInt8) : schB (lowB c) = (letB c || morB c) := by
  have key : ∀ n : _root_.Fin 256, schB (lowB (UInt8.ofNat n.val)) = (letB (UInt8.ofNat n.val) || morB (UInt8.ofNat n.val)) := by decide
  have := key ⟨c.toNat, c.toNat_lt⟩
  simpa using this
/-- A byte that may stand at a place of a scheme. -/
def okAt (j : Nat) (c : UInt8) : Bool := letB c || (decide (0 < j) && morB c)
theorem ok_not_colon (j : Nat) (c : UInt8) (h : okAt j c = true) : among [58] c = false := by
  rw [among_one]
  cases hc : c == 58 with
  | false => rfl
  | true =>
    have : c = 58 := by simpa using hc
    subst this
    unfold okAt letB morB at h
    simp at h
/-- What l3Scheme answers. -/
def sch3 (l : List UInt8) : Option (List UInt8 × List UInt8) := if passB [58] (l.drop (upL [58] l).length) = true ∧ schL (low (upL [58] l)) = true then some (low (upL [58] l), l.drop ((upL [58] l).length + 1)) else none
theorem low_get (l : List UInt8) (j : Nat) (h : j < (low l).length) : (low l)[j] = lowB (l[j]'(by rw [low_length] at h; exact h)) := by
  simp only [low, List.getElem_map]
theorem sch_hit (l : List UInt8) (k : Nat) (hk : k < l.length) (h0 : 0 < k) (hc : l[k] = 58) (h : ∀ j (hj : j < l.length), j < k → okAt j l[j] = true) : sch3 l = some (low (l.take k), l.drop (k + 1)) := by
  have hu : upL [58] l = l.take k := by
    apply up_stop
    · intro c hc'
      obtain ⟨j, hj, rfl⟩ := List.mem_iff_getElem.1 hc'
      rw [List.length_take] at hj
      rw [List.getElem_take]
      exact ok_not_colon j _ (h j (by omega) (by omega))
    · intro c hc'
      rw [List.getElem?_eq_getElem hk, hc] at hc'
      simp at hc'; rw [← hc']; decide
  have hl : (l.take k).length = k := by rw [List.length_take]; omega
  unfold sch3
  rw [hu, hl, if_pos]
  refine ⟨?_, ?_⟩
  · rw [List.drop_eq_getElem_cons hk, hc]; rfl
  · apply schL_yes
    · rw [low_length, hl]; exact h0
    · intro j hj
      have hj' : j < k := by rw [low_length, hl] at hj; exact hj
      rw [low_get, small_low, sch_low, List.getElem_take]
      have := h j (by omega) hj'
      unfold okAt at this
      rcases Bool.or_eq_true _ _ ▸ this with e | e
      · exact .inl e
      · rw [Bool.and_eq_true] at e
        exact .inr ⟨of_decide_eq_true e.1, by rw [e.2, Bool.or_true]⟩
theorem sch_bad (l : List UInt8) (k : Nat) (hk : k < l.length) (hb : okAt k l[k] = false) (hc : l[k] ≠ 58 ∨ k = 0) (h : ∀ j (hj : j < l.length), j < k → okAt j l[j] = true) : sch3 l = none := by
  unfold sch3
  rw [if_neg]
  rintro ⟨_, hs⟩
  by_cases h58 : l[k] = 58
  · have h0 : k = 0 := by rcases hc with e | e; exact absurd h58 e; exact e
    subst h0
    have hu : upL [58] l = [] := by
      have := up_stop [58] l 0 (by intro c hc'; simp at hc') (by intro c hc'; rw [List.getElem?_eq_getElem hk, h58] at hc'; simp at hc'; rw [← hc']; decide)
      simpa using this
    rw [hu] at hs
    cases hs
  · have hlen : k < (upL [58] l).length := by
      rcases up_cases [58] l with ⟨e, _⟩ | ⟨a, c, b, e, hu, hc', ha⟩
      · rw [e]; exact hk
      · rw [hu]
        rcases Nat.lt_or_ge k a.length with hlt | hge
        · exact hlt
        · exfalso
          have hcc : c = 58 := by rw [among_one] at hc'; simpa using hc'
          have hac : a.length < l.length := by rw [e]; simp
          have hla : l[a.length] = 58 := by
            have : l[a.length]? = some 58 := by rw [e, List.getElem?_append_right (Nat.le_refl _), hcc]; simp
            rw [List.getElem?_eq_getElem hac] at this; simpa using this
          rcases Nat.lt_or_ge a.length k with hlt | hge2
          · have := ok_not_colon _ _ (h a.length hac hlt)
            rw [hla] at this
            exact absurd this (by decide)
          · have : k = a.length := by omega
            subst this
            exact h58 hla
    have hget : (upL [58] l)[k] = l[k] := by
      have hp : upL [58] l <+: l := by unfold upL; exact List.takeWhile_prefix _
      exact List.IsPrefix.getElem hp hlen
    have hkl : k < (low (upL [58] l)).length := by rw [low_length]; exact hlen
    unfold okAt at hb
    rw [Bool.or_eq_false_iff] at hb
    by_cases h0 : k = 0
    · subst h0
      have := schL_first (low (upL [58] l)) hkl (by rw [low_get, small_low, hget]; exact hb.1)
      rw [this] at hs; cases hs
    · have hm : morB l[k] = false := by
        have := hb.2
        rw [decide_eq_true (show 0 < k by omega), Bool.true_and] at this
        exact this
      have := schL_byte (low (upL [58] l)) k hkl (by omega) (by rw [low_get, sch_low, hget, hb.1, hm]; rfl)
      rw [this] at hs; cases hs
theorem sch_end (l : List UInt8) (h : ∀ j (hj : j < l.length), okAt j l[j] = true) : sch3 l = none := by
  unfold sch3
  rw [if_neg]
  rintro ⟨hp, _⟩
  have : upL [58] l = l := up_all [58] l (by
    intro c hc
    obtain ⟨j, hj, rfl⟩ := List.mem_iff_getElem.1 hc
    exact ok_not_colon j _ (h j hj))
  rw [this, List.drop_length] at hp
  cases hp
def sch3a (l : List UInt8) : ByteArray := match sch3 l with
  | some (a, _) => mk a
  | none => ⟨#[]⟩
def sch3b (l : List UInt8) : ByteArray := match sch3 l with
  | some (_, b) => mk b
  | none => ⟨#[]⟩
theorem slice_to (s : ByteArray) (t : Nat) (W : World) (ht : t ≤ s.size) : (Instr.slice 9 (.string s) none (some (.int .i64 (t : Int))) none).run Tryz.prog W = .ok (.string (s.extract 0 t)) W := by
  have := run_slice_string_h (P := Tryz.prog) W 9 s Tryz.underlying9 .i64 (t : Int) (by omega) (by omega)
  simpa using this
theorem slice_from (s : ByteArray) (f : Nat) (W : World) (hf : f ≤ s.size) : (Instr.slice 9 (.string s) (some (.int .i64 (f : Int))) none none).run Tryz.prog W = .ok (.string (s.extract f s.size)) W := by
  have := run_slice_string_l (P := Tryz.prog) W 9 s Tryz.underlying9 .i64 (f : Int) (by omega) (by omega)
  simpa using this
theorem sch_low1 {w W1 : World} (d : Below w.drew.heap.size w.drew W1) : Below w.heap.size w W1 := ((Below.refl _ w).drew).trans d
set_option maxHeartbeats 4000000 in
set_option maxRecDepth 100000 in
theorem l3Scheme (s : ByteArray) (w : World) (hs : s.size ≤ 1048576) :
    Calls Tryz.prog 43 #[.string s] w fun e w' => e = .returned (.tuple #[.string (sch3a s.data.toList), .string (sch3b s.data.toList), .bool (sch3 s.data.toList).isSome]) ∧ Below w.heap.size w w' := by
  have HLN : Hid (s.data.toList.length = s.size) := tl_size s
  go_enter Tryz.func43, Tryz.ntmps43
  go_wp2
  go_loop [5] (fun i => ∃ k : Nat, k ≤ s.size ∧ i = .int .i64 (k : Int) ∧ Hid (∀ j (hj : j < s.data.toList.length), j < k → okAt j s.data.toList[j] = true)) (fun i => s.size - (intOf i).toNat)
  case atStart => exact ⟨0, Nat.zero_le _, rfl, by intro j hj h; omega⟩
  case round =>
    obtain ⟨k, hk, rfl, HA⟩ := hrel
    by_cases hp : k < s.size
    · have hpi : (k : Int) < (s.size : Int) := by omega
      have hkl : k < s.data.toList.length := by have := HLN.out; omega
      have hb0 := u8_lt s[k]
      have HC : Hid (s.data.toList[k] = s[k]) := rfl
      have HGO : Hid (okAt k s[k] = true → ∀ j (hj : j < s.data.toList.length), j < k + 1 → okAt j s.data.toList[j] = true) := by
        intro h j hj hjk
        rcases Nat.lt_or_ge j k with h1 | h1
        · exact HA.out j hj h1
        · have : j = k := by omega
          subst this; exact h
      have HNO : Hid (okAt k s[k] = false → (s[k] ≠ 58 ∨ k = 0) → sch3 s.data.toList = none) := fun h1 h2 => sch_bad _ k hkl h1 h2 HA.out
      have HOK : Hid (okAt k s[k] = (letB s[k] || (decide (0 < k) && morB s[k]))) := rfl
      by_cases hlet : letB s[k] = true
      · have HG2 := HGO.out (by unfold okAt; rw [hlet]; rfl)
        have HG3 : Hid (∀ j (hj : j < s.data.toList.length), j < k + 1 → okAt j s.data.toList[j] = true) := HG2
        have hcase : ((97 : Int) ≤ (s[k].toNat : Int) ∧ (s[k].toNat : Int) ≤ 122) ∨ ((65 : Int) ≤ (s[k].toNat : Int) ∧ (s[k].toNat : Int) ≤ 90) := by
          unfold letB at hlet
          simp at hlet
          omega
        clear HG2 HGO HNO HOK hlet HC HA
        rcases hcase with ⟨h1, h2⟩ | ⟨h1, h2⟩
        all_goals
          go_wp2
          go_round
          case rel => exact ⟨k + 1, by omega, by go_num, HG3⟩
          case measure => simp [intOf]; omega
      · have hlf : letB s[k] = false := by simpa using hlet
        have hn1 : ¬ ((97 : Int) ≤ (s[k].toNat : Int) ∧ (s[k].toNat : Int) ≤ 122) := by
          intro h; unfold letB at hlf; simp at hlf; omega
        have hn2 : ¬ ((65 : Int) ≤ (s[k].toNat : Int) ∧ (s[k].toNat : Int) ≤ 90) := by
          intro h; unfold letB at hlf; simp at hlf; omega
        by_cases h58 : s[k] = 58
        · have hb : (s[k].toNat : Int) = 58 := by rw [h58]; rfl
          by_cases h0 : 0 < k
          · have h0i : (0 : Int) < (k : Int) := by omega
            have HH : Hid (sch3 s.data.toList = some (low (s.data.toList.take k), s.data.toList.drop (k + 1))) := sch_hit _ k hkl h0 h58 HA.out
            obtain ⟨X, hX⟩ : ∃ X, X = s.extract 0 k := ⟨_, rfl⟩
            obtain ⟨Y, hY⟩ : ∃ Y, Y = s.extract (k + 1) s.size := ⟨_, rfl⟩
            have hXs : X.size ≤ 1048576 := by rw [hX, ByteArray.size_extract]; omega
            have HXL : Hid (X.data.toList = s.data.toList.take k) := by show _ = _; rw [hX, ext_list s 0 k (Nat.zero_le _) hk]; simp
            have HYL : Hid (Y = mk (s.data.toList.drop (k + 1))) := by show _ = _; rw [← mk_list Y, hY, ext_from]
            have CL : Hid (∀ W, Calls Tryz.prog 77 #[.string X] W fun e w' => e = .returned (.string (mk (low X.data.toList))) ∧ Below W.heap.size W w') := fun W => specLower X W (by omega)
            have hs1 : ∀ W : World, (Instr.slice 9 (.string s) none (some (.int .i64 (k : Int))) none).run Tryz.prog W = .ok (.string X) W := fun W => by rw [hX]; exact slice_to s k W hk
            have hs2 : ∀ W : World, (Instr.slice 9 (.string s) (some (.int .i64 ((k : Int) + 1))) none none).run Tryz.prog W = .ok (.string Y) W := fun W => by rw [hY]; exact slice_from s (k + 1) W (by omega)
            have hadd : IntKind.i64.wrap ((k : Int) + 1) = (k : Int) + 1 := by rw [IntKind.wrap_i64]; omega
            clear hX hY h58 hlf hlet HGO HNO HOK HC HA
            go_wp2
            go_region_with (first
              | (go_at_call 77; refine (CL.out _).mono ?_; rintro e W1 ⟨rfl, d1⟩))
            all_goals
              have HB1 : Hid (Below w.heap.size w W1) := sch_low1 d1
              clear d1 CL hs1 hs2
              go_wp2
              refine bodyPost_ret (v := .tuple #[.string (mk (low X.data.toList)), .string Y, .bool true]) (by simp [results, Tryz.results43, go_sem]) rfl ⟨?_, HB1.out⟩
              unfold sch3a sch3b
              rw [HH.out, HXL.out, HYL.out]; rfl
          · have h0i : ¬ ((0 : Int) < (k : Int)) := by omega
            have HN : Hid (sch3 s.data.toList = none) := HNO.out (by unfold okAt; rw [hlf, decide_eq_false h0]; rfl) (.inr (by omega))
            clear h58 hlf hlet HGO HNO HOK HC HA
            go_wp2
            exact bodyPost_ret (v := .tuple #[.string ⟨#[]⟩, .string ⟨#[]⟩, .bool false]) (by simp [results, Tryz.results43, go_sem]) rfl ⟨by unfold sch3a sch3b; rw [HN.out]; rfl, Below.refl _ _⟩
        · have hb58 : ¬ ((s[k].toNat : Int) = 58) := by
            intro e; apply h58; apply UInt8.toNat_inj.1; show s[k].toNat = 58; omega
          cases hmor : morB s[k] with
          | true =>
            have hcase : ((48 : Int) ≤ (s[k].toNat : Int) ∧ (s[k].toNat : Int) ≤ 57) ∨ (s[k].toNat : Int) = 43 ∨ (s[k].toNat : Int) = 45 ∨ (s[k].toNat : Int) = 46 := by
              unfold morB at hmor; simp at hmor; omega
            by_cases h0 : 0 < k
            · have h0i : (0 : Int) < (k : Int) := by omega
              have HG3 : Hid (∀ j (hj : j < s.data.toList.length), j < k + 1 → okAt j s.data.toList[j] = true) := HGO.out (by unfold okAt; rw [hmor, decide_eq_true h0, Bool.and_self, Bool.or_true])
              clear h58 hlf hlet HGO HNO HOK HC HA hmor
              rcases hcase with ⟨h1, h2⟩ | h1 | h1 | h1
              all_goals
                go_wp2
                go_round
                case rel => exact ⟨k + 1, by omega, by go_num, HG3⟩
                case measure => simp [intOf]; omega
            · have h0i : ¬ ((0 : Int) < (k : Int)) := by omega
              have HN : Hid (sch3 s.data.toList = none) := HNO.out (by unfold okAt; rw [hlf, decide_eq_false h0]; rfl) (.inr (by omega))
              clear h58 hlf hlet HGO HNO HOK HC HA hmor
              rcases hcase with ⟨h1, h2⟩ | h1 | h1 | h1
              all_goals
                go_wp2
                exact bodyPost_ret (v := .tuple #[.string ⟨#[]⟩, .string ⟨#[]⟩, .bool false]) (by simp [results, Tryz.results43, go_sem]) rfl ⟨by unfold sch3a sch3b; rw [HN.out]; rfl, Below.refl _ _⟩
          | false =>
            have HN : Hid (sch3 s.data.toList = none) := HNO.out (by unfold okAt; rw [hlf, hmor, Bool.and_false]; rfl) (.inl h58)
            have hcase : (s[k].toNat : Int) < 43 ∨ (s[k].toNat : Int) = 44 ∨ (s[k].toNat : Int) = 47 ∨ ((59 : Int) ≤ (s[k].toNat : Int) ∧ (s[k].toNat : Int) ≤ 64) ∨ ((91 : Int) ≤ (s[k].toNat : Int) ∧ (s[k].toNat : Int) ≤ 96) ∨ (123 : Int) ≤ (s[k].toNat : Int) := by
              unfold morB at hmor; simp at hmor; omega
            have hkz : (0 : Int) < (k : Int) ∨ ¬ ((0 : Int) < (k : Int)) := by omega
            have e43 : ((s[k].toNat : Int) == 43) = false := by rw [beq_eq_false_iff_ne]; omega
            have e45 : ((s[k].toNat : Int) == 45) = false := by rw [beq_eq_false_iff_ne]; omega
            have e46 : ((s[k].toNat : Int) == 46) = false := by rw [beq_eq_false_iff_ne]; omega
            clear h58 hlf hlet HGO HNO HOK HC HA hmor
            rcases hcase with h1 | h1 | h1 | ⟨h1, h2⟩ | ⟨h1, h2⟩ | h1
            all_goals
              rcases hkz with hkz | hkz
              all_goals
                go_wp2
                exact bodyPost_ret (v := .tuple #[.string ⟨#[]⟩, .string ⟨#[]⟩, .bool false]) (by simp [results, Tryz.results43, go_sem]) rfl ⟨by unfold sch3a sch3b; rw [HN.out]; rfl, Below.refl _ _⟩
    · have hpi : ¬ ((k : Int) < (s.size : Int)) := by omega
      have HN : Hid (sch3 s.data.toList = none) := sch_end _ (fun j hj => HA.out j hj (by have := HLN.out; omega))
      clear HA
      go_wp2
      exact bodyPost_ret (v := .tuple #[.string ⟨#[]⟩, .string ⟨#[]⟩, .bool false]) (by simp [results, Tryz.results43, go_sem]) rfl ⟨by unfold sch3a sch3b; rw [HN.out]; rfl, Below.refl _ _⟩
end Go.Proofs.YticbekooadnnlaaGreatDoor
end

section
set_option linter.unusedVariables false
set_option linter.unusedSimpArgs false
namespace Go.Proofs.YticbekooadnnlaaGreatDoor
open Go.RowKit Go.Shelf

def zeroC : Array Value := #[(.string ⟨#[]⟩), (.string ⟨#[]⟩), (.string ⟨#[]⟩), (.int .i64 0), (.string ⟨#[]⟩), (.int .i64 0), (.int .i64 0), (.slice none 0 0), (.string ⟨#[]⟩), (.bool false), (.string ⟨#[]⟩), (.bool false), (.string ⟨#[]⟩)]
/-- Block w.heap.size holds an address, the next one a zero address; all that lay below is as it was. -/
structure BX (w : World) (p : P) (v : Value) (W : World) : Prop where
  make ::
  bx : Blk w.heap.size (p.cells v) 27 W
  rs : Blk (w.heap.size + 1) zeroC 27 W
  bw : Below w.heap.size w W
theorem BX.start (w : World) (p : P) (v : Value) : BX w p v ((w.alloc (.cells (p.cells v) 27)).alloc (.cells zeroC 27)) where
  bx := Blk.alloc (Blk.new w _ _) _
  rs := by
    have := Blk.new (w.alloc (.cells (p.cells v) 27)) zeroC 27
    rw [show (w.alloc (Obj.cells (p.cells v) 27)).heap.size = w.heap.size + 1 by simp] at this
    exact this
  bw := ((Below.refl _ w).alloc (Nat.le_refl _) _).alloc (by simp) _
theorem BX.later {w W W' : World} {p : P} {v : Value} (h : BX w p v W) (b : Below W.heap.size W W') : BX w p v W' :=
  ⟨h.bx.below b h.bx.lt, h.rs.below b h.rs.lt, h.bw.trans (b.mono h.bw.size)⟩
theorem BX.cells {w W : World} {q : P} {v : Value} (h : BX w q v W) :
    W.cell? ⟨w.heap.size, 0, none⟩ = some (.string q.sc) ∧ W.cell? ⟨w.heap.size, 1, none⟩ = some (.string q.us) ∧ W.cell? ⟨w.heap.size, 2, none⟩ = some (.string q.pw) ∧ W.cell? ⟨w.heap.size, 3, none⟩ = some (.int .i64 q.hk) ∧ W.cell? ⟨w.heap.size, 4, none⟩ = some (.string q.hn) ∧ W.cell? ⟨w.heap.size, 5, none⟩ = some (.int .i64 q.ha) ∧ W.cell? ⟨w.heap.size, 6, none⟩ = some (.int .i64 q.po) ∧ W.cell? ⟨w.heap.size, 7, none⟩ = some v ∧ W.cell? ⟨w.heap.size, 8, none⟩ = some (.string q.op) ∧ W.cell? ⟨w.heap.size, 9, none⟩ = some (.bool q.hq) ∧ W.cell? ⟨w.heap.size, 10, none⟩ = some (.string q.qu) ∧ W.cell? ⟨w.heap.size, 11, none⟩ = some (.bool q.hf) ∧ W.cell? ⟨w.heap.size, 12, none⟩ = some (.string q.fr) :=
  ⟨h.bx.cell 0, h.bx.cell 1, h.bx.cell 2, h.bx.cell 3, h.bx.cell 4, h.bx.cell 5, h.bx.cell 6, h.bx.cell 7, h.bx.cell 8, h.bx.cell 9, h.bx.cell 10, h.bx.cell 11, h.bx.cell 12⟩
theorem BX.zeros {w W : World} {q : P} {v : Value} (h : BX w q v W) :
    W.cell? ⟨w.heap.size + 1, 0, none⟩ = some (.string ⟨#[]⟩) ∧ W.cell? ⟨w.heap.size + 1, 1, none⟩ = some (.string ⟨#[]⟩) ∧ W.cell? ⟨w.heap.size + 1, 2, none⟩ = some (.string ⟨#[]⟩) ∧ W.cell? ⟨w.heap.size + 1, 3, none⟩ = some (.int .i64 0) ∧ W.cell? ⟨w.heap.size + 1, 4, none⟩ = some (.string ⟨#[]⟩) ∧ W.cell? ⟨w.heap.size + 1, 5, none⟩ = some (.int .i64 0) ∧ W.cell? ⟨w.heap.size + 1, 6, none⟩ = some (.int .i64 0) ∧ W.cell? ⟨w.heap.size + 1, 7, none⟩ = some (.slice none 0 0) ∧ W.cell? ⟨w.heap.size + 1, 8, none⟩ = some (.string ⟨#[]⟩) ∧ W.cell? ⟨w.heap.size + 1, 9, none⟩ = some (.bool false) ∧ W.cell? ⟨w.heap.size + 1, 10, none⟩ = some (.string ⟨#[]⟩) ∧ W.cell? ⟨w.heap.size + 1, 11, none⟩ = some (.bool false) ∧ W.cell? ⟨w.heap.size + 1, 12, none⟩ = some (.string ⟨#[]⟩) :=
  ⟨h.rs.cell 0, h.rs.cell 1, h.rs.cell 2, h.rs.cell 3, h.rs.cell 4, h.rs.cell 5, h.rs.cell 6, h.rs.cell 7, h.rs.cell 8, h.rs.cell 9, h.rs.cell 10, h.rs.cell 11, h.rs.cell 12⟩
theorem BX.free {w W : World} {q : P} {v : Value} (h : BX w q v W) :
    W.frozen? ⟨w.heap.size + 1, 0, none⟩ = false ∧ W.frozen? ⟨w.heap.size + 1, 1, none⟩ = false ∧ W.frozen? ⟨w.heap.size + 1, 2, none⟩ = false ∧ W.frozen? ⟨w.heap.size + 1, 3, none⟩ = false ∧ W.frozen? ⟨w.heap.size + 1, 4, none⟩ = false ∧ W.frozen? ⟨w.heap.size + 1, 5, none⟩ = false ∧ W.frozen? ⟨w.heap.size + 1, 6, none⟩ = false ∧ W.frozen? ⟨w.heap.size + 1, 7, none⟩ = false ∧ W.frozen? ⟨w.heap.size + 1, 8, none⟩ = false ∧ W.frozen? ⟨w.heap.size + 1, 9, none⟩ = false ∧ W.frozen? ⟨w.heap.size + 1, 10, none⟩ = false ∧ W.frozen? ⟨w.heap.size + 1, 11, none⟩ = false ∧ W.frozen? ⟨w.heap.size + 1, 12, none⟩ = false :=
  ⟨h.rs.free 0, h.rs.free 1, h.rs.free 2, h.rs.free 3, h.rs.free 4, h.rs.free 5, h.rs.free 6, h.rs.free 7, h.rs.free 8, h.rs.free 9, h.rs.free 10, h.rs.free 11, h.rs.free 12⟩
theorem BX.set {w W : World} {p q : P} {v v' : Value} (h : BX w p v W) (j : Nat) (x : Value) (e : (p.cells v).setIfInBounds j x = q.cells v') : BX w q v' (W.setCell ⟨w.heap.size, j, none⟩ x) where
  bx := by
    have := Blk.set h.bx j x
    rw [e] at this
    exact this
  rs := h.rs.other _ _ _ (by omega)
  bw := h.bw.setCell (p := ⟨w.heap.size, j, none⟩) (Nat.le_refl _) _
theorem BX.fin {w W : World} {p : P} {v : Value} (h : BX w p v W) (v0 v1 v2 v3 v4 v5 v6 v7 v8 v9 v10 v11 v12 : Value) :
    Blk (w.heap.size + 1) #[v0, v1, v2, v3, v4, v5, v6, v7, v8, v9, v10, v11, v12] 27 (((((((((((((W.setCell ⟨w.heap.size + 1, 0, none⟩ v0).setCell ⟨w.heap.size + 1, 1, none⟩ v1).setCell ⟨w.heap.size + 1, 2, none⟩ v2).setCell ⟨w.heap.size + 1, 3, none⟩ v3).setCell ⟨w.heap.size + 1, 4, none⟩ v4).setCell ⟨w.heap.size + 1, 5, none⟩ v5).setCell ⟨w.heap.size + 1, 6, none⟩ v6).setCell ⟨w.heap.size + 1, 7, none⟩ v7).setCell ⟨w.heap.size + 1, 8, none⟩ v8).setCell ⟨w.heap.size + 1, 9, none⟩ v9).setCell ⟨w.heap.size + 1, 10, none⟩ v10).setCell ⟨w.heap.size + 1, 11, none⟩ v11).setCell ⟨w.heap.size + 1, 12, none⟩ v12) ∧ Below w.heap.size w (((((((((((((W.setCell ⟨w.heap.size + 1, 0, none⟩ v0).setCell ⟨w.heap.size + 1, 1, none⟩ v1).setCell ⟨w.heap.size + 1, 2, none⟩ v2).setCell ⟨w.heap.size + 1, 3, none⟩ v3).setCell ⟨w.heap.size + 1, 4, none⟩ v4).setCell ⟨w.heap.size + 1, 5, none⟩ v5).setCell ⟨w.heap.size + 1, 6, none⟩ v6).setCell ⟨w.heap.size + 1, 7, none⟩ v7).setCell ⟨w.heap.size + 1, 8, none⟩ v8).setCell ⟨w.heap.size + 1, 9, none⟩ v9).setCell ⟨w.heap.size + 1, 10, none⟩ v10).setCell ⟨w.heap.size + 1, 11, none⟩ v11).setCell ⟨w.heap.size + 1, 12, none⟩ v12) ∧ W.grownBy (((((((((((((W.setCell ⟨w.heap.size + 1, 0, none⟩ v0).setCell ⟨w.heap.size + 1, 1, none⟩ v1).setCell ⟨w.heap.size + 1, 2, none⟩ v2).setCell ⟨w.heap.size + 1, 3, none⟩ v3).setCell ⟨w.heap.size + 1, 4, none⟩ v4).setCell ⟨w.heap.size + 1, 5, none⟩ v5).setCell ⟨w.heap.size + 1, 6, none⟩ v6).setCell ⟨w.heap.size + 1, 7, none⟩ v7).setCell ⟨w.heap.size + 1, 8, none⟩ v8).setCell ⟨w.heap.size + 1, 9, none⟩ v9).setCell ⟨w.heap.size + 1, 10, none⟩ v10).setCell ⟨w.heap.size + 1, 11, none⟩ v11).setCell ⟨w.heap.size + 1, 12, none⟩ v12) (some (w.heap.size + 1)) :=
  ⟨Blk.put13 h.rs _ _ _ _ _ _ _ _ _ _ _ _ _, below_put13 h.bw (Nat.le_succ _) _ _ _ _ _ _ _ _ _ _ _ _ _, grown13 _ _ _ _ _ _ _ _ _ _ _ _ _ _ _⟩
theorem at_up (S l : List UInt8) : atL S l = (upL S l).length := by
  rcases up_cases S l with ⟨e, h⟩ | ⟨a, c, b, e, hu, hc, ha⟩
  · rw [e]; exact atL_miss S l (fun j hj => h l[j] (List.getElem_mem hj))
  · rw [hu]
    have hal : a.length < l.length := by rw [e]; simp
    have hg : l[a.length]? = some c := by rw [e, List.getElem?_append_right (Nat.le_refl _)]; simp
    apply atL_hit S l a.length hal
    · intro j hj hlt
      have : l[j]? = some a[j] := by rw [e, List.getElem?_append_left hlt, List.getElem?_eq_getElem hlt]
      rw [List.getElem?_eq_getElem hj] at this
      simp at this
      rw [this]; exact ha a[j] (List.getElem_mem hlt)
    · rw [List.getElem?_eq_getElem hal] at hg
      simp at hg
      rw [hg]; exact hc
theorem atC (S l : List UInt8) (w : World) (hl : l.length ≤ 1000000) (hS : S.length ≤ 1000) :
    Calls Tryz.prog 78 #[.string (mk l), .string (mk S)] w fun e w' => e = .returned (.int .i64 ((upL S l).length : Int)) ∧ Below w.heap.size w w' := by
  refine (l1At (mk l) (mk S) w (by rw [mk_size]; omega) (by rw [mk_size]; exact hS)).mono ?_
  rintro e w' ⟨rfl, b⟩
  exact ⟨by rw [mk_data, mk_data, at_up], b⟩
theorem encC (set : Int) (l : List UInt8) (w : World) (hl : l.length ≤ 1000000) :
    Calls Tryz.prog 79 #[.int .i64 set, .string (mk l)] w fun e w' => e = .returned (.string (wrT set l)) ∧ Below w.heap.size w w' := specEncode set (mk l) w (by rw [mk_size]; unfold maxLen; omega)
theorem ext_takeM (l : List UInt8) (k : Nat) (hk : k ≤ l.length) : (mk l).extract 0 k = mk (l.take k) := by
  rw [← mk_list ((mk l).extract 0 k), ext_list (mk l) 0 k (Nat.zero_le _) (by rw [mk_size]; exact hk)]
  simp [mk_data]
theorem ext_dropM (l : List UInt8) (k : Nat) : (mk l).extract k (mk l).size = mk (l.drop k) := by
  rw [← mk_list ((mk l).extract k (mk l).size), ext_from, mk_data]
end Go.Proofs.YticbekooadnnlaaGreatDoor
end

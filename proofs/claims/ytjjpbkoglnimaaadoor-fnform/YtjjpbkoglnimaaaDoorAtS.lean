/- spec.l1At: the place of the first of some bytes. -/
import Derived.Test.YtjjpbkoglnimaaaDoorOwn
import Derived.Test.YtjjpbkoglnimaaaDoorFormP
import Derived.BigQuiet
import Derived.Deep.QuietTactic
import Derived.WalkSmall
set_option linter.unusedVariables false
namespace Go.Proofs.YtjjpbkoglnimaaaDoor
open Go.RowKit Go.Shelf

theorem atL_hit (any l : List UInt8) (i : Nat) (hi : i < l.length) (hno : ∀ j (h : j < l.length), j < i → any.contains l[j] = false) (hy : any.contains l[i] = true) : atL any l = i := by
  induction l generalizing i with
  | nil => simp at hi
  | cons c r ih =>
    unfold atL aheadL
    rw [List.takeWhile_cons]
    cases i with
    | zero =>
      have : notIn any c = false := by unfold notIn; simp at hy ⊢; exact hy
      rw [this]; rfl
    | succ i =>
      have h0 : notIn any c = true := by have := hno 0 (by simp) (by omega); unfold notIn; simp at this ⊢; exact this
      rw [h0]
      have := ih i (by simpa using hi) (fun j h hj => by have := hno (j + 1) (by simpa using h) (by omega); simpa using this) (by simpa using hy)
      unfold atL aheadL at this
      simp [this]
theorem atL_miss (any l : List UInt8) (hno : ∀ j (h : j < l.length), any.contains l[j] = false) : atL any l = l.length := by
  induction l with
  | nil => rfl
  | cons c r ih =>
    unfold atL aheadL
    have h0 : notIn any c = true := by have := hno 0 (by simp); unfold notIn; simp at this ⊢; exact this
    rw [List.takeWhile_cons, h0]
    have := ih (fun j h => by have := hno (j + 1) (by simpa using h); simpa using this)
    unfold atL aheadL at this
    simp [this]
theorem contains_no (t : ByteArray) (c : UInt8) (h : ∀ j (hj : j < t.size), t[j] ≠ c) : t.data.toList.contains c = false := by
  rw [Bool.eq_false_iff]
  intro e
  rw [List.contains_iff_mem] at e
  obtain ⟨j, hj, e⟩ := List.getElem_of_mem e
  exact h j (by simpa using hj) (by rw [← e]; simp; rfl)
theorem contains_yes (t : ByteArray) (c : UInt8) (j : Nat) (hj : j < t.size) (h : t[j] = c) : t.data.toList.contains c = true := by
  rw [List.contains_iff_mem, ← h]
  have e : t.data.toList[j]'(by simpa using hj) = t[j] := by simp; rfl
  rw [← e]; exact List.getElem_mem _

set_option maxHeartbeats 2000000 in
set_option maxRecDepth 100000 in
theorem l1At (s t : ByteArray) (w : World) (hs : s.size ≤ 10000000) (ht : t.size ≤ 1000) :
    Calls Tryd.prog 32 #[.string s, .string t] w fun e w' => e = .returned (.int .i64 (atL t.data.toList s.data.toList : Nat)) ∧ Below w.heap.size w w' := by
  have hl : s.data.toList.length = s.size := by simp
  go_enter Tryd.func32, Tryd.ntmps32
  go_wp2
  go_loopw [5] (fun x wr => ∃ i : Nat, i ≤ s.size ∧ x = .int .i64 i ∧ Hid (∀ j (h : j < s.data.toList.length), j < i → t.data.toList.contains s.data.toList[j] = false) ∧ ∃ n, wr = w.drewN n) (fun x wr => s.size - (intOf x).toNat)
  case atStart => exact ⟨0, Nat.zero_le _, rfl, fun j h hj => absurd hj (by omega), 0, rfl⟩
  case round =>
    obtain ⟨i, hi, rfl, HN, n, rfl⟩ := hrel
    by_cases hp : i < s.size
    · have hpi : (i : Int) < (s.size : Int) := by omega
      go_wp2
      go_loopw [6] (fun x wr => ∃ k : Nat, k ≤ t.size ∧ x = .int .i64 k ∧ Hid (∀ j (h : j < t.size), j < k → t[j] ≠ s[i]) ∧ ∃ n, wr = w.drewN n) (fun x wr => t.size - (intOf x).toNat)
      case atStart => exact ⟨0, Nat.zero_le _, rfl, fun j h hj => absurd hj (by omega), n, rfl⟩
      case round =>
        obtain ⟨k, hk, rfl, HK, n2, rfl⟩ := hrel
        by_cases hq : k < t.size
        · have hqi : (k : Int) < (t.size : Int) := by omega
          by_cases hc : t[k] = s[i]
          · have e1 : ((s[i].toNat : Int) == (t[k].toNat : Int)) = true := by rw [hc]; simp
            have HR : Hid (atL t.data.toList s.data.toList = i) := atL_hit _ _ i (by omega) HN.out (by rw [show s.data.toList[i]'(by omega) = s[i] from by simp; rfl]; exact contains_yes t _ k hq hc)
            clear hc
            go_wp2
            go_quiet (fail)
            go_wp2
            go_ret
            exact ⟨by rw [HR.out]; rfl, below_drewN (below_drewN (Below.refl _ _) _) _⟩
          · have e1 : ((s[i].toNat : Int) == (t[k].toNat : Int)) = false := by
              rw [beq_eq_false_iff_ne]; intro h; exact hc (UInt8.toNat_inj.1 (by omega))
            have HK2 : Hid (∀ j (h : j < t.size), j < k + 1 → t[j] ≠ s[i]) := by
              intro j h hj
              by_cases hjk : j = k
              · subst hjk; exact hc
              · exact HK.out j h (by omega)
            clear hc
            go_wp2
            go_quiet (fail)
            go_wp2
            go_roundw
            case rel => exact ⟨k + 1, by omega, by go_num, HK2, _, rfl⟩
            case measure => simp [intOf]; omega
        · have hqi : ¬ ((k : Int) < (t.size : Int)) := by omega
          have HN2 : Hid (∀ j (h : j < s.data.toList.length), j < i + 1 → t.data.toList.contains s.data.toList[j] = false) := by
            intro j h hj
            by_cases hji : j = i
            · subst hji
              rw [show s.data.toList[j]'h = s[j] from by simp; rfl]
              exact contains_no t _ (fun x hx => HK.out x hx (by omega))
            · exact HN.out j h (by omega)
          go_wp2
          go_roundw
          case rel => exact ⟨i + 1, by omega, by go_num, HN2, n2, rfl⟩
          case measure => simp [intOf]; omega
    · have hpi : ¬ ((i : Int) < (s.size : Int)) := by omega
      have HR : Hid (atL t.data.toList s.data.toList = s.size) := by
        show _ = _
        rw [← hl]; exact atL_miss _ _ (fun j h => HN.out j h (by omega))
      go_wp2
      go_ret
      exact ⟨by rw [HR.out]; rfl, below_drewN (Below.refl _ _) _⟩
end Go.Proofs.YtjjpbkoglnimaaaDoor

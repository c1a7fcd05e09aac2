/- impl.schemePort, spec.l3Own: the own port of a scheme. -/
import Derived.Test.YtdiloljmpcapfaaDoorCutP
import Derived.Test.YtdiloljmpcapfaaDoorOwn
set_option linter.unusedVariables false
namespace Go.Proofs.YtdiloljmpcapfaaDoor
open Go.RowKit Go.Shelf

/-- The own port of a scheme that has hosts; -1 of all others. -/
def ownZ (s : ByteArray) : Int := if s = ⟨#[104, 116, 116, 112]⟩ then 80 else if s = ⟨#[104, 116, 116, 112, 115]⟩ then 443 else -1
theorem text_ne {s : ByteArray} {l : List UInt8} (h : s ≠ mk l) : (s.toList == l) = false := by
  rw [beq_eq_false_iff_ne, ByteArray.toList_eq]
  intro e
  exact h (by rw [← e, mk_list])
set_option maxHeartbeats 1000000 in
set_option maxRecDepth 100000 in
theorem schemePort (s : ByteArray) (w : World) : Calls Tryd.prog 19 #[.string s] w fun e w' => e = .returned (.int .i64 (ownZ s)) ∧ w' = w := by
  by_cases h1 : s = ⟨#[104, 116, 116, 112]⟩
  · subst h1
    go_enter Tryd.func19, Tryd.ntmps19
    go_wp2
    go_ret
    exact ⟨rfl, rfl⟩
  by_cases h2 : s = ⟨#[104, 116, 116, 112, 115]⟩
  · subst h2
    go_enter Tryd.func19, Tryd.ntmps19
    go_wp2
    go_ret
    exact ⟨rfl, rfl⟩
  have HO : Hid (ownZ s = -1) := by show _ = _; unfold ownZ; rw [if_neg h1, if_neg h2]
  have e1 : (s.toList == [104, 116, 116, 112]) = false := text_ne h1
  have e2 : (s.toList == [104, 116, 116, 112, 115]) = false := text_ne h2
  clear h1 h2
  go_enter Tryd.func19, Tryd.ntmps19
  go_wp2
  go_ret
  exact ⟨by rw [HO.out]; rfl, rfl⟩
set_option maxHeartbeats 1000000 in
set_option maxRecDepth 100000 in
theorem l3Own (s : ByteArray) (w : World) : Calls Tryd.prog 9 #[.string s] w fun e w' => e = .returned (.int .i64 (ownZ s)) ∧ w' = w := by
  by_cases h1 : s = ⟨#[104, 116, 116, 112]⟩
  · subst h1
    go_enter Tryd.func9, Tryd.ntmps9
    go_wp2
    go_ret
    exact ⟨rfl, rfl⟩
  by_cases h2 : s = ⟨#[104, 116, 116, 112, 115]⟩
  · subst h2
    go_enter Tryd.func9, Tryd.ntmps9
    go_wp2
    go_ret
    exact ⟨rfl, rfl⟩
  have HO : Hid (ownZ s = -1) := by show _ = _; unfold ownZ; rw [if_neg h1, if_neg h2]
  have e1 : (s.toList == [104, 116, 116, 112]) = false := text_ne h1
  have e2 : (s.toList == [104, 116, 116, 112, 115]) = false := text_ne h2
  clear h1 h2
  go_enter Tryd.func9, Tryd.ntmps9
  go_wp2
  go_ret
  exact ⟨by rw [HO.out]; rfl, rfl⟩
end Go.Proofs.YtdiloljmpcapfaaDoor

/- Hosts that are only gone to safely, as the laws hand them in: one list of texts. -/
import Derived.Test.YtbogjajfbchdjaaDoorStrS
import Derived.WalkKit
import Derived.ProofKit
import Derived.OpenShut
import Derived.ShutString
import Derived.ChangeOld
import Derived.SliceStrings
import Derived.Below
set_option linter.unusedVariables false
namespace Go.Proofs.YtbogjajfbchdjaaDoor
open Go.RowKit Go.ChangeShapes Go.WideShapes Go.ChangeAt

theorem sure_fields : ∃ f0 : Field, Tryd.prog.underlying 24 = some (.struct #[f0]) ∧ f0.type = 22 ∧ f0.offset = 0 := ⟨_, Tryd.underlying24, rfl, rfl⟩
theorem sure_cells : Tryd.prog.cellsOf 24 = 1 ∧ Tryd.prog.cellsOf 22 = 1 := ⟨by kernel_rfl, by kernel_rfl⟩

set_option maxRecDepth 100000 in
theorem open_sure {H : Type} {enc : TypeId × Value → H} {W : World} {r : Reach} {b0 base : Nat} {sp : Nat → Bool} {held : Bool} {v : Value} {d : DataW H} {ps : List MemPlace} (hval : Value.okWide Tryd.prog W r b0 24 v) (hd : DataW.Trod enc Tryd.prog W base sp held 24 v d ps) :
    ∃ (a : Option Addr) (len cap : Nat) (ss : List (List UInt8)), v = .agg #[.slice a len cap] ∧ StrsOf a len ss W ∧ len ≤ maxLen ∧ ∀ s ∈ ss, s.length ≤ maxLen := by
  obtain ⟨f0, hu, t0, o0⟩ := sure_fields
  obtain ⟨n0, n1⟩ := sure_cells
  obtain ⟨cs, rfl, hsz⟩ := okWide_struct hu hval
  obtain ⟨fuel, hf⟩ := hd
  obtain ⟨xs, n, _, hx, _, hlen, hg⟩ := DataW.trod_struct hu hf
  have h0 := hg 0 f0 rfl
  rw [n0] at hsz
  obtain ⟨c0, rfl⟩ : ∃ c0, cs = #[c0] := by
    match cs, hsz with
    | ⟨[c0]⟩, _ => exact ⟨c0, rfl⟩
  obtain ⟨y0, rfl⟩ : ∃ y0, xs = [y0] := by
    match xs, hlen with
    | [y0], _ => exact ⟨y0, rfl⟩
  rw [t0, o0, n1] at h0
  have h0' : DataW.trod enc Tryd.prog W base sp held n 22 [c0] = some y0 := by simpa [Value.cells] using h0
  rcases open_strings Tryd.underlying22 Tryd.underlying9 (by kernel_rfl) h0' with ⟨hcs, _⟩ | ⟨x, l, c, zs, hcs, _, hl, hm, hz, _, hcell, hwz⟩
  · simp at hcs
    subst hcs
    exact ⟨none, 0, 0, [], rfl, ⟨rfl, .inl rfl⟩, Nat.zero_le _, fun s hs => by cases hs⟩
  · simp at hcs
    subst hcs
    refine ⟨some x, l, c, (zs.take l).map fun s => s.data.toList, rfl, ?_, Nat.le_trans hl hm, fun s hs => ?_⟩
    · exact strs_open (cap := zs.length) (by split at hz <;> omega) rfl hcell
    · obtain ⟨u, hu, rfl⟩ := List.mem_map.1 hs
      have := hwz u (List.mem_of_mem_take hu)
      simpa using this
end Go.Proofs.YtbogjajfbchdjaaDoor

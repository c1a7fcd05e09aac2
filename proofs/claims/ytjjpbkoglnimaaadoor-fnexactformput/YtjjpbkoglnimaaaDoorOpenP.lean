/- A slice of pairs of texts that came in: what it reads as. -/
import Derived.Test.YtjjpbkoglnimaaaDoorPairO
import Derived.OpenShut
import Derived.ShutString
import Derived.ChangeOld
set_option linter.unusedVariables false
namespace Go.Proofs.YtjjpbkoglnimaaaDoor
open Go.ChangeShapes Go.WideShapes Go.RowKit

theorem lpair_fields : ∃ f0 f1 : Field, Tryd.prog.underlying 62 = some (.struct #[f0, f1]) ∧ f0.type = 9 ∧ f1.type = 9 ∧ f0.offset = 0 ∧ f1.offset = 1 := ⟨_, _, Tryd.underlying62, rfl, rfl, rfl, rfl⟩
theorem lpair_cells : Tryd.prog.cellsOf 62 = 2 ∧ Tryd.prog.cellsOf 9 = 1 := ⟨by kernel_rfl, by kernel_rfl⟩

set_option maxRecDepth 100000 in
theorem open_lpair {H : Type} {enc : TypeId × Value → H} {W : World} {base : Nat} {sp : Nat → Bool} {held : Bool} {fuel : Nat} {cs : List Value} {x : DataW H × List MemPlace} (hd : DataW.trod enc Tryd.prog W base sp held fuel 62 cs = some x) :
    ∃ s0 s1 : ByteArray, cs = [.string s0, .string s1] ∧ s0.size ≤ maxLen ∧ s1.size ≤ maxLen := by
  obtain ⟨f0, f1, hu, t0, t1, o0, o1⟩ := lpair_fields
  obtain ⟨n2, n1⟩ := lpair_cells
  obtain ⟨xs, n, _, rfl, hl, hlen, hf⟩ := DataW.trod_struct hu hd
  rw [n2] at hl
  match cs, hl with
  | [c0, c1], _ =>
    have h0 := hf 0 f0 rfl
    have h1 := hf 1 f1 rfl
    rw [t0, o0, n1] at h0
    rw [t1, o1, n1] at h1
    match xs, hlen with
    | [y0, y1], _ =>
      obtain ⟨s0, e0, _, w0⟩ := DataW.trod_string Tryd.underlying9 h0
      obtain ⟨s1, e1, _, w1⟩ := DataW.trod_string Tryd.underlying9 h1
      simp at e0 e1
      exact ⟨s0, s1, by rw [e0, e1], w0, w1⟩

theorem open_lpairs {H : Type} {enc : TypeId × Value → H} {W : World} {base : Nat} {sp : Nat → Bool} {held : Bool} {fuel : Nat} {a : Option Addr} {len cap : Nat} {x : DataW H × List MemPlace} (hd : DataW.trod enc Tryd.prog W base sp held fuel 32 [.slice a len cap] = some x) :
    ∃ ps : List PairL, PairsOf a len ps W ∧ len ≤ maxLen ∧ ∀ p ∈ ps, p.1.length ≤ maxLen ∧ p.2.length ≤ maxLen := by
  obtain ⟨n2, n1⟩ := lpair_cells
  rcases DataW.trod_slice Tryd.underlying32 hd with ⟨hcs, _⟩ | ⟨ad, l, c, elems, rest, n, _, hcs, _, hb, hl, hm, hlen, hel, _, _⟩
  · simp at hcs
    obtain ⟨rfl, rfl, rfl⟩ := hcs
    exact ⟨[], ⟨rfl, .inl rfl⟩, Nat.zero_le _, fun p hp => by cases hp⟩
  · simp at hcs
    obtain ⟨rfl, rfl, rfl⟩ := hcs
    have key : ∀ i, ∃ p : PairL, i < len → (W.cell? ((ad.add (i * 2)).add 0) = some (.string (mk p.1)) ∧ W.cell? ((ad.add (i * 2)).add 1) = some (.string (mk p.2))) ∧ p.1.length ≤ maxLen ∧ p.2.length ≤ maxLen := by
      intro i
      by_cases hi : i < len
      · have h1 := hel i hi
        rw [List.getElem?_eq_getElem (by omega), Option.bind_eq_some_iff, n2] at h1
        obtain ⟨cs, hcs, hy⟩ := h1
        obtain ⟨s0, s1, rfl, w0, w1⟩ := open_lpair hy
        obtain ⟨_, _, hc⟩ := World.cells?_some hcs
        have c0 := hc 0 (by decide)
        have c1 := hc 1 (by decide)
        refine ⟨(s0.data.toList, s1.data.toList), fun _ => ⟨⟨?_, ?_⟩, by simpa using w0, by simpa using w1⟩⟩
        · rw [mk_list]; exact c0
        · rw [mk_list]; exact c1
      · exact ⟨([], []), fun h => absurd h hi⟩
    obtain ⟨f, hf⟩ : ∃ f : Nat → PairL, ∀ i, i < len → (W.cell? ((ad.add (i * 2)).add 0) = some (.string (mk (f i).1)) ∧ W.cell? ((ad.add (i * 2)).add 1) = some (.string (mk (f i).2))) ∧ (f i).1.length ≤ maxLen ∧ (f i).2.length ≤ maxLen := ⟨fun i => Classical.choose (key i), fun i => Classical.choose_spec (key i)⟩
    clear key
    refine ⟨(List.range len).map f, ⟨by simp, ?_⟩, Nat.le_trans hl hm, ?_⟩
    · by_cases h0 : len = 0
      · left; subst h0; rfl
      · right
        obtain ⟨b, off, spot⟩ := ad
        have hk := (hf 0 (by omega)).1.1
        have hsp : spot = none := by simpa [Addr.add] using World.cell?_spot hk
        subst hsp
        refine ⟨b, off, rfl, fun j hj => ?_⟩
        have hj' : j < len := by simpa using hj
        have hk := (hf j hj').1
        rw [addr_add_at, addr_add_at, addr_add_at] at hk
        simp only [List.getElem_map, List.getElem_range]
        exact hk
    · intro p hp
      obtain ⟨i, hi, rfl⟩ := List.mem_map.1 hp
      have hi' : i < len := by simpa using hi
      exact (hf i hi').2
end Go.Proofs.YtjjpbkoglnimaaaDoor

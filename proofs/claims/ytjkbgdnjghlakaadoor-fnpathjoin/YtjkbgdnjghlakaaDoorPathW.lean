/- What the laws on paths call: PathGet of impl and spec, as lists of texts; a world that goes on. -/
import Derived.Test.YtjkbgdnjghlakaaDoorWalkS
import Derived.Test.YtjkbgdnjghlakaaDoorPathQ
import Derived.Test.YtjkbgdnjghlakaaDoorDrPath
import Derived.Test.YtjkbgdnjghlakaaDoorStrG
set_option linter.unusedVariables false
namespace Go.Proofs.YtjkbgdnjghlakaaDoor
open Go.RowKit Go.Shelf

/-- A world behind w that has w's blocks, and what MaxLen is. -/
def On (m : Int) (w W : World) : Prop := Below w.heap.size w W ∧ W.cell? ⟨0, 0, none⟩ = some (.int .i64 m)
theorem On.step {m : Int} {w W W' : World} (h : On m w W) (b : Below W.heap.size W W') : On m w W' :=
  ⟨h.1.trans (b.mono h.1.size), cell_kept b h.2 (cell_in h.2)⟩
theorem On.drawn {m : Int} {w W : World} (h : On m w W) (n : Nat) : On m w (W.drewN n) := ⟨below_drewN h.1 n, h.2⟩

theorem getI (x : ByteArray) (ps : List (List UInt8)) (h : pathL x.data.toList = ps) (hx : x.size ≤ 1000) (m : Int) : Hid (∀ w W, On m w W → Calls Tryd.prog 8 #[.string x] W fun e w' => ∃ a c, e = .returned (.slice a ps.length c) ∧ ps.length ≤ c ∧ StrsOf a ps.length ps w' ∧ Below W.heap.size W w') := by
  intro w W hW
  refine (implPathGet x m W (by omega) hW.2).mono ?_
  rintro e w' ⟨v, rfl, hO, b⟩
  rw [h] at hO
  obtain ⟨a, c, rfl, hc, hS⟩ := hO.strs
  exact ⟨a, c, rfl, hc, hS, b⟩
theorem getS (x : ByteArray) (ps : List (List UInt8)) (h : pathL x.data.toList = ps) (hx : x.size ≤ 1000) : Hid (∀ W, Calls Tryd.prog 10 #[.string x] W fun e w' => ∃ a c, e = .returned (.slice a ps.length c) ∧ ps.length ≤ c ∧ StrsOf a ps.length ps w' ∧ Below W.heap.size W w') := by
  intro W
  refine (specPathGet x W (by omega)).mono ?_
  rintro e w' ⟨v, rfl, hO, b⟩
  rw [h] at hO
  obtain ⟨a, c, rfl, hc, hS⟩ := hO.strs
  exact ⟨a, c, rfl, hc, hS, b⟩
theorem pathL_len (l : List UInt8) : (pathL l).length ≤ 201 := by
  unfold pathL
  split
  · have h1 := walkL_len (piecesL l) []
    have h2 := piecesL_len l
    simp at h1; omega
  · simp
theorem app_list (s : ByteArray) (A : Array UInt8) : (s ++ ⟨A⟩).data.toList = s.data.toList ++ A.toList := by simp
end Go.Proofs.YtjkbgdnjghlakaaDoor

/- What the laws on queries call: FormGet of impl and spec, as lists of pairs; a world that goes on. -/
import Derived.Test.YtjjpbkoglnimaaaDoorFormGI
import Derived.Test.YtjjpbkoglnimaaaDoorFormGS
import Derived.Test.YtjjpbkoglnimaaaDoorPairG
import Derived.Test.YtjjpbkoglnimaaaDoorPairA
import Derived.Test.YtjjpbkoglnimaaaDoorDrForm
set_option linter.unusedVariables false
namespace Go.Proofs.YtjjpbkoglnimaaaDoor
open Go.RowKit Go.Shelf

def On (m : Int) (w W : World) : Prop := Below w.heap.size w W ∧ W.cell? ⟨0, 0, none⟩ = some (.int .i64 m)
theorem On.step {m : Int} {w W W' : World} (h : On m w W) (b : Below W.heap.size W W') : On m w W' :=
  ⟨h.1.trans (b.mono h.1.size), cell_keep b h.2 (cell_in h.2)⟩
theorem On.drawn {m : Int} {w W : World} (h : On m w W) (n : Nat) : On m w (W.drewN n) := ⟨below_drewN h.1 n, h.2⟩

theorem formI (x : ByteArray) (ps : List PairL) (h : formL x.data.toList = ps) (hx : x.size ≤ 1000) (m : Int) : Hid (∀ w W, On m w W → Calls Tryd.prog 11 #[.string x] W fun e w' => ∃ a c, e = .returned (.slice a ps.length c) ∧ ps.length ≤ c ∧ PairsOf a ps.length ps w' ∧ Below W.heap.size W w') := by
  intro w W hW
  refine (implFormGet x m W (by omega) hW.2).mono ?_
  rintro e w' ⟨v, rfl, hO, b⟩
  rw [h] at hO
  obtain ⟨a, c, rfl, hc, hS⟩ := hO.pairs
  exact ⟨a, c, rfl, hc, hS, b⟩
theorem formS (x : ByteArray) (ps : List PairL) (h : formL x.data.toList = ps) (hx : x.size ≤ 1000) : Hid (∀ W, Calls Tryd.prog 13 #[.string x] W fun e w' => ∃ a c, e = .returned (.slice a ps.length c) ∧ ps.length ≤ c ∧ PairsOf a ps.length ps w' ∧ Below W.heap.size W w') := by
  intro W
  refine (specFormGet x W (by omega)).mono ?_
  rintro e w' ⟨v, rfl, hO, b⟩
  rw [h] at hO
  obtain ⟨a, c, rfl, hc, hS⟩ := hO.pairs
  exact ⟨a, c, rfl, hc, hS, b⟩
theorem Code.later {B : Nat} {w w' : World} {a : Option Addr} {len cap : Nat} (h : Code B w a len cap) (hb : Below B w w') : Code B w' a len cap := by
  obtain ⟨h1, h2, h3⟩ := h
  refine ⟨h1, h2, ?_⟩
  rcases h3 with h3 | ⟨b, off, ha, hB, z, hc⟩
  · exact .inl h3
  · exact .inr ⟨b, off, ha, hB, z, fun i hi => ⟨cell_keep hb (hc i hi).1 hB, (hc i hi).2⟩⟩
theorem cutL_two (b : UInt8) (l t : List UInt8) : cutL b (l ++ b :: t) = cutL b l ++ cutL b t := by
  induction l with
  | nil => rw [List.nil_append, cutL_b]; rfl
  | cons x r ih =>
    by_cases h : x = b
    · subst h; rw [List.cons_append, cutL_b, cutL_b, ih]; rfl
    · obtain ⟨p, ps, hp⟩ : ∃ p ps, cutL b r = p :: ps := by
        match hh : cutL b r with
        | [] => exact absurd hh (cutL_ne b r)
        | p :: ps => exact ⟨p, ps, rfl⟩
      rw [List.cons_append, cutL_c b x r p ps h hp, cutL_c b x (r ++ b :: t) p (ps ++ cutL b t) h (by rw [ih, hp]; rfl)]; rfl
theorem formG_app (a b : List (List UInt8)) : formG (a ++ b) = formG a ++ formG b := by simp [formG]
theorem formL_two (a b : List UInt8) (h : a.length + b.length + 1 ≤ 600) : formL (a ++ 38 :: b) = formL a ++ formL b := by
  rw [formL_small _ (by simp; omega), formL_small _ (by omega), formL_small _ (by omega), cutL_two, formG_app]
end Go.Proofs.YtjjpbkoglnimaaaDoor

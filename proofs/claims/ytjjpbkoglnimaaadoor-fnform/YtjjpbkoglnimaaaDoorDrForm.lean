/- spec.DrawFormGet draws a text of at most 11 bytes. -/
import Derived.Test.YtjjpbkoglnimaaaDoorL11
set_option linter.unusedVariables false
namespace Go.Proofs.YtjjpbkoglnimaaaDoor
open Go.RowKit Go.Shelf

def formsL : List ByteArray := [⟨#[97, 61, 98, 38, 99, 61, 100]⟩, ⟨#[97]⟩, ⟨#[61]⟩, ⟨#[38, 38]⟩, ⟨#[97, 61, 98, 61, 99]⟩, ⟨#[97, 43, 98, 61, 37, 50, 48]⟩, ⟨#[120, 61, 49, 38, 120, 61, 50]⟩, ⟨#[]⟩]
theorem formsL_size (x : ByteArray) (h : x ∈ formsL) : x.size ≤ 7 := by
  simp only [formsL, List.mem_cons, List.not_mem_nil, or_false] at h
  rcases h with rfl | rfl | rfl | rfl | rfl | rfl | rfl | rfl <;> decide
theorem rd_alloc' {B r p : Nat} {w : World} (h : Rd B r p w) (o : Obj) : Rd B r p (w.alloc o) :=
  h.stays (Lib.alloc_old w o r h.lt) (fun k hk => Lib.alloc_old w o k (by have := h.1; have := h.lt; omega))

set_option maxHeartbeats 1000000 in
set_option maxRecDepth 100000 in
theorem drawFormGet (B : Nat) (a : Option Addr) (len cap : Nat) (w : World) (hB : B ≤ w.heap.size) (h : Code B w a len cap) :
    Calls Tryd.prog 12 #[.slice a len cap] w fun e w' => ∃ x : ByteArray, e = .returned (.string x) ∧ x.size ≤ 11 ∧ Below w.heap.size w w' := by
  go_enter Tryd.func12, Tryd.ntmps12
  go_wp2_with fail
  refine (l1Open B a len cap _ hB h).mono ?_
  rintro e w1 ⟨rfl, hr, b1⟩
  go_wp2_with fail
  refine (pick B w.heap.size 0 2 _ (by decide) (by decide) (by decide) hr).mono ?_
  rintro e w2 ⟨v, rfl, hv0, hv1, hr2, hg2⟩
  have hb2 : Below w.heap.size w w2 := b1.trans (below_grown hg2 (Nat.le_refl _) b1.size)
  have hl2 := hr2.lt
  by_cases hv : v = 0
  · subst hv
    go_wp2_with fail
    refine (rdOf B w.heap.size 1 w2.heap.size 8 formsL 9 (0, 0) _ _ rfl (heap_alloc_new w2 _) (by omega) (by simp [formsL]) (by simp [formsL]) (by decide) (rd_alloc' hr2 _)).mono ?_
    rintro e w3 ⟨y, hy, rfl, hr3, hg3⟩
    have hys := formsL_size y hy
    go_wp2
    go_ret
    exact ⟨y, rfl, by omega, (hb2.alloc hb2.size _).trans (below_grown hg3 (Nat.le_refl _) (by have := hb2.size; simp; omega))⟩
  · have hvb : (v == 0) = false := by rw [beq_eq_false_iff_ne]; exact hv
    go_wp2_with fail
    refine (pick B w.heap.size 1 12 _ (by decide) (by decide) (by decide) hr2).mono ?_
    rintro e w3 ⟨u, rfl, hu0, hu1, hr3, hg3⟩
    have hb3 : Below w.heap.size w w3 := hb2.trans (below_grown hg3 (Nat.le_refl _) hb2.size)
    go_wp2_with fail
    refine (l11BytesI B w.heap.size 2 u _ hu0 (by omega) (by decide) hr3).mono ?_
    rintro e w4 ⟨l, rfl, hl, hr4, hg4⟩
    go_wp2
    go_ret
    exact ⟨_, rfl, by show l.toArray.size ≤ 11; simp; omega, hb3.trans (below_grown hg4 (Nat.le_refl _) hb3.size)⟩
end Go.Proofs.YtjjpbkoglnimaaaDoor

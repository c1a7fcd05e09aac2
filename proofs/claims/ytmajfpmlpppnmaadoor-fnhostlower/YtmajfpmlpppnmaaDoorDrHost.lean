/- spec.DrawHostGet draws a text of at most 10 bytes. -/
import Derived.Test.YtmajfpmlpppnmaaDoorL11
set_option linter.unusedVariables false
namespace Go.Proofs.YtmajfpmlpppnmaaDoor
open Go.RowKit Go.Shelf

def hostsL : List ByteArray := [⟨#[97, 46, 99, 111, 109]⟩, ⟨#[98, 46, 97, 46, 99, 111, 109]⟩, ⟨#[65, 46, 67, 111, 109]⟩, ⟨#[120]⟩, ⟨#[49, 46, 50, 46, 51, 46, 52]⟩, ⟨#[48, 120, 55, 102, 46, 49]⟩, ⟨#[49, 48, 46, 48]⟩, ⟨#[48, 49, 55, 46, 49]⟩, ⟨#[50, 53, 54, 46, 49]⟩, ⟨#[49, 46, 50, 46, 51, 46, 52, 46, 53]⟩, ⟨#[97, 95, 98, 45, 99, 46, 100]⟩, ⟨#[97, 46, 46, 98]⟩, ⟨#[]⟩, ⟨#[97, 46, 99, 111, 109, 46]⟩, ⟨#[52, 50, 57, 52, 57, 54, 55, 50, 57, 53]⟩, ⟨#[52, 50, 57, 52, 57, 54, 55, 50, 57, 54]⟩, ⟨#[97, 46, 48, 120, 49]⟩, ⟨#[37, 54, 49, 46, 99, 111, 109]⟩, ⟨#[97, 32, 98]⟩, ⟨#[49, 46, 50, 46, 51, 46]⟩, ⟨#[46]⟩, ⟨#[97, 46, 49, 120]⟩]
theorem hostsL_size (x : ByteArray) (h : x ∈ hostsL) : x.size ≤ 10 := by
  simp only [hostsL, List.mem_cons, List.not_mem_nil, or_false] at h
  rcases h with rfl | rfl | rfl | rfl | rfl | rfl | rfl | rfl | rfl | rfl | rfl | rfl | rfl | rfl | rfl | rfl | rfl | rfl | rfl | rfl | rfl | rfl <;> decide
theorem rd_more {B r p : Nat} {w : World} (h : Rd B r p w) (o : Obj) : Rd B r p (w.alloc o) :=
  h.stays (Lib.alloc_old w o r h.lt) (fun k hk => Lib.alloc_old w o k (by have := h.1; have := h.lt; omega))

set_option maxHeartbeats 1000000 in
set_option maxRecDepth 100000 in
theorem l11Host (B r p : Nat) (w : World) (hp : p ≤ 100000) (h : Rd B r p w) :
    Calls Tryd.prog 38 #[.pointer (some ⟨r, 0, none⟩)] w fun e w' => ∃ x : ByteArray, x ∈ hostsL ∧ e = .returned (.string x) ∧ Rd B r (p + 1) w' ∧ w.grownBy w' (some r) := by
  have hrl := h.lt
  go_enter Tryd.func38, Tryd.ntmps38
  go_wp2_with fail
  refine (rdOf B r p w.heap.size 22 hostsL 9 (0, 0) _ _ rfl (heap_alloc_new w _) (by omega) (by simp [hostsL]) (by simp [hostsL]) (by omega) (rd_more h _)).mono ?_
  rintro e w2 ⟨y, hy, rfl, hr2, hg2⟩
  go_wp2
  go_ret
  exact ⟨y, hy, rfl, hr2, grown_trans (World.grownBy_alloc w _ _) hg2⟩

set_option maxHeartbeats 1000000 in
set_option maxRecDepth 100000 in
theorem drawHostGet (B : Nat) (a : Option Addr) (len cap : Nat) (w : World) (hB : B ≤ w.heap.size) (h : Code B w a len cap) :
    Calls Tryd.prog 15 #[.slice a len cap] w fun e w' => ∃ x : ByteArray, e = .returned (.string x) ∧ x.size ≤ 10 ∧ Below w.heap.size w w' := by
  go_enter Tryd.func15, Tryd.ntmps15
  go_wp2_with fail
  refine (l1Open B a len cap _ hB h).mono ?_
  rintro e w1 ⟨rfl, hr, b1⟩
  go_wp2_with fail
  refine (pick B w.heap.size 0 5 _ (by decide) (by decide) (by decide) hr).mono ?_
  rintro e w2 ⟨v, rfl, hv0, hv1, hr2, hg2⟩
  have hb2 : Below w.heap.size w w2 := b1.trans (below_grown hg2 (Nat.le_refl _) b1.size)
  by_cases hv : v = 0
  · subst hv
    go_wp2_with fail
    refine (pick B w.heap.size 1 6 _ (by decide) (by decide) (by decide) hr2).mono ?_
    rintro e w3 ⟨u, rfl, hu0, hu1, hr3, hg3⟩
    have hb3 : Below w.heap.size w w3 := hb2.trans (below_grown hg3 (Nat.le_refl _) hb2.size)
    go_wp2_with fail
    refine (l11BytesI B w.heap.size 2 u _ hu0 (by omega) (by decide) hr3).mono ?_
    rintro e w4 ⟨l, rfl, hl, hr4, hg4⟩
    go_wp2
    go_ret
    exact ⟨_, rfl, by show l.toArray.size ≤ 10; simp; omega, hb3.trans (below_grown hg4 (Nat.le_refl _) hb3.size)⟩
  · have hvb : (v == 0) = false := by rw [beq_eq_false_iff_ne]; exact hv
    go_wp2_with fail
    refine (l11Host B w.heap.size 1 _ (by decide) hr2).mono ?_
    rintro e w3 ⟨y, hy, rfl, hr3, hg3⟩
    have hys := hostsL_size y hy
    go_wp2
    go_ret
    exact ⟨y, rfl, hys, hb2.trans (below_grown hg3 (Nat.le_refl _) hb2.size)⟩
end Go.Proofs.YtmajfpmlpppnmaaDoor

/- spec.l11Host draws one of a few texts. -/
import Derived.Test.YtnmbflljldhjmaaDoorOfS
import Derived.Test.YtnmbflljldhjmaaDoorRdB
set_option linter.unusedVariables false
namespace Go.Proofs.YtnmbflljldhjmaaDoor
open Go.RowKit Go.Shelf

def hostsL : List ByteArray := [⟨#[97, 46, 99, 111, 109]⟩, ⟨#[98, 46, 97, 46, 99, 111, 109]⟩, ⟨#[65, 46, 67, 111, 109]⟩, ⟨#[120]⟩, ⟨#[49, 46, 50, 46, 51, 46, 52]⟩, ⟨#[48, 120, 55, 102, 46, 49]⟩, ⟨#[49, 48, 46, 48]⟩, ⟨#[48, 49, 55, 46, 49]⟩, ⟨#[50, 53, 54, 46, 49]⟩, ⟨#[49, 46, 50, 46, 51, 46, 52, 46, 53]⟩, ⟨#[97, 95, 98, 45, 99, 46, 100]⟩, ⟨#[97, 46, 46, 98]⟩, ⟨#[]⟩, ⟨#[97, 46, 99, 111, 109, 46]⟩, ⟨#[52, 50, 57, 52, 57, 54, 55, 50, 57, 53]⟩, ⟨#[52, 50, 57, 52, 57, 54, 55, 50, 57, 54]⟩, ⟨#[97, 46, 48, 120, 49]⟩, ⟨#[37, 54, 49, 46, 99, 111, 109]⟩, ⟨#[97, 32, 98]⟩, ⟨#[49, 46, 50, 46, 51, 46]⟩, ⟨#[46]⟩, ⟨#[97, 46, 49, 120]⟩]
theorem hostsL_size (x : ByteArray) (h : x ∈ hostsL) : x.size ≤ 10 := by
  simp only [hostsL, List.mem_cons, List.not_mem_nil, or_false] at h
  rcases h with rfl | rfl | rfl | rfl | rfl | rfl | rfl | rfl | rfl | rfl | rfl | rfl | rfl | rfl | rfl | rfl | rfl | rfl | rfl | rfl | rfl | rfl <;> decide
theorem rd_more {B r p : Nat} {w : World} (h : Rd B r p w) (o : Obj) : Rd B r p (w.alloc o) :=
  h.stays (Lib.alloc_old w o r h.lt) (fun k hk => Lib.alloc_old w o k (by have := h.1; have := h.lt; omega))

set_option maxHeartbeats 1000000 in
set_option maxRecDepth 100000 in
theorem l11Host (B r p : Nat) (w : World) (hp : p ≤ 100000) (h : Rd B r p w) :
    Calls Tryd.prog 23 #[.pointer (some ⟨r, 0, none⟩)] w fun e w' => ∃ x : ByteArray, x ∈ hostsL ∧ e = .returned (.string x) ∧ Rd B r (p + 1) w' ∧ w.grownBy w' (some r) := by
  have hrl := h.lt
  go_enter Tryd.func23, Tryd.ntmps23
  go_wp2_with fail
  refine (rdOf B r p w.heap.size 22 hostsL 9 (0, 0) _ _ rfl (heap_alloc_new w _) (by omega) (by simp [hostsL]) (by simp [hostsL]) (by omega) (rd_more h _)).mono ?_
  rintro e w2 ⟨y, hy, rfl, hr2, hg2⟩
  go_wp2
  go_ret
  exact ⟨y, hy, rfl, hr2, grown_trans (World.grownBy_alloc w _ _) hg2⟩

end Go.Proofs.YtnmbflljldhjmaaDoor

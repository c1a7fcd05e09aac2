/- spec.DrawPathIn draws two paths. -/
import Derived.Test.YteapapcedkpkmaaOfS
import Derived.Test.YteapapcedkpkmaaRdB
set_option linter.unusedVariables false
namespace Go.Proofs.Yteapapcedkpkmaa
open Go.RowKit Go.Shelf

def pinsL : List ByteArray := [⟨#[47]⟩, ⟨#[47, 97]⟩, ⟨#[47, 97, 47]⟩, ⟨#[47, 97, 47, 98]⟩, ⟨#[47, 97, 98]⟩, ⟨#[]⟩]
def belsL : List ByteArray := [⟨#[47]⟩, ⟨#[47, 97]⟩, ⟨#[47, 97, 47]⟩, ⟨#[47, 97, 47, 98]⟩, ⟨#[]⟩]
theorem pinsL_size (x : ByteArray) (h : x ∈ pinsL) : x.size ≤ 4 := by
  simp only [pinsL, List.mem_cons, List.not_mem_nil, or_false] at h
  rcases h with rfl | rfl | rfl | rfl | rfl | rfl <;> decide
theorem belsL_size (x : ByteArray) (h : x ∈ belsL) : x.size ≤ 4 := by
  simp only [belsL, List.mem_cons, List.not_mem_nil, or_false] at h
  rcases h with rfl | rfl | rfl | rfl | rfl <;> decide
theorem rd_moreP {B r p : Nat} {w : World} (h : Rd B r p w) (o : Obj) : Rd B r p (w.alloc o) :=
  h.stays (Lib.alloc_old w o r h.lt) (fun k hk => Lib.alloc_old w o k (by have := h.1; have := h.lt; omega))

set_option maxHeartbeats 1000000 in
set_option maxRecDepth 100000 in
theorem drawPathIn (B : Nat) (a : Option Addr) (len cap : Nat) (w : World) (hB : B ≤ w.heap.size) (h : Code B w a len cap) :
    Calls Try.prog 5 #[.slice a len cap] w fun e w' => ∃ x y : ByteArray, e = .returned (.tuple #[.string x, .string y]) ∧ x.size ≤ 4 ∧ y.size ≤ 4 ∧ Below w.heap.size w w' := by
  go_enter Try.func5, Try.ntmps5
  go_wp2_with fail
  refine (l1Open B a len cap _ hB h).mono ?_
  rintro e w1 ⟨rfl, hr, b1⟩
  have hrl := hr.lt
  go_wp2_with fail
  refine (rdOf B w.heap.size 0 w1.heap.size 6 pinsL 9 (0, 0) _ _ rfl (heap_alloc_new w1 _) (by omega) (by simp [pinsL]) (by simp [pinsL]) (by omega) (rd_moreP hr _)).mono ?_
  rintro e w2 ⟨x, hx, rfl, hr2, hg2⟩
  have hxs := pinsL_size x hx
  have G2 : w1.grownBy w2 (some w.heap.size) := grown_trans (World.grownBy_alloc w1 _ _) hg2
  have hr2l := hr2.lt
  go_wp2_with fail
  refine (rdOf B w.heap.size 1 w2.heap.size 5 belsL 9 (0, 0) _ _ rfl (heap_alloc_new w2 _) (by omega) (by simp [belsL]) (by simp [belsL]) (by omega) (rd_moreP hr2 _)).mono ?_
  rintro e w3 ⟨y, hy, rfl, hr3, hg3⟩
  have hys := belsL_size y hy
  have G3 : w1.grownBy w3 (some w.heap.size) := grown_trans (grown_alloc G2 _) hg3
  clear hx hy
  go_wp2
  go_ret2
  exact ⟨x, y, rfl, hxs, hys, b1.trans (below_grown G3 (Nat.le_refl _) b1.size)⟩
end Go.Proofs.Yteapapcedkpkmaa

/- spec.DrawDomainIn draws two names. -/
import Derived.Test.YteapapcedkpkmaaDoorOfS
import Derived.Test.YteapapcedkpkmaaDoorRdB
set_option linter.unusedVariables false
namespace Go.Proofs.YteapapcedkpkmaaDoor
open Go.RowKit Go.Shelf

def domsL : List ByteArray := [⟨#[97, 46, 99, 111, 109]⟩, ⟨#[98, 46, 97, 46, 99, 111, 109]⟩, ⟨#[98, 97, 46, 99, 111, 109]⟩, ⟨#[99, 111, 109]⟩, ⟨#[49, 46, 50, 46, 51, 46, 52]⟩, ⟨#[]⟩, ⟨#[120, 46, 98, 46, 97, 46, 99, 111, 109]⟩]
def domtL : List ByteArray := [⟨#[97, 46, 99, 111, 109]⟩, ⟨#[99, 111, 109]⟩, ⟨#[98, 46, 97, 46, 99, 111, 109]⟩, ⟨#[51, 46, 52]⟩, ⟨#[]⟩, ⟨#[49, 46, 50, 46, 51, 46, 52]⟩]
theorem domsL_size (x : ByteArray) (h : x ∈ domsL) : x.size ≤ 9 := by
  simp only [domsL, List.mem_cons, List.not_mem_nil, or_false] at h
  rcases h with rfl | rfl | rfl | rfl | rfl | rfl | rfl <;> decide
theorem domtL_size (x : ByteArray) (h : x ∈ domtL) : x.size ≤ 9 := by
  simp only [domtL, List.mem_cons, List.not_mem_nil, or_false] at h
  rcases h with rfl | rfl | rfl | rfl | rfl | rfl <;> decide
theorem rd_moreD {B r p : Nat} {w : World} (h : Rd B r p w) (o : Obj) : Rd B r p (w.alloc o) :=
  h.stays (Lib.alloc_old w o r h.lt) (fun k hk => Lib.alloc_old w o k (by have := h.1; have := h.lt; omega))

set_option maxHeartbeats 1000000 in
set_option maxRecDepth 100000 in
theorem drawDomainIn (B : Nat) (a : Option Addr) (len cap : Nat) (w : World) (hB : B ≤ w.heap.size) (h : Code B w a len cap) :
    Calls Tryd.prog 5 #[.slice a len cap] w fun e w' => ∃ x y : ByteArray, e = .returned (.tuple #[.string x, .string y]) ∧ x.size ≤ 9 ∧ y.size ≤ 9 ∧ Below w.heap.size w w' := by
  go_enter Tryd.func5, Tryd.ntmps5
  go_wp2_with fail
  refine (l1Open B a len cap _ hB h).mono ?_
  rintro e w1 ⟨rfl, hr, b1⟩
  have hrl := hr.lt
  go_wp2_with fail
  refine (rdOf B w.heap.size 0 w1.heap.size 7 domsL 9 (0, 0) _ _ rfl (heap_alloc_new w1 _) (by omega) (by simp [domsL]) (by simp [domsL]) (by omega) (rd_moreD hr _)).mono ?_
  rintro e w2 ⟨x, hx, rfl, hr2, hg2⟩
  have hxs := domsL_size x hx
  have G2 : w1.grownBy w2 (some w.heap.size) := grown_trans (World.grownBy_alloc w1 _ _) hg2
  have hr2l := hr2.lt
  go_wp2_with fail
  refine (rdOf B w.heap.size 1 w2.heap.size 6 domtL 9 (0, 0) _ _ rfl (heap_alloc_new w2 _) (by omega) (by simp [domtL]) (by simp [domtL]) (by omega) (rd_moreD hr2 _)).mono ?_
  rintro e w3 ⟨y, hy, rfl, hr3, hg3⟩
  have hys := domtL_size y hy
  have G3 : w1.grownBy w3 (some w.heap.size) := grown_trans (grown_alloc G2 _) hg3
  clear hx hy
  go_wp2
  go_ret2
  exact ⟨x, y, rfl, hxs, hys, b1.trans (below_grown G3 (Nat.le_refl _) b1.size)⟩
end Go.Proofs.YteapapcedkpkmaaDoor

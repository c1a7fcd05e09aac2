/- spec.l11Path draws a text of at most 20 bytes. spec.l11Host draws one of a few texts. The reader's choice out of a list: one of the list's own, and nothing turns but the reader's place. The reader's choice out of a list of numbers or texts. -/
import Derived.Test.YtnfhajhdpdidlaaGreatDoorCFnRefer07
import Derived.Test.YtnfhajhdpdidlaaGreatDoorCFnRefer01
set_option linter.unusedVariables false
set_option maxHeartbeats 2000000
set_option maxRecDepth 100000
section
namespace Go.Proofs.YtnfhajhdpdidlaaGreatDoor
open Go.RowKit Go.Shelf
def sepsL : List ByteArray := [⟨#[47]⟩, ⟨#[47]⟩, ⟨#[47]⟩, ⟨#[92]⟩, ⟨#[]⟩]
def itemsL : List ByteArray := [⟨#[97]⟩, ⟨#[98]⟩, ⟨#[46, 46]⟩, ⟨#[46]⟩, ⟨#[]⟩, ⟨#[37, 50, 101]⟩, ⟨#[46, 37, 50, 69]⟩, ⟨#[99, 32, 100]⟩, ⟨#[120, 63]⟩, ⟨#[35]⟩, ⟨#[97, 58, 98]⟩, ⟨#[46, 46, 46]⟩, ⟨#[195, 169]⟩, ⟨#[64]⟩]
theorem sepsL_size (x : ByteArray) (h : x ∈ sepsL) : x.size ≤ 1 := by
 simp only [sepsL, List.mem_cons, List.not_mem_nil, or_false] at h
 rcases h with rfl | rfl | rfl | rfl | rfl <;> decide
theorem itemsL_size (x : ByteArray) (h : x ∈ itemsL) : x.size ≤ 4 := by
 simp only [itemsL, List.mem_cons, List.not_mem_nil, or_false] at h
 rcases h with rfl | rfl | rfl | rfl | rfl | rfl | rfl | rfl | rfl | rfl | rfl | rfl | rfl | rfl <;> decide
theorem rd_alloc {B r p : Nat} {w : World} (h : Rd B r p w) (o : Obj) : Rd B r p (w.alloc o) :=
 h.stays (Lib.alloc_old w o r h.lt) (fun k hk => Lib.alloc_old w o k (by have := h.1; have := h.lt; omega))
theorem l11Path (B r p : Nat) (w : World) (hp : p ≤ 100000) (h : Rd B r p w) :
  Calls Tryz.prog 126 #[.pointer (some ⟨r, 0, none⟩)] w fun e w' => ∃ (x : ByteArray) (q : Nat), e = .returned (.string x) ∧ x.size ≤ 20 ∧ q ≤ p + 9 ∧ Rd B r q w' ∧ w.grownBy w' (some r) := by
 go_enter Tryz.func126, Tryz.ntmps126
 go_wp2_with fail
 refine (pick B r p 5 _ (by decide) (by decide) (by omega) h).mono ?_
 rintro e w1 ⟨v, rfl, hv0, hv1, hr1, hg1⟩
 obtain ⟨n, rfl⟩ := Int.eq_ofNat_of_zero_le hv0
 have hn : n ≤ 4 := by omega
 clear hv0 hv1
 go_wp2_with fail
 go_loopw [3, 4] (fun o i wr => ∃ (j : Nat) (x : ByteArray) (q : Nat), j ≤ n ∧ i = .int .i64 j ∧ o = .string x ∧ x.size + 5 * j ≤ 20 ∧ q + 2 * j ≤ p + 9 ∧ Rd B r q wr ∧ w.grownBy wr (some r)) (fun _ i wr => (intOf i).toNat)
 case atStart => exact ⟨n, ⟨#[]⟩, p + 1, Nat.le_refl _, rfl, rfl, by show 0 + 5 * n ≤ 20; omega, by omega, hr1, hg1⟩
 case round =>
  clear hr1 hg1
  obtain ⟨j, x, q, hj, rfl, rfl, hx, hq, hR, hG⟩ := hrel
  by_cases h0 : j = 0
  ·subst h0
   go_wp2
   go_ret
   exact ⟨x, q, rfl, by omega, by omega, hR, hG⟩
  ·have h0i : (0 : Int) < (j : Int) := by omega
   have hrl := hR.lt
   go_wp2_with fail
   refine (rdOf B r q wr.heap.size 5 sepsL 9 (0, 0) _ _ rfl (heap_alloc_new wr _) (by omega) (by simp [sepsL]) (by simp [sepsL]) (by omega) (rd_alloc hR _)).mono ?_
   rintro e w2 ⟨y, hy, rfl, hr2, hg2⟩
   have hys := sepsL_size y hy
   clear hy
   have hG2 : w.grownBy w2 (some r) := grown_trans (grown_alloc hG _) hg2
   have hr2l := hr2.lt
   go_wp2_with fail
   refine (rdOf B r (q + 1) w2.heap.size 14 itemsL 9 (0, 0) _ _ rfl (heap_alloc_new w2 _) (by omega) (by simp [itemsL]) (by simp [itemsL]) (by omega) (rd_alloc hr2 _)).mono ?_
   rintro e w3 ⟨z, hz, rfl, hr3, hg3⟩
   have hzs := itemsL_size z hz
   clear hz
   have hG3 : w.grownBy w3 (some r) := grown_trans (grown_alloc hG2 _) hg3
   have hsz : (x ++ y).size ≤ 100 := by rw [ByteArray.size_append]; omega
   have hj1 : (j : Int) - 1 = ((j - 1 : Nat) : Int) := by omega
   go_wp2
   go_roundw
   case rel => exact ⟨j - 1, _, q + 1 + 1, by omega, by first | rfl | go_num, rfl, by rw [ByteArray.size_append, ByteArray.size_append]; omega, by omega, hr3, hG3⟩
   case measure => simp [intOf]; omega
end Go.Proofs.YtnfhajhdpdidlaaGreatDoor
end
section
namespace Go.Proofs.YtnfhajhdpdidlaaGreatDoor
open Go.RowKit Go.Shelf
def hostsL : List ByteArray := [⟨#[97, 46, 99, 111, 109]⟩, ⟨#[98, 46, 97, 46, 99, 111, 109]⟩, ⟨#[65, 46, 67, 111, 109]⟩, ⟨#[120]⟩, ⟨#[49, 46, 50, 46, 51, 46, 52]⟩, ⟨#[48, 120, 55, 102, 46, 49]⟩, ⟨#[49, 48, 46, 48]⟩, ⟨#[48, 49, 55, 46, 49]⟩, ⟨#[50, 53, 54, 46, 49]⟩, ⟨#[49, 46, 50, 46, 51, 46, 52, 46, 53]⟩, ⟨#[97, 95, 98, 45, 99, 46, 100]⟩, ⟨#[97, 46, 46, 98]⟩, ⟨#[]⟩, ⟨#[97, 46, 99, 111, 109, 46]⟩, ⟨#[52, 50, 57, 52, 57, 54, 55, 50, 57, 53]⟩, ⟨#[52, 50, 57, 52, 57, 54, 55, 50, 57, 54]⟩, ⟨#[97, 46, 48, 120, 49]⟩, ⟨#[37, 54, 49, 46, 99, 111, 109]⟩, ⟨#[97, 32, 98]⟩, ⟨#[49, 46, 50, 46, 51, 46]⟩, ⟨#[46]⟩, ⟨#[97, 46, 49, 120]⟩]
theorem hostsL_size (x : ByteArray) (h : x ∈ hostsL) : x.size ≤ 10 := by
 simp only [hostsL, List.mem_cons, List.not_mem_nil, or_false] at h
 rcases h with rfl | rfl | rfl | rfl | rfl | rfl | rfl | rfl | rfl | rfl | rfl | rfl | rfl | rfl | rfl | rfl | rfl | rfl | rfl | rfl | rfl | rfl <;> decide
theorem rd_more {B r p : Nat} {w : World} (h : Rd B r p w) (o : Obj) : Rd B r p (w.alloc o) :=
 h.stays (Lib.alloc_old w o r h.lt) (fun k hk => Lib.alloc_old w o k (by have := h.1; have := h.lt; omega))
theorem l11Host (B r p : Nat) (w : World) (hp : p ≤ 100000) (h : Rd B r p w) :
  Calls Tryz.prog 103 #[.pointer (some ⟨r, 0, none⟩)] w fun e w' => ∃ x : ByteArray, x ∈ hostsL ∧ e = .returned (.string x) ∧ Rd B r (p + 1) w' ∧ w.grownBy w' (some r) := by
 have hrl := h.lt
 go_enter Tryz.func103, Tryz.ntmps103
 go_wp2_with fail
 refine (rdOf B r p w.heap.size 22 hostsL 9 (0, 0) _ _ rfl (heap_alloc_new w _) (by omega) (by simp [hostsL]) (by simp [hostsL]) (by omega) (rd_more h _)).mono ?_
 rintro e w2 ⟨y, hy, rfl, hr2, hg2⟩
 go_wp2
 go_ret
 exact ⟨y, hy, rfl, hr2, grown_trans (World.grownBy_alloc w _ _) hg2⟩
end Go.Proofs.YtnfhajhdpdidlaaGreatDoor
end
section
namespace Go.Proofs.YtnfhajhdpdidlaaGreatDoor
open Go.RowKit Go.Shelf
theorem rdOne (B r p g c : Nat) (xs : List Int) (t : TypeId) (fr : Nat × Nat) (A : Array Value) (w : World) (hA : A.toList = xs.map (Value.int .i64)) (hg : w.heap[g]? = some (.cells A t fr)) (hgr : g ≠ r) (h1 : 1 ≤ xs.length) (hx : xs.length ≤ 1000000) (hp : p ≤ 1000000) (h : Rd B r p w) :
  Calls Tryz.prog 72 #[.pointer (some ⟨r, 0, none⟩), .slice (some ⟨g, 0, none⟩) xs.length c] w fun e w' => ∃ x, x ∈ xs ∧ e = .returned ((Value.int .i64) x) ∧ Rd B r (p + 1) w' ∧ w.grownBy w' (some r) := by
 go_enter Tryz.func72, Tryz.ntmps72
 go_wp2_with fail
 refine (pick B r p _ _ (by omega) (by omega) hp h).mono ?_
 rintro e w1 ⟨v, rfl, hv0, hv1, hr1, hg1⟩
 obtain ⟨j, rfl⟩ := Int.eq_ofNat_of_zero_le hv0
 have hj : j < xs.length := by omega
 have hcell : w1.cell? ⟨g, j, none⟩ = some ((Value.int .i64) xs[j]) := by
  have hh : w1.heap[g]? = some (.cells A t fr) := (hg1.block g (Array.getElem?_eq_some_iff.1 hg).1 (by simp [hgr])).trans hg
  rw [Lib.cell_of_heap hh, ← Array.getElem?_toList, hA]
  simp [hj]
 go_wp2
 go_ret
 exact ⟨xs[j], List.getElem_mem hj, rfl, hr1, hg1⟩
end Go.Proofs.YtnfhajhdpdidlaaGreatDoor
end
section
end

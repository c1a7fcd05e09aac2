/- spec.l11Host draws one of a few texts. The reader's choice out of a list: one of the list's own, and nothing turns but the reader's place. The reader's choice out of a list of numbers or texts. l11Bytes draws a text of as many bytes as it is asked for. -/
import Derived.Test.YtnfhajhdpdidlaaGreatDoorCFnOriginText02
import Derived.Test.YtnfhajhdpdidlaaGreatDoorCFnOriginText01
set_option linter.unusedVariables false
set_option maxHeartbeats 2000000
set_option maxRecDepth 100000
section
namespace Go.Proofs.YtnfhajhdpdidlaaGreatDoor
open Go.RowKit Go.Shelf
def hostsL : List ByteArray := [⟨#[97, 46, 99, 111, 109]⟩, ⟨#[98, 46, 97, 46, 99, 111, 109]⟩, ⟨#[65, 46, 67, 111, 109]⟩, ⟨#[120]⟩, ⟨#[49, 46, 50, 46, 51, 46, 52]⟩, ⟨#[48, 120, 55, 102, 46, 49]⟩, ⟨#[49, 48, 46, 48]⟩, ⟨#[48, 49, 55, 46, 49]⟩, ⟨#[50, 53, 54, 46, 49]⟩, ⟨#[49, 46, 50, 46, 51, 46, 52, 46, 53]⟩, ⟨#[97, 95, 98, 45, 99, 46, 100]⟩, ⟨#[97, 46, 46, 98]⟩, ⟨#[]⟩, ⟨#[97, 46, 99, 111, 109, 46]⟩, ⟨#[52, 50, 57, 52, 57, 54, 55, 50, 57, 53]⟩, ⟨#[52, 50, 57, 52, 57, 54, 55, 50, 57, 54]⟩, ⟨#[97, 46, 48, 120, 49]⟩, ⟨#[37, 54, 49, 46, 99, 111, 109]⟩, ⟨#[97, 32, 98]⟩, ⟨#[49, 46, 50, 46, 51, 46]⟩, ⟨#[46]⟩, ⟨#[97, 46, 49, 120]⟩]
theorem hostsL_size (x : ByteArray) (h : x ∈ hostsL) : x.size ≤ 10 := by
 simp only [hostsL, List.mem_cons, List.not_mem_nil, or_false] at h
 rcases h with rfl | rfl | rfl | rfl | rfl | rfl | rfl | rfl | rfl | rfl | rfl | rfl | rfl | rfl | rfl | rfl | rfl | rfl | rfl | rfl | rfl | rfl <;> decide
theorem rd_more {B r p : Nat} {w : World} (h : Rd B r p w) (o : Obj) : Rd B r p (w.alloc o) :=
 h.stays (Lib.alloc_old w o r h.lt) (fun k hk => Lib.alloc_old w o k (by have := h.1; have := h.lt; omega))
theorem l11Host (B r p : Nat) (w : World) (hp : p ≤ 100000) (h : Rd B r p w) :
  Calls Tryz.prog 103 #[.pointer (some ⟨r, 0, none⟩)] w fun e w' => ∃ x : ByteArray, x ∈ hostsL ∧ e = .returned (.string x) ∧ Rd B r (p + 1) w' ∧ w.grownBy w' (some r) := by
 have hrl := h.lt
 go_enter Tryz.func103, Tryz.ntmps103
 go_wp2_with fail
 refine (rdOf B r p w.heap.size 22 hostsL 9 (0, 0) _ _ rfl (heap_alloc_new w _) (by omega) (by simp [hostsL]) (by simp [hostsL]) (by omega) (rd_more h _)).mono ?_
 rintro e w2 ⟨y, hy, rfl, hr2, hg2⟩
 go_wp2
 go_ret
 exact ⟨y, hy, rfl, hr2, grown_trans (World.grownBy_alloc w _ _) hg2⟩
end Go.Proofs.YtnfhajhdpdidlaaGreatDoor
end
section
namespace Go.Proofs.YtnfhajhdpdidlaaGreatDoor
open Go.RowKit Go.Shelf
theorem rdOne (B r p g c : Nat) (xs : List Int) (t : TypeId) (fr : Nat × Nat) (A : Array Value) (w : World) (hA : A.toList = xs.map (Value.int .i64)) (hg : w.heap[g]? = some (.cells A t fr)) (hgr : g ≠ r) (h1 : 1 ≤ xs.length) (hx : xs.length ≤ 1000000) (hp : p ≤ 1000000) (h : Rd B r p w) :
  Calls Tryz.prog 72 #[.pointer (some ⟨r, 0, none⟩), .slice (some ⟨g, 0, none⟩) xs.length c] w fun e w' => ∃ x, x ∈ xs ∧ e = .returned ((Value.int .i64) x) ∧ Rd B r (p + 1) w' ∧ w.grownBy w' (some r) := by
 go_enter Tryz.func72, Tryz.ntmps72
 go_wp2_with fail
 refine (pick B r p _ _ (by omega) (by omega) hp h).mono ?_
 rintro e w1 ⟨v, rfl, hv0, hv1, hr1, hg1⟩
 obtain ⟨j, rfl⟩ := Int.eq_ofNat_of_zero_le hv0
 have hj : j < xs.length := by omega
 have hcell : w1.cell? ⟨g, j, none⟩ = some ((Value.int .i64) xs[j]) := by
  have hh : w1.heap[g]? = some (.cells A t fr) := (hg1.block g (Array.getElem?_eq_some_iff.1 hg).1 (by simp [hgr])).trans hg
  rw [Lib.cell_of_heap hh, ← Array.getElem?_toList, hA]
  simp [hj]
 go_wp2
 go_ret
 exact ⟨xs[j], List.getElem_mem hj, rfl, hr1, hg1⟩
end Go.Proofs.YtnfhajhdpdidlaaGreatDoor
end
section
end
section
namespace Go.Proofs.YtnfhajhdpdidlaaGreatDoor
open Go.RowKit Go.Shelf
theorem byte_of (x : Int) (h0 : 0 ≤ x) (h1 : x ≤ 255) : ∃ c : UInt8, (c.toNat : Int) = x := by
 refine ⟨UInt8.ofNat x.toNat, ?_⟩
 rw [UInt8.toNat_ofNat']
 omega
def l11List (v : Int) : List Int := [97, 98, 37, 47, 63, 35, 32, 43, 38, 61, 50, 70, 64, 58, 92, 46, 255, 0, 195, v]
theorem l11List_range (v x : Int) (h0 : 0 ≤ v) (h1 : v < 256) (hx : x ∈ l11List v) : 0 ≤ x ∧ x ≤ 255 := by
 simp only [l11List, List.mem_cons, List.not_mem_nil, or_false] at hx
 omega
theorem l11Bytes (B r p n : Nat) (w : World) (hn : n ≤ 1000) (hp : p + 2 * n ≤ 1000000) (h : Rd B r p w) :
  Calls Tryz.prog 125 #[.pointer (some ⟨r, 0, none⟩), .int .i64 (n : Int)] w fun e w' => ∃ l : List UInt8, e = .returned (.string ⟨l.toArray⟩) ∧ l.length = n ∧ Rd B r (p + 2 * n) w' ∧ w.grownBy w' (some r) := by
 have hrl := h.lt
 go_enter Tryz.func125, Tryz.ntmps125
 go_wp2
 go_loopw [1, 5] (fun i v wr => ∃ (m : Nat) (l : List UInt8), m ≤ n ∧ i = .int .i64 m ∧ l.length + m = n ∧ OwnB w.heap.size v l wr ∧ Rd B r (p + 2 * l.length) wr ∧ w.grownBy wr (some r)) (fun i _ wr => (intOf i).toNat)
 case atStart =>
  exact ⟨n, [], Nat.le_refl _, rfl, by simp, ownB_new w _ (Nat.le_refl _), h.stays (Lib.alloc_old w _ r hrl) (fun k hk => Lib.alloc_old w _ k (by have := h.1; omega)), World.grownBy_alloc w _ _⟩
 case round =>
  obtain ⟨m, l, hm, rfl, hlm, hI, hR, hG⟩ := hrel
  have hsz : w.heap.size ≤ wr.heap.size := hG.size
  by_cases h0 : m = 0
  ·subst h0
   have ht := ownB_text hI
   go_wp2
   go_ret
   obtain rfl : l.length = n := by omega
   exact ⟨l, rfl, rfl, hR, hG⟩
  ·have h0i : (0 : Int) < (m : Int) := by omega
   go_wp2_with fail
   refine (pick B r (p + 2 * l.length) 256 _ (by omega) (by omega) (by omega) hR).mono ?_
   rintro e w1 ⟨v, rfl, hv0, hv1, hr1, hg1⟩
   have hI1 := hI.keptRd hR hg1
   have hr1l := hr1.lt
   have HX := l11List_range v
   go_wp2_with fail
   refine (rdOne B r (p + 2 * l.length + 1) w1.heap.size 20 (l11List v) 3 (0, 0) _ _ rfl (heap_alloc_new w1 _) (by omega) (by simp [l11List]) (by simp [l11List]) (by omega) (hr1.stays (Lib.alloc_old w1 _ r hr1l) (fun k hk => Lib.alloc_old w1 _ k (by have := hr1.1; omega)))).mono ?_
   rintro e w2 ⟨x, hx, rfl, hr2, hg2⟩
   obtain ⟨hx0, hx1⟩ := HX x hv0 hv1 hx
   obtain ⟨c, hc⟩ := byte_of x hx0 hx1
   have HC : Hid ((c.toNat : Int) = x) := hc
   clear hc hx HX
   have hI2 : OwnB w.heap.size _ l w2 := (hI1.alloc _).keptRd (hr1.stays (Lib.alloc_old w1 _ r hr1l) (fun k hk => Lib.alloc_old w1 _ k (by have := hr1.1; omega))) hg2
   have hG2 : w.grownBy w2 (some r) := grown_trans (grown_alloc (grown_trans hG hg1) _) hg2
   go_wp2_with (at_builtin; refine wpAppendByte w2 rfl _ _ rfl w.heap.size _ _ c _ HC.out hI2 rfl rfl (by omega) hG2.size ?_; intro v1 w3 R b3)
   go_roundw
   case rel =>
    refine ⟨m - 1, l ++ [c], by omega, by go_num, by simp; omega, R, ?_, grown_below hG2 b3⟩
    have : p + 2 * (l ++ [c]).length = p + 2 * l.length + 1 + 1 := by simp; omega
    rw [this]; exact hr2.below b3 hrl
   case measure => simp [intOf]; omega
theorem l11BytesI (B r p : Nat) (x : Int) (w : World) (h0 : 0 ≤ x) (h1 : x ≤ 1000) (hp : p + 2000 ≤ 1000000) (h : Rd B r p w) :
  Calls Tryz.prog 125 #[.pointer (some ⟨r, 0, none⟩), .int .i64 x] w fun e w' => ∃ l : List UInt8, e = .returned (.string ⟨l.toArray⟩) ∧ (l.length : Int) = x ∧ Rd B r (p + 2 * x.toNat) w' ∧ w.grownBy w' (some r) := by
 obtain ⟨n, rfl⟩ := Int.eq_ofNat_of_zero_le h0
 refine (l11Bytes B r p n w (by omega) (by omega) h).mono ?_
 rintro e w' ⟨l, rfl, hl, hr, hg⟩
 exact ⟨l, rfl, by omega, by rw [Int.toNat_natCast]; exact hr, hg⟩
end Go.Proofs.YtnfhajhdpdidlaaGreatDoor
end

/- The reader's pick answers a number from 0 on, below what it is asked for, and turns nothing but the reader's place. The reader's choice out of a list: one of the list's own, and nothing turns but the reader's place. A reader behind what leaves it. spec.l11Path draws a text of at most 20 bytes. -/
import Derived.Test.YtnfhajhdpdidlaaGreatDoorCFnOriginText01
set_option linter.unusedVariables false
set_option maxHeartbeats 2000000
set_option maxRecDepth 100000
section
namespace Go.Proofs.YtnfhajhdpdidlaaGreatDoor
open Go.RowKit Go.Shelf
theorem pick (B r p : Nat) (n : Int) (w : World) (hn : 1 ≤ n) (hn2 : n ≤ 1000000) (hp : p ≤ 1000000) (h : Rd B r p w) :
  Calls Tryz.prog 53 #[.pointer (some ⟨r, 0, none⟩), .int .i64 n] w fun e w' => ∃ v : Int, e = .returned (.int .i64 v) ∧ 0 ≤ v ∧ v < n ∧ Rd B r (p + 1) w' ∧ w.grownBy w' (some r) := by
 have hput := h.put (p + 1)
 have hgr := setCell_grown w r 1 (.int .i64 ((p + 1 : Nat) : Int))
 rw [show ((p + 1 : Nat) : Int) = (p : Int) + 1 from by omega] at hput hgr
 have HP : Hid (Rd B r (p + 1) (w.setCell ⟨r, 1, none⟩ (.int .i64 ((p : Int) + 1)))) := hput
 have HG : Hid (w.grownBy (w.setCell ⟨r, 1, none⟩ (.int .i64 ((p : Int) + 1))) (some r)) := hgr
 clear hput hgr
 obtain ⟨hB, a, len, cap, z, hr, hl, hc⟩ := h
 have c0 : w.cell? ⟨r, 0, none⟩ = some (.slice a len cap) := by rw [Lib.cell_of_heap hr]; rfl
 have c1 : w.cell? ⟨r, 1, none⟩ = some (.int .i64 (p : Int)) := by rw [Lib.cell_of_heap hr]; rfl
 have f1 : w.frozen? ⟨r, 1, none⟩ = false := Lib.frozen_of_heap hr 1
 have hk1 : (p : Int) + 1 - 1 = (p : Int) := by omega
 have hpi : (p : Int) ≤ 1000000 := by omega
 clear hr
 by_cases h0 : len = 0
 ·subst h0
  go_enter Tryz.func53, Tryz.ntmps53
  go_wp2
  go_ret
  exact ⟨0, rfl, by omega, by omega, HP.out, HG.out⟩
 ·rcases hc with hc | ⟨b, off, rfl, hbB, hc⟩
  ·exact absurd hc h0
  have hbr : b ≠ r := by omega
  have hl0 : (0 : Int) < (len : Int) := by omega
  have hl1 : ((len : Int) == 0) = false := by rw [beq_eq_false_iff_ne]; omega
  by_cases hlt : p < len
  ·have hlti : (p : Int) < (len : Int) := by omega
   obtain ⟨hcell, hz0, hz1⟩ := hc p hlt
   clear hc
   go_enter Tryz.func53, Tryz.ntmps53
   go_wp2
   go_ret
   exact ⟨z p % n, rfl, Int.emod_nonneg _ (by omega), Int.emod_lt_of_pos _ (by omega), HP.out, HG.out⟩
  ·have hlti : ¬ ((p : Int) < (len : Int)) := by omega
   have hlne : ¬ ((len : Int) = 0) := by omega
   obtain ⟨q1, hq1, hq1l⟩ : ∃ q : Nat, (p : Int) % (len : Int) = (q : Int) ∧ q < len := ⟨p % len, by omega, Nat.mod_lt _ (by omega)⟩
   obtain ⟨q2, hq2, hq2l⟩ : ∃ q : Nat, ((p : Int) * 7 + 3) % (len : Int) = (q : Int) ∧ q < len := ⟨(p * 7 + 3) % len, by simp, Nat.mod_lt _ (by omega)⟩
   obtain ⟨hcell1, hz0, hz1⟩ := hc q1 hq1l
   obtain ⟨hcell2, hy0, hy1⟩ := hc q2 hq2l
   have hw7 : IntKind.i64.wrap ((p : Int) * 7) = (p : Int) * 7 := by rw [IntKind.wrap_i64]; omega
   have hw73 : IntKind.i64.wrap ((p : Int) * 7 + 3) = (p : Int) * 7 + 3 := by rw [IntKind.wrap_i64]; omega
   obtain ⟨q3, hq3, hq3l⟩ : ∃ q : Nat, (p : Int) / (len : Int) = (q : Int) ∧ (q : Int) ≤ 1000000 := ⟨p / len, by simp, by have := Nat.div_le_self p len; omega⟩
   obtain ⟨x, hx, hxl⟩ := i64_xor_range (z q1 * 131 + z q2 * 1117 + (p : Int) * 29 + (q3 : Int) * 53) ((z q1 * 131 + z q2 * 1117 + (p : Int) * 29 + (q3 : Int) * 53) / 64) (by omega) (by omega) (by omega) (by omega)
   have hq1i : (q1 : Int) < (len : Int) := by omega
   have hq2i : (q2 : Int) < (len : Int) := by omega
   clear hc
   go_enter Tryz.func53, Tryz.ntmps53
   go_wp2
   go_quiet (fail)
   go_wp2
   go_ret
   exact ⟨(x : Int) % n, rfl, Int.emod_nonneg _ (by omega), Int.emod_lt_of_pos _ (by omega), HP.out, grown_drewN HG.out _⟩
end Go.Proofs.YtnfhajhdpdidlaaGreatDoor
end
section
namespace Go.Proofs.YtnfhajhdpdidlaaGreatDoor
open Go.RowKit Go.Shelf
theorem rdOf (B r p g c : Nat) (xs : List ByteArray) (t : TypeId) (fr : Nat × Nat) (A : Array Value) (w : World) (hA : A.toList = xs.map Value.string) (hg : w.heap[g]? = some (.cells A t fr)) (hgr : g ≠ r) (h1 : 1 ≤ xs.length) (hx : xs.length ≤ 1000000) (hp : p ≤ 1000000) (h : Rd B r p w) :
  Calls Tryz.prog 74 #[.pointer (some ⟨r, 0, none⟩), .slice (some ⟨g, 0, none⟩) xs.length c] w fun e w' => ∃ x, x ∈ xs ∧ e = .returned (Value.string x) ∧ Rd B r (p + 1) w' ∧ w.grownBy w' (some r) := by
 go_enter Tryz.func74, Tryz.ntmps74
 go_wp2_with fail
 refine (pick B r p _ _ (by omega) (by omega) hp h).mono ?_
 rintro e w1 ⟨v, rfl, hv0, hv1, hr1, hg1⟩
 obtain ⟨j, rfl⟩ := Int.eq_ofNat_of_zero_le hv0
 have hj : j < xs.length := by omega
 have hcell : w1.cell? ⟨g, j, none⟩ = some (Value.string xs[j]) := by
  have hh : w1.heap[g]? = some (.cells A t fr) := (hg1.block g (Array.getElem?_eq_some_iff.1 hg).1 (by simp [hgr])).trans hg
  rw [Lib.cell_of_heap hh, ← Array.getElem?_toList, hA]
  simp [hj]
 go_wp2
 go_ret
 exact ⟨xs[j], List.getElem_mem hj, rfl, hr1, hg1⟩
end Go.Proofs.YtnfhajhdpdidlaaGreatDoor
end
section
namespace Go.Proofs.YtnfhajhdpdidlaaGreatDoor
open Go.RowKit Go.Shelf
theorem grown_below {a b c : World} {row : Option Nat} (h : a.grownBy b row) (k : Below a.heap.size b c) : a.grownBy c row :=
 ⟨k.os.trans h.os, k.tape.trans h.tape, k.output.trans h.output, Nat.le_trans h.size k.size, fun j hj hn => (k.block j hj).trans (h.block j hj hn)⟩
theorem Rd.below {B r p N : Nat} {w w' : World} (h : Rd B r p w) (k : Below N w w') (hr : r < N) : Rd B r p w' :=
 h.stays (k.block r hr) (fun j hj => k.block j (by have := h.1; omega))
end Go.Proofs.YtnfhajhdpdidlaaGreatDoor
end
section
namespace Go.Proofs.YtnfhajhdpdidlaaGreatDoor
open Go.RowKit Go.Shelf
def sepsL : List ByteArray := [⟨#[47]⟩, ⟨#[47]⟩, ⟨#[47]⟩, ⟨#[92]⟩, ⟨#[]⟩]
def itemsL : List ByteArray := [⟨#[97]⟩, ⟨#[98]⟩, ⟨#[46, 46]⟩, ⟨#[46]⟩, ⟨#[]⟩, ⟨#[37, 50, 101]⟩, ⟨#[46, 37, 50, 69]⟩, ⟨#[99, 32, 100]⟩, ⟨#[120, 63]⟩, ⟨#[35]⟩, ⟨#[97, 58, 98]⟩, ⟨#[46, 46, 46]⟩, ⟨#[195, 169]⟩, ⟨#[64]⟩]
theorem sepsL_size (x : ByteArray) (h : x ∈ sepsL) : x.size ≤ 1 := by
 simp only [sepsL, List.mem_cons, List.not_mem_nil, or_false] at h
 rcases h with rfl | rfl | rfl | rfl | rfl <;> decide
theorem itemsL_size (x : ByteArray) (h : x ∈ itemsL) : x.size ≤ 4 := by
 simp only [itemsL, List.mem_cons, List.not_mem_nil, or_false] at h
 rcases h with rfl | rfl | rfl | rfl | rfl | rfl | rfl | rfl | rfl | rfl | rfl | rfl | rfl | rfl <;> decide
theorem rd_alloc {B r p : Nat} {w : World} (h : Rd B r p w) (o : Obj) : Rd B r p (w.alloc o) :=
 h.stays (Lib.alloc_old w o r h.lt) (fun k hk => Lib.alloc_old w o k (by have := h.1; have := h.lt; omega))
theorem l11Path (B r p : Nat) (w : World) (hp : p ≤ 100000) (h : Rd B r p w) :
  Calls Tryz.prog 126 #[.pointer (some ⟨r, 0, none⟩)] w fun e w' => ∃ (x : ByteArray) (q : Nat), e = .returned (.string x) ∧ x.size ≤ 20 ∧ q ≤ p + 9 ∧ Rd B r q w' ∧ w.grownBy w' (some r) := by
 go_enter Tryz.func126, Tryz.ntmps126
 go_wp2_with fail
 refine (pick B r p 5 _ (by decide) (by decide) (by omega) h).mono ?_
 rintro e w1 ⟨v, rfl, hv0, hv1, hr1, hg1⟩
 obtain ⟨n, rfl⟩ := Int.eq_ofNat_of_zero_le hv0
 have hn : n ≤ 4 := by omega
 clear hv0 hv1
 go_wp2_with fail
 go_loopw [3, 4] (fun o i wr => ∃ (j : Nat) (x : ByteArray) (q : Nat), j ≤ n ∧ i = .int .i64 j ∧ o = .string x ∧ x.size + 5 * j ≤ 20 ∧ q + 2 * j ≤ p + 9 ∧ Rd B r q wr ∧ w.grownBy wr (some r)) (fun _ i wr => (intOf i).toNat)
 case atStart => exact ⟨n, ⟨#[]⟩, p + 1, Nat.le_refl _, rfl, rfl, by show 0 + 5 * n ≤ 20; omega, by omega, hr1, hg1⟩
 case round =>
  clear hr1 hg1
  obtain ⟨j, x, q, hj, rfl, rfl, hx, hq, hR, hG⟩ := hrel
  by_cases h0 : j = 0
  ·subst h0
   go_wp2
   go_ret
   exact ⟨x, q, rfl, by omega, by omega, hR, hG⟩
  ·have h0i : (0 : Int) < (j : Int) := by omega
   have hrl := hR.lt
   go_wp2_with fail
   refine (rdOf B r q wr.heap.size 5 sepsL 9 (0, 0) _ _ rfl (heap_alloc_new wr _) (by omega) (by simp [sepsL]) (by simp [sepsL]) (by omega) (rd_alloc hR _)).mono ?_
   rintro e w2 ⟨y, hy, rfl, hr2, hg2⟩
   have hys := sepsL_size y hy
   clear hy
   have hG2 : w.grownBy w2 (some r) := grown_trans (grown_alloc hG _) hg2
   have hr2l := hr2.lt
   go_wp2_with fail
   refine (rdOf B r (q + 1) w2.heap.size 14 itemsL 9 (0, 0) _ _ rfl (heap_alloc_new w2 _) (by omega) (by simp [itemsL]) (by simp [itemsL]) (by omega) (rd_alloc hr2 _)).mono ?_
   rintro e w3 ⟨z, hz, rfl, hr3, hg3⟩
   have hzs := itemsL_size z hz
   clear hz
   have hG3 : w.grownBy w3 (some r) := grown_trans (grown_alloc hG2 _) hg3
   have hsz : (x ++ y).size ≤ 100 := by rw [ByteArray.size_append]; omega
   have hj1 : (j : Int) - 1 = ((j - 1 : Nat) : Int) := by omega
   go_wp2
   go_roundw
   case rel => exact ⟨j - 1, _, q + 1 + 1, by omega, by first | rfl | go_num, rfl, by rw [ByteArray.size_append, ByteArray.size_append]; omega, by omega, hr3, hG3⟩
   case measure => simp [intOf]; omega
end Go.Proofs.YtnfhajhdpdidlaaGreatDoor
end

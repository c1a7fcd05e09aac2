/- l11Bytes draws a text of as many bytes as it is asked for. spec.l11Tail, spec.l11Text: a text that may be an address is drawn. spec.l11AnyHost: a host is drawn, and perhaps one field turned. spec.l11Url: an address that is ok is drawn. -/
import Derived.Test.YtnfhajhdpdidlaaGreatDoorCFnRefer08
import Derived.Test.YtnfhajhdpdidlaaGreatDoorCFnRefer07
import Derived.Test.YtnfhajhdpdidlaaGreatDoorB02
import Derived.Test.YtnfhajhdpdidlaaGreatDoorB29
import Derived.Test.YtnfhajhdpdidlaaGreatDoorCFnRefer03
set_option linter.unusedVariables false
set_option linter.unusedSimpArgs false
set_option maxHeartbeats 8000000
set_option maxRecDepth 100000
section
namespace Go.Proofs.YtnfhajhdpdidlaaGreatDoor
open Go.RowKit Go.Shelf
theorem byte_of (x : Int) (h0 : 0 ≤ x) (h1 : x ≤ 255) : ∃ c : UInt8, (c.toNat : Int) = x := by
 refine ⟨UInt8.ofNat x.toNat, ?_⟩
 rw [UInt8.toNat_ofNat']
 omega
def l11List (v : Int) : List Int := [97, 98, 37, 47, 63, 35, 32, 43, 38, 61, 50, 70, 64, 58, 92, 46, 255, 0, 195, v]
theorem l11List_range (v x : Int) (h0 : 0 ≤ v) (h1 : v < 256) (hx : x ∈ l11List v) : 0 ≤ x ∧ x ≤ 255 := by
 simp only [l11List, List.mem_cons, List.not_mem_nil, or_false] at hx
 omega
theorem l11Bytes (B r p n : Nat) (w : World) (hn : n ≤ 1000) (hp : p + 2 * n ≤ 1000000) (h : Rd B r p w) :
  Calls Tryz.prog 125 #[.pointer (some ⟨r, 0, none⟩), .int .i64 (n : Int)] w fun e w' => ∃ l : List UInt8, e = .returned (.string ⟨l.toArray⟩) ∧ l.length = n ∧ Rd B r (p + 2 * n) w' ∧ w.grownBy w' (some r) := by
 have hrl := h.lt
 go_enter Tryz.func125, Tryz.ntmps125
 go_wp2
 go_loopw [1, 5] (fun i v wr => ∃ (m : Nat) (l : List UInt8), m ≤ n ∧ i = .int .i64 m ∧ l.length + m = n ∧ OwnB w.heap.size v l wr ∧ Rd B r (p + 2 * l.length) wr ∧ w.grownBy wr (some r)) (fun i _ wr => (intOf i).toNat)
 case atStart =>
  exact ⟨n, [], Nat.le_refl _, rfl, by simp, ownB_new w _ (Nat.le_refl _), h.stays (Lib.alloc_old w _ r hrl) (fun k hk => Lib.alloc_old w _ k (by have := h.1; omega)), World.grownBy_alloc w _ _⟩
 case round =>
  obtain ⟨m, l, hm, rfl, hlm, hI, hR, hG⟩ := hrel
  have hsz : w.heap.size ≤ wr.heap.size := hG.size
  by_cases h0 : m = 0
  ·subst h0
   have ht := ownB_text hI
   go_wp2
   go_ret
   obtain rfl : l.length = n := by omega
   exact ⟨l, rfl, rfl, hR, hG⟩
  ·have h0i : (0 : Int) < (m : Int) := by omega
   go_wp2_with fail
   refine (pick B r (p + 2 * l.length) 256 _ (by omega) (by omega) (by omega) hR).mono ?_
   rintro e w1 ⟨v, rfl, hv0, hv1, hr1, hg1⟩
   have hI1 := hI.keptRd hR hg1
   have hr1l := hr1.lt
   have HX := l11List_range v
   go_wp2_with fail
   refine (rdOne B r (p + 2 * l.length + 1) w1.heap.size 20 (l11List v) 3 (0, 0) _ _ rfl (heap_alloc_new w1 _) (by omega) (by simp [l11List]) (by simp [l11List]) (by omega) (hr1.stays (Lib.alloc_old w1 _ r hr1l) (fun k hk => Lib.alloc_old w1 _ k (by have := hr1.1; omega)))).mono ?_
   rintro e w2 ⟨x, hx, rfl, hr2, hg2⟩
   obtain ⟨hx0, hx1⟩ := HX x hv0 hv1 hx
   obtain ⟨c, hc⟩ := byte_of x hx0 hx1
   have HC : Hid ((c.toNat : Int) = x) := hc
   clear hc hx HX
   have hI2 : OwnB w.heap.size _ l w2 := (hI1.alloc _).keptRd (hr1.stays (Lib.alloc_old w1 _ r hr1l) (fun k hk => Lib.alloc_old w1 _ k (by have := hr1.1; omega))) hg2
   have hG2 : w.grownBy w2 (some r) := grown_trans (grown_alloc (grown_trans hG hg1) _) hg2
   go_wp2_with (at_builtin; refine wpAppendByte w2 rfl _ _ rfl w.heap.size _ _ c _ HC.out hI2 rfl rfl (by omega) hG2.size ?_; intro v1 w3 R b3)
   go_roundw
   case rel =>
    refine ⟨m - 1, l ++ [c], by omega, by go_num, by simp; omega, R, ?_, grown_below hG2 b3⟩
    have : p + 2 * (l ++ [c]).length = p + 2 * l.length + 1 + 1 := by simp; omega
    rw [this]; exact hr2.below b3 hrl
   case measure => simp [intOf]; omega
theorem l11BytesI (B r p : Nat) (x : Int) (w : World) (h0 : 0 ≤ x) (h1 : x ≤ 1000) (hp : p + 2000 ≤ 1000000) (h : Rd B r p w) :
  Calls Tryz.prog 125 #[.pointer (some ⟨r, 0, none⟩), .int .i64 x] w fun e w' => ∃ l : List UInt8, e = .returned (.string ⟨l.toArray⟩) ∧ (l.length : Int) = x ∧ Rd B r (p + 2 * x.toNat) w' ∧ w.grownBy w' (some r) := by
 obtain ⟨n, rfl⟩ := Int.eq_ofNat_of_zero_le h0
 refine (l11Bytes B r p n w (by omega) (by omega) h).mono ?_
 rintro e w' ⟨l, rfl, hl, hr, hg⟩
 exact ⟨l, rfl, by omega, by rw [Int.toNat_natCast]; exact hr, hg⟩
end Go.Proofs.YtnfhajhdpdidlaaGreatDoor
end
section
namespace Go.Proofs.YtnfhajhdpdidlaaGreatDoor
open Go.RowKit Go.Shelf
def tailsL : List ByteArray := [⟨#[]⟩, ⟨#[]⟩, ⟨#[63]⟩, ⟨#[63, 113, 61, 49]⟩, ⟨#[63, 97, 32, 98]⟩, ⟨#[35]⟩, ⟨#[35, 102]⟩, ⟨#[63, 113, 35, 102]⟩, ⟨#[35, 97, 32, 98]⟩, ⟨#[63, 39, 35, 34]⟩, ⟨#[35, 120, 63, 121]⟩]
theorem tailsL_size (x : ByteArray) (h : x ∈ tailsL) : x.size ≤ 4 := by
 simp only [tailsL, List.mem_cons, List.not_mem_nil, or_false] at h
 rcases h with rfl | rfl | rfl | rfl | rfl | rfl | rfl | rfl | rfl | rfl | rfl <;> decide
theorem l11Tail (B r p : Nat) (w : World) (hp : p ≤ 100000) (h : Rd B r p w) :
  Calls Tryz.prog 127 #[.pointer (some ⟨r, 0, none⟩)] w fun e w' => ∃ x : ByteArray, x.size ≤ 4 ∧ e = .returned (.string x) ∧ Rd B r (p + 1) w' ∧ w.grownBy w' (some r) := by
 have hrl := h.lt
 go_enter Tryz.func127, Tryz.ntmps127
 go_wp2_with fail
 refine (rdOf B r p w.heap.size 11 tailsL 9 (0, 0) _ _ rfl (heap_alloc_new w _) (by omega) (by simp [tailsL]) (by simp [tailsL]) (by omega) (rd_more h _)).mono ?_
 rintro e w2 ⟨y, hy, rfl, hr2, hg2⟩
 go_wp2
 go_ret
 exact ⟨y, tailsL_size y hy, rfl, hr2, grown_trans (World.grownBy_alloc w _ _) hg2⟩
def oddsL : List ByteArray := [⟨#[97, 98, 111, 117, 116, 58, 98, 108, 97, 110, 107]⟩, ⟨#[100, 97, 116, 97, 58, 120, 32, 121]⟩, ⟨#[109, 97, 105, 108, 116, 111, 58, 97, 64, 98]⟩, ⟨#[97, 98, 111, 117, 116, 58, 98, 108, 97, 110, 107, 35, 102]⟩, ⟨#[120, 58]⟩, ⟨#[97, 45, 98, 46, 99, 43, 49, 58, 122, 32, 63, 113]⟩, ⟨#[97, 98, 111, 117, 116, 58, 98, 108, 97, 110, 107, 63, 113, 32]⟩]
theorem oddsL_size (x : ByteArray) (h : x ∈ oddsL) : x.size ≤ 14 := by
 simp only [oddsL, List.mem_cons, List.not_mem_nil, or_false] at h
 rcases h with rfl | rfl | rfl | rfl | rfl | rfl | rfl <;> decide
def heads9L : List ByteArray := [⟨#[104, 116, 116, 112, 58, 47, 47]⟩, ⟨#[104, 116, 116, 112, 58, 47, 47]⟩, ⟨#[104, 116, 116, 112, 115, 58, 47, 47]⟩, ⟨#[72, 84, 84, 80, 58]⟩, ⟨#[104, 116, 116, 112, 58, 47]⟩, ⟨#[104, 116, 116, 112, 115, 58, 92, 92]⟩, ⟨#[104, 116, 116, 112, 58, 47, 47, 47, 47]⟩, ⟨#[32, 104, 116, 116, 112, 58, 47, 47]⟩, ⟨#[104, 116, 9, 116, 112, 58, 47, 47]⟩]
theorem heads9L_size (x : ByteArray) (h : x ∈ heads9L) : x.size ≤ 9 := by
 simp only [heads9L, List.mem_cons, List.not_mem_nil, or_false] at h
 rcases h with rfl | rfl | rfl | rfl | rfl | rfl | rfl | rfl | rfl <;> decide
def whosL : List ByteArray := [⟨#[]⟩, ⟨#[]⟩, ⟨#[]⟩, ⟨#[117, 64]⟩, ⟨#[117, 58, 112, 64]⟩, ⟨#[58, 112, 64]⟩, ⟨#[64]⟩, ⟨#[97, 64, 98, 64]⟩, ⟨#[117, 58, 112, 58, 113, 64]⟩]
theorem whosL_size (x : ByteArray) (h : x ∈ whosL) : x.size ≤ 6 := by
 simp only [whosL, List.mem_cons, List.not_mem_nil, or_false] at h
 rcases h with rfl | rfl | rfl | rfl | rfl | rfl | rfl | rfl | rfl <;> decide
def hosts7L (y : ByteArray) : List ByteArray := [⟨#[97, 46, 99, 111, 109]⟩, ⟨#[98, 46, 97, 46, 99, 111, 109]⟩, ⟨#[97, 46, 99, 111, 109]⟩, ⟨#[65, 46, 67, 111, 109]⟩, ⟨#[49, 46, 50, 46, 51, 46, 52]⟩, ⟨#[48, 120, 55, 102, 46, 49]⟩, y]
theorem hosts7L_size (y x : ByteArray) (hy : y.size ≤ 10) (h : x ∈ hosts7L y) : x.size ≤ 10 := by
 simp only [hosts7L, List.mem_cons, List.not_mem_nil, or_false] at h
 rcases h with rfl | rfl | rfl | rfl | rfl | rfl | rfl
 ·decide
 ·decide
 ·decide
 ·decide
 ·decide
 ·decide
 ·exact hy
def portsL : List ByteArray := [⟨#[]⟩, ⟨#[]⟩, ⟨#[]⟩, ⟨#[58, 56, 48]⟩, ⟨#[58, 52, 52, 51]⟩, ⟨#[58, 56, 48, 56, 48]⟩, ⟨#[58]⟩, ⟨#[58, 54, 53, 53, 51, 54]⟩, ⟨#[58, 48]⟩, ⟨#[58, 120]⟩]
theorem portsL_size (x : ByteArray) (h : x ∈ portsL) : x.size ≤ 6 := by
 simp only [portsL, List.mem_cons, List.not_mem_nil, or_false] at h
 rcases h with rfl | rfl | rfl | rfl | rfl | rfl | rfl | rfl | rfl | rfl <;> decide
theorem l11Text (B r p : Nat) (w : World) (hp : p ≤ 10000) (h : Rd B r p w) :
  Calls Tryz.prog 101 #[.pointer (some ⟨r, 0, none⟩)] w fun e w' => ∃ (x : ByteArray) (q : Nat), e = .returned (.string x) ∧ x.size ≤ 100 ∧ q ≤ p + 30 ∧ Rd B r q w' ∧ w.grownBy w' (some r) := by
 go_enter Tryz.func101, Tryz.ntmps101
 go_wp2_with fail
 refine (pick B r p 10 _ (by decide) (by decide) (by omega) h).mono ?_
 rintro e w1 ⟨v, rfl, hv0, hv1, hr1, hg1⟩
 have hrl := hr1.lt
 by_cases h0 : v = 0
 ·subst h0
  go_wp2_with fail
  refine (rdOf B r (p + 1) w1.heap.size 7 oddsL 9 (0, 0) _ _ rfl (heap_alloc_new w1 _) (by omega) (by simp [oddsL]) (by simp [oddsL]) (by omega) (rd_more hr1 _)).mono ?_
  rintro e w2 ⟨y, hy, rfl, hr2, hg2⟩
  have hys := oddsL_size y hy
  have hG2 : w.grownBy w2 (some r) := grown_trans (grown_alloc hg1 _) hg2
  clear hy
  go_wp2
  go_ret
  exact ⟨y, p + 1 + 1, rfl, by omega, by omega, hr2, hG2⟩
 ·by_cases h1 : v = 1
  ·subst h1
   go_wp2_with fail
   refine (pick B r (p + 1) 9 _ (by decide) (by decide) (by omega) hr1).mono ?_
   rintro e w2 ⟨k, rfl, hk0, hk1, hr2, hg2⟩
   go_wp2_with fail
   refine (l11BytesI B r (p + 1 + 1) k _ hk0 (by omega) (by omega) hr2).mono ?_
   rintro e w3 ⟨l, rfl, hl, hr3, hg3⟩
   have hG3 : w.grownBy w3 (some r) := grown_trans (grown_trans hg1 hg2) hg3
   go_wp2
   go_ret
   exact ⟨mk l, p + 1 + 1 + 2 * k.toNat, rfl, by rw [mk_size]; omega, by omega, hr3, hG3⟩
  ·have e0 : (v == 0) = false := by simpa using h0
   have e1 : (v == 1) = false := by simpa using h1
   clear hv0 hv1
   go_wp2_with fail
   refine (rdOf B r (p + 1) w1.heap.size 9 heads9L 9 (0, 0) _ _ rfl (heap_alloc_new w1 _) (by omega) (by simp [heads9L]) (by simp [heads9L]) (by omega) (rd_more hr1 _)).mono ?_
   rintro e w2 ⟨y1, hy1, rfl, hr2, hg2⟩
   have s1 := heads9L_size y1 hy1
   have G2 : w.grownBy w2 (some r) := grown_trans (grown_alloc hg1 _) hg2
   have l2 := hr2.lt
   clear hy1 hg1 hg2 hr1 e0 e1 h0 h1 hrl
   go_wp2_with fail
   refine (rdOf B r (p + 1 + 1) w2.heap.size 9 whosL 9 (0, 0) _ _ rfl (heap_alloc_new w2 _) (by omega) (by simp [whosL]) (by simp [whosL]) (by omega) (rd_more hr2 _)).mono ?_
   rintro e w3 ⟨y2, hy2, rfl, hr3, hg3⟩
   have s2 := whosL_size y2 hy2
   have G3 : w.grownBy w3 (some r) := grown_trans (grown_alloc G2 _) hg3
   have l3 := hr3.lt
   clear hy2 hg3 hr2 G2
   go_wp2_with fail
   refine (l11Host B r (p + 1 + 1 + 1) _ (by omega) hr3).mono ?_
   rintro e w4 ⟨y3, hy3, rfl, hr4, hg4⟩
   have s3 := hostsL_size y3 hy3
   have G4 : w.grownBy w4 (some r) := grown_trans G3 hg4
   have l4 := hr4.lt
   clear hy3 hg4 hr3 G3
   go_wp2_with fail
   refine (rdOf B r (p + 1 + 1 + 1 + 1) w4.heap.size 7 (hosts7L y3) 9 (0, 0) _ _ rfl (heap_alloc_new w4 _) (by omega) (by simp [hosts7L]) (by simp [hosts7L]) (by omega) (rd_more hr4 _)).mono ?_
   rintro e w5 ⟨y4, hy4, rfl, hr5, hg5⟩
   have s4 := hosts7L_size y3 y4 s3 hy4
   have G5 : w.grownBy w5 (some r) := grown_trans (grown_alloc G4 _) hg5
   have l5 := hr5.lt
   have z1 : (y1 ++ y2).size ≤ 100 := by rw [ByteArray.size_append]; omega
   have z2 : (y1 ++ y2 ++ y4).size ≤ 25 := by rw [ByteArray.size_append, ByteArray.size_append]; omega
   clear hy4 hg5 hr4 G4
   go_wp2_with fail
   refine (rdOf B r (p + 1 + 1 + 1 + 1 + 1) w5.heap.size 10 portsL 9 (0, 0) _ _ rfl (heap_alloc_new w5 _) (by omega) (by simp [portsL]) (by simp [portsL]) (by omega) (rd_more hr5 _)).mono ?_
   rintro e w6 ⟨y5, hy5, rfl, hr6, hg6⟩
   have s5 := portsL_size y5 hy5
   have G6 : w.grownBy w6 (some r) := grown_trans (grown_alloc G5 _) hg6
   clear hy5 hg6 hr5 G5
   go_wp2_with fail
   refine (l11Path B r (p + 1 + 1 + 1 + 1 + 1 + 1) _ (by omega) hr6).mono ?_
   rintro e w7 ⟨y6, q, rfl, s6, hq, hr7, hg7⟩
   have G7 : w.grownBy w7 (some r) := grown_trans G6 hg7
   clear hg7 hr6 G6
   go_wp2_with fail
   refine (l11Tail B r q _ (by omega) hr7).mono ?_
   rintro e w8 ⟨y7, s7, rfl, hr8, hg8⟩
   have G8 : w.grownBy w8 (some r) := grown_trans G7 hg8
   have z3 : (y1 ++ y2 ++ y4 ++ y5).size ≤ 31 := by rw [ByteArray.size_append]; omega
   have z4 : (y1 ++ y2 ++ y4 ++ y5 ++ y6).size ≤ 51 := by rw [ByteArray.size_append]; omega
   clear hg8 hr7 G7
   go_wp2
   go_ret
   exact ⟨_, q + 1, rfl, by rw [ByteArray.size_append]; omega, by omega, hr8, G8⟩
end Go.Proofs.YtnfhajhdpdidlaaGreatDoor
end
section
namespace Go.Proofs.YtnfhajhdpdidlaaGreatDoor
open Go.RowKit Go.Shelf
theorem getAgg_small (l : List UInt8) : ∃ (k : Int) (n : ByteArray) (a : Int), getAgg l = .agg #[.int .i64 k, .string n, .int .i64 a] ∧ n.size ≤ 200 := by
 unfold getAgg
 split
 ·rename_i h
  refine ⟨_, _, _, rfl, ?_⟩
  have h1 := dec_le l
  have h2 : (readL l).length ≤ 200 := by unfold readL; rw [low_length]; omega
  unfold hostName
  split
  ·exact Nat.zero_le _
  ·split
   ·rw [mk_size]; exact h2
   ·exact Nat.zero_le _
 ·exact ⟨_, _, _, rfl, Nat.zero_le _⟩
def namesL : List ByteArray := [⟨#[65]⟩, ⟨#[]⟩, ⟨#[97, 46, 98]⟩, ⟨#[49]⟩, ⟨#[120, 46]⟩]
theorem namesL_size (x : ByteArray) (h : x ∈ namesL) : x.size ≤ 200 := by
 simp only [namesL, List.mem_cons, List.not_mem_nil, or_false] at h
 rcases h with rfl | rfl | rfl | rfl | rfl <;> decide
def HostB (h : Nat) (k : Int) (n : ByteArray) (a : Int) (w : World) : Prop := w.heap[h]? = some (.cells #[.int .i64 k, .string n, .int .i64 a] 29 (0, 0))
theorem HostB.grown {h r : Nat} {k : Int} {n : ByteArray} {a : Int} {w w' : World} (x : HostB h k n a w) (g : w.grownBy w' (some r)) (hr : h ≠ r) : HostB h k n a w' := (g.block h (Array.getElem?_eq_some_iff.1 x).1 (by simp [hr])).trans x
theorem HostB.below {h B : Nat} {k : Int} {n : ByteArray} {a : Int} {w w' : World} (x : HostB h k n a w) (b : Below B w w') (hB : h < B) : HostB h k n a w' := (b.block h hB).trans x
theorem HostB.lt {h : Nat} {k : Int} {n : ByteArray} {a : Int} {w : World} (x : HostB h k n a w) : h < w.heap.size := (Array.getElem?_eq_some_iff.1 x).1
theorem HostB.cells {h : Nat} {k : Int} {n : ByteArray} {a : Int} {w : World} (x : HostB h k n a w) : w.cell? ⟨h, 0, none⟩ = some (.int .i64 k) ∧ w.cell? ⟨h, 1, none⟩ = some (.string n) ∧ w.cell? ⟨h, 2, none⟩ = some (.int .i64 a) :=
 ⟨by rw [Lib.cell_of_heap x]; rfl, by rw [Lib.cell_of_heap x]; rfl, by rw [Lib.cell_of_heap x]; rfl⟩
theorem HostB.free {h : Nat} {k : Int} {n : ByteArray} {a : Int} {w : World} (x : HostB h k n a w) : w.frozen? ⟨h, 0, none⟩ = false ∧ w.frozen? ⟨h, 1, none⟩ = false ∧ w.frozen? ⟨h, 2, none⟩ = false := ⟨Lib.frozen_of_heap x 0, Lib.frozen_of_heap x 1, Lib.frozen_of_heap x 2⟩
theorem setCell_else (W : World) (g j k : Nat) (v : Value) (h : k ≠ g) : (W.setCell ⟨g, j, none⟩ v).heap[k]? = W.heap[k]? := by
 by_cases hk : k < W.heap.size
 ·exact (setCell_grown W g j v).block k hk (by simp [h])
 ·have e : (W.setCell ⟨g, j, none⟩ v).heap.size = W.heap.size := by simp
  rw [Array.getElem?_eq_none (by omega), Array.getElem?_eq_none (by omega)]
theorem grown_new {w W : World} {r : Nat} (h : w.grownBy W (some r)) (g j : Nat) (v : Value) (hg : w.heap.size ≤ g) : w.grownBy (W.setCell ⟨g, j, none⟩ v) (some r) :=
 ⟨h.os, h.tape, h.output, by simpa using h.size, fun k hk hr => (setCell_else W g j k v (by omega)).trans (h.block k hk hr)⟩
theorem Rd.new {B r p g : Nat} {W : World} (h : Rd B r p W) (j : Nat) (v : Value) (hg : r < g) : Rd B r p (W.setCell ⟨g, j, none⟩ v) :=
 h.stays (setCell_else W g j r v (by omega)) (fun k hk => setCell_else W g j k v (by have := h.1; omega))
theorem l11AnyHost (B r p : Nat) (w : World) (hp : p ≤ 1000) (h : Rd B r p w) :
  Calls Tryz.prog 73 #[.pointer (some ⟨r, 0, none⟩)] w fun e w' => ∃ (k : Int) (n : ByteArray) (a : Int) (q : Nat), e = .returned (.agg #[.int .i64 k, .string n, .int .i64 a]) ∧ n.size ≤ 200 ∧ q ≤ p + 3 ∧ Rd B r q w' ∧ w.grownBy w' (some r) := by
 have hrl := h.lt
 have hB : B ≤ r := h.1
 go_enter Tryz.func73, Tryz.ntmps73
 go_wp2_with fail
 refine (l11Host B r p _ (by omega) (rd_more h _)).mono ?_
 rintro e w1 ⟨s, hs, rfl, hr1, hg1⟩
 have hz1 : HostB w.heap.size 0 ⟨#[]⟩ 0 w1 := HostB.grown (heap_alloc_new w _) hg1 (by omega)
 have hss := hostsL_size s hs
 obtain ⟨k, n, a, hag, hn⟩ := getAgg_small s.data.toList
 have CS : Hid (∀ W, Calls Tryz.prog 102 #[.string s] W fun e w' => e = .returned (.tuple #[.agg #[.int .i64 k, .string n, .int .i64 a], .bool (getOk s.data.toList)]) ∧ Below W.heap.size W w') := by
  intro W
  have := specHostGet s W (by omega)
  rw [hag] at this; exact this
 generalize getOk s.data.toList = ok at *
 clear hag
 have G1 : w.grownBy w1 (some r) := grown_trans (World.grownBy_alloc w _ _) hg1
 go_wp2_with fail
 refine (CS.out _).mono ?_
 rintro e w2 ⟨rfl, d2⟩
 clear CS
 have G2 : w.grownBy w2 (some r) := grown_trans G1 (grown_below (World.grownBy.refl w1 _) d2)
 have hr2 : Rd B r (p + 1) w2 := hr1.below d2 hr1.lt
 have hz2 : HostB w.heap.size 0 ⟨#[]⟩ 0 w2 := hz1.below d2 hz1.lt
 have hlt2 := hz2.lt
 have hrl2 := hr2.lt
 have hH3 : HostB w2.heap.size k n a (w2.alloc (Obj.cells #[Value.int IntKind.i64 k, Value.string n, Value.int IntKind.i64 a] 29)) := heap_alloc_new w2 _
 have hz3 : HostB w.heap.size 0 ⟨#[]⟩ 0 (w2.alloc (Obj.cells #[Value.int IntKind.i64 k, Value.string n, Value.int IntKind.i64 a] 29)) := (Lib.alloc_old w2 _ w.heap.size hlt2).trans hz2
 have G3 := grown_alloc G2 (Obj.cells #[Value.int IntKind.i64 k, Value.string n, Value.int IntKind.i64 a] 29)
 have hr3 := rd_more hr2 (Obj.cells #[Value.int IntKind.i64 k, Value.string n, Value.int IntKind.i64 a] 29)
 go_wp2_with fail
 refine (pick B r (p + 1) 12 _ (by decide) (by decide) (by omega) hr3).mono ?_
 rintro e w4 ⟨v, rfl, hv0, hv1, hr4, hg4⟩
 have hH4 : HostB w2.heap.size k n a w4 := hH3.grown hg4 (by omega)
 have hz4 : HostB w.heap.size 0 ⟨#[]⟩ 0 w4 := hz3.grown hg4 (by omega)
 have G4 := grown_trans G3 hg4
 clear hr1 hg1 hz1 G1 d2 hr2 hz2 G2 hH3 hz3 G3 hr3 hg4
 have hne : w2.heap.size ≠ w.heap.size := by omega
 have hne' : w.heap.size ≠ w2.heap.size := by omega
 obtain ⟨z0, z1, z2⟩ := hz4.cells
 obtain ⟨f0, f1, f2⟩ := hz4.free
 have hwr : w.heap.size ≤ w2.heap.size := by omega
 by_cases v0 : v = 0
 ·subst v0
  go_wp2_with fail
  refine (pick B r (p + 1 + 1) 4 _ (by decide) (by decide) (by omega) hr4).mono ?_
  rintro e w5 ⟨u, rfl, hu0, hu1, hr5, hg5⟩
  have hH5 := hH4.grown hg5 (by omega)
  have hz5 := hz4.grown hg5 (by omega)
  have G5 := grown_trans G4 hg5
  have hlt5 := hz5.lt
  have hltH := hH5.lt
  obtain ⟨c0, c1, c2⟩ := hH5.cells
  obtain ⟨y0, y1, y2⟩ := hH5.free
  obtain ⟨x0, x1, x2⟩ := hz5.cells
  obtain ⟨g0, g1, g2⟩ := hz5.free
  clear z0 z1 z2 f0 f1 f2
  go_wp2
  refine bodyPost_ret (v := .agg #[.int .i64 u, .string n, .int .i64 a]) (by simp [results, Tryz.results73, go_sem, x0, x1, x2]) rfl ⟨u, n, a, p + 1 + 1 + 1, rfl, hn, by omega, ?_, ?_⟩
  ·exact (((hr5.new 0 _ hrl2).new 0 _ hrl).new 1 _ hrl).new 2 _ hrl
  ·exact grown_new (grown_new (grown_new (grown_new G5 _ _ _ hwr) _ _ _ (Nat.le_refl _)) _ _ _ (Nat.le_refl _)) _ _ _ (Nat.le_refl _)
 have e0 : (v == 0) = false := beq_eq_false_iff_ne.2 v0
 by_cases v1 : v = 1
 ·subst v1
  go_wp2_with fail
  refine (rdOf B r (p + 1 + 1) w4.heap.size 5 namesL 9 (0, 0) _ _ rfl (heap_alloc_new w4 _) (by have := hr4.lt; omega) (by simp [namesL]) (by simp [namesL]) (by omega) (rd_more hr4 _)).mono ?_
  rintro e w5 ⟨u, hu, rfl, hr5, hg5⟩
  have hH5 : HostB w2.heap.size k n a w5 := HostB.grown ((Lib.alloc_old w4 _ w2.heap.size hH4.lt).trans hH4) hg5 (by omega)
  have hz5 : HostB w.heap.size 0 ⟨#[]⟩ 0 w5 := HostB.grown ((Lib.alloc_old w4 _ w.heap.size hz4.lt).trans hz4) hg5 (by omega)
  have G5 := grown_trans (grown_alloc G4 _) hg5
  have hus := namesL_size u hu
  have hlt5 := hz5.lt
  have hltH := hH5.lt
  obtain ⟨c0, c1, c2⟩ := hH5.cells
  obtain ⟨y0, y1, y2⟩ := hH5.free
  obtain ⟨x0, x1, x2⟩ := hz5.cells
  obtain ⟨g0, g1, g2⟩ := hz5.free
  clear z0 z1 z2 f0 f1 f2
  go_wp2
  refine bodyPost_ret (v := .agg #[.int .i64 k, .string u, .int .i64 a]) (by simp [results, Tryz.results73, go_sem, x0, x1, x2]) rfl ⟨k, u, a, p + 1 + 1 + 1, rfl, hus, by omega, ?_, ?_⟩
  ·exact (((hr5.new 1 _ hrl2).new 0 _ hrl).new 1 _ hrl).new 2 _ hrl
  ·exact grown_new (grown_new (grown_new (grown_new G5 _ _ _ hwr) _ _ _ (Nat.le_refl _)) _ _ _ (Nat.le_refl _)) _ _ _ (Nat.le_refl _)
 have e1 : (v == 1) = false := beq_eq_false_iff_ne.2 v1
 by_cases v2 : v = 2
 ·subst v2
  go_wp2_with fail
  refine (rdOne B r (p + 1 + 1) w4.heap.size 4 [-1, 4294967295, 4294967296, 7] 3 (0, 0) _ _ rfl (heap_alloc_new w4 _) (by have := hr4.lt; omega) (by simp) (by simp) (by omega) (rd_more hr4 _)).mono ?_
  rintro e w5 ⟨u, hu, rfl, hr5, hg5⟩
  have hH5 : HostB w2.heap.size k n a w5 := HostB.grown ((Lib.alloc_old w4 _ w2.heap.size hH4.lt).trans hH4) hg5 (by omega)
  have hz5 : HostB w.heap.size 0 ⟨#[]⟩ 0 w5 := HostB.grown ((Lib.alloc_old w4 _ w.heap.size hz4.lt).trans hz4) hg5 (by omega)
  have G5 := grown_trans (grown_alloc G4 _) hg5
  have hlt5 := hz5.lt
  have hltH := hH5.lt
  obtain ⟨c0, c1, c2⟩ := hH5.cells
  obtain ⟨y0, y1, y2⟩ := hH5.free
  obtain ⟨x0, x1, x2⟩ := hz5.cells
  obtain ⟨g0, g1, g2⟩ := hz5.free
  clear z0 z1 z2 f0 f1 f2 hu
  go_wp2
  refine bodyPost_ret (v := .agg #[.int .i64 k, .string n, .int .i64 u]) (by simp [results, Tryz.results73, go_sem, x0, x1, x2]) rfl ⟨k, n, u, p + 1 + 1 + 1, rfl, hn, by omega, ?_, ?_⟩
  ·exact (((hr5.new 2 _ hrl2).new 0 _ hrl).new 1 _ hrl).new 2 _ hrl
  ·exact grown_new (grown_new (grown_new (grown_new G5 _ _ _ hwr) _ _ _ (Nat.le_refl _)) _ _ _ (Nat.le_refl _)) _ _ _ (Nat.le_refl _)
 have e2 : (v == 2) = false := beq_eq_false_iff_ne.2 v2
 obtain ⟨c0, c1, c2⟩ := hH4.cells
 have hlt5 := hz4.lt
 have hltH := hH4.lt
 go_wp2
 refine bodyPost_ret (v := .agg #[.int .i64 k, .string n, .int .i64 a]) (by simp [results, Tryz.results73, go_sem, z0, z1, z2]) rfl ⟨k, n, a, p + 1 + 1, rfl, hn, by omega, ?_, ?_⟩
 ·exact ((hr4.new 0 _ hrl).new 1 _ hrl).new 2 _ hrl
 ·exact grown_new (grown_new (grown_new G4 _ _ _ (Nat.le_refl _)) _ _ _ (Nat.le_refl _)) _ _ _ (Nat.le_refl _)
theorem code_alloc {B : Nat} {w : World} {a : Option Addr} {len cap : Nat} (h : Code B w a len cap) (hB : B ≤ w.heap.size) (o : Obj) : Code B (w.alloc o) a len cap := by
 obtain ⟨hl, hm, hc⟩ := h
 refine ⟨hl, hm, ?_⟩
 rcases hc with hc | ⟨b, off, ha, hb, z, hc⟩
 ·exact .inl hc
 ·refine .inr ⟨b, off, ha, hb, z, fun i hi => ⟨?_, (hc i hi).2⟩⟩
  have : (w.alloc o).cell? ⟨b, off + i, none⟩ = w.cell? ⟨b, off + i, none⟩ := by unfold World.cell?; rw [Lib.alloc_old w _ b (by omega)]
  rw [this]; exact (hc i hi).1
end Go.Proofs.YtnfhajhdpdidlaaGreatDoor
end
section
namespace Go.Proofs.YtnfhajhdpdidlaaGreatDoor
open Go.RowKit Go.Shelf
theorem fit_get (l : List UInt8) : Fit (getP l) := by
 unfold getP
 cases h : getO l with
 | none => exact fit_zero
 | some q =>
  unfold getO at h
  split at h
  ·rename_i hl
   rw [Option.bind_eq_some_iff] at h
   obtain ⟨r, hr, h⟩ := h
   split at h
   ·have e : r = q := by simpa using h
    subst e
    exact fit_sch _ _ _ (by have := trim_len l; omega) fit_zero hr
   ·cases h
  ·cases h
theorem rd_put13 {B r p g : Nat} {W : World} (h : Rd B r p W) (hg : r < g) (v0 v1 v2 v3 v4 v5 v6 v7 v8 v9 v10 v11 v12 : Value) : Rd B r p (((((((((((((W.setCell ⟨g, 0, none⟩ v0).setCell ⟨g, 1, none⟩ v1).setCell ⟨g, 2, none⟩ v2).setCell ⟨g, 3, none⟩ v3).setCell ⟨g, 4, none⟩ v4).setCell ⟨g, 5, none⟩ v5).setCell ⟨g, 6, none⟩ v6).setCell ⟨g, 7, none⟩ v7).setCell ⟨g, 8, none⟩ v8).setCell ⟨g, 9, none⟩ v9).setCell ⟨g, 10, none⟩ v10).setCell ⟨g, 11, none⟩ v11).setCell ⟨g, 12, none⟩ v12) :=
 (((((((((((((h.new 0 v0 hg).new 1 v1 hg).new 2 v2 hg).new 3 v3 hg).new 4 v4 hg).new 5 v5 hg).new 6 v6 hg).new 7 v7 hg).new 8 v8 hg).new 9 v9 hg).new 10 v10 hg).new 11 v11 hg).new 12 v12 hg)
theorem grown_put13 {w W : World} {r g : Nat} (h : w.grownBy W (some r)) (hg : w.heap.size ≤ g) (v0 v1 v2 v3 v4 v5 v6 v7 v8 v9 v10 v11 v12 : Value) : w.grownBy (((((((((((((W.setCell ⟨g, 0, none⟩ v0).setCell ⟨g, 1, none⟩ v1).setCell ⟨g, 2, none⟩ v2).setCell ⟨g, 3, none⟩ v3).setCell ⟨g, 4, none⟩ v4).setCell ⟨g, 5, none⟩ v5).setCell ⟨g, 6, none⟩ v6).setCell ⟨g, 7, none⟩ v7).setCell ⟨g, 8, none⟩ v8).setCell ⟨g, 9, none⟩ v9).setCell ⟨g, 10, none⟩ v10).setCell ⟨g, 11, none⟩ v11).setCell ⟨g, 12, none⟩ v12) (some r) :=
 (grown_new (grown_new (grown_new (grown_new (grown_new (grown_new (grown_new (grown_new (grown_new (grown_new (grown_new (grown_new (grown_new h g 0 v0 hg) g 1 v1 hg) g 2 v2 hg) g 3 v3 hg) g 4 v4 hg) g 5 v5 hg) g 6 v6 hg) g 7 v7 hg) g 8 v8 hg) g 9 v9 hg) g 10 v10 hg) g 11 v11 hg) g 12 v12 hg)
def homesL : List ByteArray := [⟨#[104, 116, 116, 112, 58, 47, 47, 97, 46, 99, 111, 109, 47]⟩, ⟨#[104, 116, 116, 112, 58, 47, 47, 97, 46, 99, 111, 109, 47, 120, 35, 102]⟩, ⟨#[104, 116, 116, 112, 115, 58, 47, 47, 98, 46, 97, 46, 99, 111, 109, 47, 121, 63, 113]⟩, ⟨#[97, 98, 111, 117, 116, 58, 98, 108, 97, 110, 107]⟩]
theorem homesL_size (x : ByteArray) (h : x ∈ homesL) : x.size ≤ 200 := by
 simp only [homesL, List.mem_cons, List.not_mem_nil, or_false] at h
 rcases h with rfl | rfl | rfl | rfl <;> decide
theorem getSome (x : ByteArray) (W : World) (hx : x.size ≤ 200) :
  Calls Tryz.prog 83 #[.string x] W fun e w' => ∃ (q : P) (ok : Bool) (a : Option Addr) (n c : Nat), e = .returned (.tuple #[.agg #[(.string q.sc), (.string q.us), (.string q.pw), (.int .i64 q.hk), (.string q.hn), (.int .i64 q.ha), (.int .i64 q.po), (.slice a n c), (.string q.op), (.bool q.hq), (.string q.qu), (.bool q.hf), (.string q.fr)], .bool ok]) ∧ Hid (Fit q ∧ n = q.ps.length) ∧ OwnS W.heap.size (.slice a n c) q.ps w' ∧ Below W.heap.size W w' := by
 refine (specUrlGet x W (by omega)).mono ?_
 rintro e w' ⟨v, rfl, o, d⟩
 obtain ⟨a, c, hv, hc, s⟩ := o.strs
 subst hv
 exact ⟨getP x.data.toList, _, a, _, c, rfl, ⟨fit_get _, rfl⟩, o, d⟩
theorem okSome (q : P) (a : Option Addr) (n c : Nat) (W : World) (hf : Fit q ∧ n = q.ps.length) (o : StrsOf a n q.ps W) :
  Calls Tryz.prog 31 #[.agg #[(.string q.sc), (.string q.us), (.string q.pw), (.int .i64 q.hk), (.string q.hn), (.int .i64 q.ha), (.int .i64 q.po), (.slice a n c), (.string q.op), (.bool q.hq), (.string q.qu), (.bool q.hf), (.string q.fr)]] W fun e w' => ∃ b : Bool, e = .returned (.bool b) ∧ Below W.heap.size W w' := by
 obtain ⟨b, hb⟩ : ∃ b : Bool, b = true ↔ okP q := by
  by_cases h : okP q
  ·exact ⟨true, by simp [h]⟩
  ·exact ⟨false, by simp [h]⟩
 refine (specUrlOk q a n c W o (by have := hf.1.tot; omega) (by have := hf.1.p1; omega) b hb).mono ?_
 rintro e w' ⟨rfl, d⟩
 exact ⟨b, rfl, d⟩
theorem l11Url (B r p : Nat) (w : World) (hp : p ≤ 1000) (h : Rd B r p w) :
  Calls Tryz.prog 71 #[.pointer (some ⟨r, 0, none⟩)] w fun e w' => ∃ (q : P) (a : Option Addr) (n c p' : Nat), e = .returned (.agg #[(.string q.sc), (.string q.us), (.string q.pw), (.int .i64 q.hk), (.string q.hn), (.int .i64 q.ha), (.int .i64 q.po), (.slice a n c), (.string q.op), (.bool q.hq), (.string q.qu), (.bool q.hf), (.string q.fr)]) ∧ OwnS w.heap.size (.slice a n c) q.ps w' ∧ Hid (Fit q ∧ n = q.ps.length) ∧ p' ≤ p + 200 ∧ Rd B r p' w' ∧ w.grownBy w' (some r) := by
 have hrl := h.lt
 obtain ⟨V0, hV0⟩ : ∃ V, V = w.alloc (.cells #[(.string ⟨#[]⟩), (.string ⟨#[]⟩), (.string ⟨#[]⟩), (.int .i64 0), (.string ⟨#[]⟩), (.int .i64 0), (.int .i64 0), (.slice none 0 0), (.string ⟨#[]⟩), (.bool false), (.string ⟨#[]⟩), (.bool false), (.string ⟨#[]⟩)] 31) := ⟨_, rfl⟩
 have HK0 : Hid (Blk w.heap.size (P.zero.cells (.slice none 0 0)) 31 V0) := by show Blk _ _ _ _; rw [hV0]; exact Blk.new w _ _
 have HR0 : Hid (Rd B r p V0) := by rw [hV0]; exact rd_more h _
 have HG0 : Hid (w.grownBy V0 (some r)) := by rw [hV0]; exact World.grownBy_alloc w _ _
 clear h
 go_enter Tryz.func71, Tryz.ntmps71
 go_upto_region 1 with fail
 rw [← hV0]
 clear hV0
 go_wp2_with fail
 go_loopw [3] (fun i wr => ∃ (j p' : Nat), j ≤ 4 ∧ i = .int .i64 j ∧ p' ≤ p + 30 * j ∧ Hid (Blk w.heap.size (P.zero.cells (.slice none 0 0)) 31 wr) ∧ Hid (Rd B r p' wr) ∧ Hid (w.grownBy wr (some r))) (fun i wr => 4 - (intOf i).toNat)
 case atStart => exact ⟨0, p, by decide, rfl, by omega, HK0, HR0, HG0⟩
 case round =>
  clear HK0 HR0 HG0
  obtain ⟨j, p', hj, rfl, hp', HK, HR, HG⟩ := hrel
  by_cases hjj : j < 4
  ·have hji : (j : Int) < 4 := by omega
   go_wp2_with fail
   refine (l11Text B r p' _ (by omega) HR.out).mono ?_
   rintro e w1 ⟨x, p1, rfl, hx, hp1, r1, g1⟩
   have HK1 : Hid (Blk w.heap.size (P.zero.cells (.slice none 0 0)) 31 w1) := (g1.block _ HK.out.lt (by simp; omega)).trans HK.out
   have HG1 : Hid (w.grownBy w1 (some r)) := grown_trans HG.out g1
   have HR1 : Hid (Rd B r p1 w1) := r1
   clear r1 g1 HK HR HG
   go_wp2_with fail
   refine (getSome x _ (by omega)).mono ?_
   rintro e W2 ⟨q, ok, a, n, c, rfl, hF, o2, d2⟩
   have hsz : w.heap.size < w1.heap.size := HK1.out.lt
   obtain ⟨V, hV⟩ : ∃ V, V = W2.alloc (.cells #[(.string q.sc), (.string q.us), (.string q.pw), (.int .i64 q.hk), (.string q.hn), (.int .i64 q.ha), (.int .i64 q.po), (.slice a n c), (.string q.op), (.bool q.hq), (.string q.qu), (.bool q.hf), (.string q.fr)] 31) := ⟨_, rfl⟩
   have HDV : Hid (Below w1.heap.size w1 V) := by show Below _ _ _; rw [hV]; exact d2.alloc d2.size _
   have HKV : Hid (Blk w.heap.size (P.zero.cells (.slice none 0 0)) 31 V) := HK1.out.below HDV.out HK1.out.lt
   have HRV : Hid (Rd B r p1 V) := HR1.out.below HDV.out HR1.out.lt
   have HGV : Hid (w.grownBy V (some r)) := grown_below HG1.out (HDV.out.mono (by have := HG1.out.size; omega))
   have HOV : Hid (OwnS w1.heap.size (.slice a n c) q.ps V) := by rw [hV]; exact o2.later ((Below.refl _ W2).alloc (Nat.le_refl _) _)
   have HUV : Hid (Blk W2.heap.size (q.cells (.slice a n c)) 31 V) := by show Blk _ _ _ _; rw [hV]; exact Blk.new W2 _ _
   clear o2 d2 HK1 HR1 HG1 HDV
   go_upto_region 5 with fail
   rw [← hV]
   clear hV
   generalize W2.heap.size = gu at *
   cases ok with
   | false =>
    go_wp2
    go_roundw
    case rel => exact ⟨j + 1, p1, by omega, by go_num, by omega, HKV, HRV, HGV⟩
    case measure => simp [intOf]; omega
   | true =>
    obtain ⟨k0, k1, k2, k3, k4, k5, k6, k7, k8, k9, k10, k11, k12⟩ := Blk.cells13a HUV.out
    go_wp2_with fail
    refine (okSome q a n c _ hF.out (by
     obtain ⟨a1, c1, h1, h2, s1⟩ := HOV.out.strs
     rw [← hF.out.2] at h1 s1
     injection h1 with e1 e2 e3
     rw [← e1] at s1
     exact s1)).mono ?_
    rintro e W3 ⟨b, rfl, d3⟩
    have HK3 : Hid (Blk w.heap.size (P.zero.cells (.slice none 0 0)) 31 W3) := HKV.out.below d3 HKV.out.lt
    have HR3 : Hid (Rd B r p1 W3) := HRV.out.below d3 HRV.out.lt
    have HG3 : Hid (w.grownBy W3 (some r)) := grown_below HGV.out (d3.mono (by have := HGV.out.size; omega))
    have HO3 : Hid (OwnS w1.heap.size (.slice a n c) q.ps W3) := HOV.out.later d3
    have HU3 : Hid (Blk gu (q.cells (.slice a n c)) 31 W3) := HUV.out.below d3 HUV.out.lt
    clear d3 HKV HRV HGV HOV HUV k0 k1 k2 k3 k4 k5 k6 k7 k8 k9 k10 k11 k12
    cases b with
    | false =>
     go_wp2
     go_roundw
     case rel => exact ⟨j + 1, p1, by omega, by go_num, by omega, HK3, HR3, HG3⟩
     case measure => simp [intOf]; omega
    | true =>
     obtain ⟨k0, k1, k2, k3, k4, k5, k6, k7, k8, k9, k10, k11, k12⟩ := Blk.cells13a HU3.out
     obtain ⟨e0, e1, e2, e3, e4, e5, e6, e7, e8, e9, e10, e11, e12⟩ := Blk.cells13a HK3.out
     have fr := HK3.out.free
     have HFIN : Hid (OwnS w.heap.size (.slice a n c) q.ps (((((((((((((W3.setCell ⟨w.heap.size, 0, none⟩ (.string q.sc)).setCell ⟨w.heap.size, 1, none⟩ (.string q.us)).setCell ⟨w.heap.size, 2, none⟩ (.string q.pw)).setCell ⟨w.heap.size, 3, none⟩ (.int .i64 q.hk)).setCell ⟨w.heap.size, 4, none⟩ (.string q.hn)).setCell ⟨w.heap.size, 5, none⟩ (.int .i64 q.ha)).setCell ⟨w.heap.size, 6, none⟩ (.int .i64 q.po)).setCell ⟨w.heap.size, 7, none⟩ (.slice a n c)).setCell ⟨w.heap.size, 8, none⟩ (.string q.op)).setCell ⟨w.heap.size, 9, none⟩ (.bool q.hq)).setCell ⟨w.heap.size, 10, none⟩ (.string q.qu)).setCell ⟨w.heap.size, 11, none⟩ (.bool q.hf)).setCell ⟨w.heap.size, 12, none⟩ (.string q.fr)) ∧ Rd B r p1 (((((((((((((W3.setCell ⟨w.heap.size, 0, none⟩ (.string q.sc)).setCell ⟨w.heap.size, 1, none⟩ (.string q.us)).setCell ⟨w.heap.size, 2, none⟩ (.string q.pw)).setCell ⟨w.heap.size, 3, none⟩ (.int .i64 q.hk)).setCell ⟨w.heap.size, 4, none⟩ (.string q.hn)).setCell ⟨w.heap.size, 5, none⟩ (.int .i64 q.ha)).setCell ⟨w.heap.size, 6, none⟩ (.int .i64 q.po)).setCell ⟨w.heap.size, 7, none⟩ (.slice a n c)).setCell ⟨w.heap.size, 8, none⟩ (.string q.op)).setCell ⟨w.heap.size, 9, none⟩ (.bool q.hq)).setCell ⟨w.heap.size, 10, none⟩ (.string q.qu)).setCell ⟨w.heap.size, 11, none⟩ (.bool q.hf)).setCell ⟨w.heap.size, 12, none⟩ (.string q.fr)) ∧ w.grownBy (((((((((((((W3.setCell ⟨w.heap.size, 0, none⟩ (.string q.sc)).setCell ⟨w.heap.size, 1, none⟩ (.string q.us)).setCell ⟨w.heap.size, 2, none⟩ (.string q.pw)).setCell ⟨w.heap.size, 3, none⟩ (.int .i64 q.hk)).setCell ⟨w.heap.size, 4, none⟩ (.string q.hn)).setCell ⟨w.heap.size, 5, none⟩ (.int .i64 q.ha)).setCell ⟨w.heap.size, 6, none⟩ (.int .i64 q.po)).setCell ⟨w.heap.size, 7, none⟩ (.slice a n c)).setCell ⟨w.heap.size, 8, none⟩ (.string q.op)).setCell ⟨w.heap.size, 9, none⟩ (.bool q.hq)).setCell ⟨w.heap.size, 10, none⟩ (.string q.qu)).setCell ⟨w.heap.size, 11, none⟩ (.bool q.hf)).setCell ⟨w.heap.size, 12, none⟩ (.string q.fr)) (some r)) := ⟨(OwnS.put13 HO3.out (by omega)).mono (by omega), rd_put13 HR3.out hrl _ _ _ _ _ _ _ _ _ _ _ _ _, grown_put13 HG3.out (Nat.le_refl _) _ _ _ _ _ _ _ _ _ _ _ _ _⟩
     clear HK3 HR3 HG3 HO3 HU3
     go_wp2
     refine bodyPost_ret (v := .agg #[(.string q.sc), (.string q.us), (.string q.pw), (.int .i64 q.hk), (.string q.hn), (.int .i64 q.ha), (.int .i64 q.po), (.slice a n c), (.string q.op), (.bool q.hq), (.string q.qu), (.bool q.hf), (.string q.fr)]) (by simp [results, Tryz.results71, go_sem, e0, e1, e2, e3, e4, e5, e6, e7, e8, e9, e10, e11, e12]) rfl ⟨q, a, n, c, p1, rfl, HFIN.out.1, hF, by omega, HFIN.out.2.1, HFIN.out.2.2⟩
  ·have hji : ¬ ((j : Int) < 4) := by omega
   have hrw := HR.out.lt
   go_wp2_with fail
   refine (rdOf B r p' wr.heap.size 4 homesL 9 (0, 0) _ _ rfl (heap_alloc_new wr _) (by omega) (by simp [homesL]) (by simp [homesL]) (by omega) (rd_more HR.out _)).mono ?_
   rintro e w1 ⟨x, hx, rfl, r1, g1⟩
   have hxs := homesL_size x hx
   have HK1 : Hid (Blk w.heap.size (P.zero.cells (.slice none 0 0)) 31 w1) := by
    have h1 := HK.out.alloc (.cells (homesL.map Value.string).toArray 9)
    exact (g1.block _ h1.lt (by simp; omega)).trans h1
   have HG1 : Hid (w.grownBy w1 (some r)) := grown_trans (grown_alloc HG.out _) g1
   have HR1 : Hid (Rd B r (p' + 1) w1) := r1
   clear r1 g1 HK HR HG hx
   go_wp2_with fail
   refine (getSome x _ hxs).mono ?_
   rintro e W2 ⟨q, ok, a, n, c, rfl, hF, o2, d2⟩
   have hsz : w.heap.size < w1.heap.size := HK1.out.lt
   obtain ⟨V, hV⟩ : ∃ V, V = W2.alloc (.cells #[(.string q.sc), (.string q.us), (.string q.pw), (.int .i64 q.hk), (.string q.hn), (.int .i64 q.ha), (.int .i64 q.po), (.slice a n c), (.string q.op), (.bool q.hq), (.string q.qu), (.bool q.hf), (.string q.fr)] 31) := ⟨_, rfl⟩
   have HDV : Hid (Below w1.heap.size w1 V) := by show Below _ _ _; rw [hV]; exact d2.alloc d2.size _
   have HK3 : Hid (Blk w.heap.size (P.zero.cells (.slice none 0 0)) 31 V) := HK1.out.below HDV.out HK1.out.lt
   have HR3 : Hid (Rd B r (p' + 1) V) := HR1.out.below HDV.out HR1.out.lt
   have HG3 : Hid (w.grownBy V (some r)) := grown_below HG1.out (HDV.out.mono (by have := HG1.out.size; omega))
   have HO3 : Hid (OwnS w1.heap.size (.slice a n c) q.ps V) := by rw [hV]; exact o2.later ((Below.refl _ W2).alloc (Nat.le_refl _) _)
   have HU3 : Hid (Blk W2.heap.size (q.cells (.slice a n c)) 31 V) := by show Blk _ _ _ _; rw [hV]; exact Blk.new W2 _ _
   clear o2 d2 HK1 HR1 HG1 HDV
   go_upto_region 8 with fail
   rw [← hV]
   clear hV
   generalize W2.heap.size = gu at *
   obtain ⟨k0, k1, k2, k3, k4, k5, k6, k7, k8, k9, k10, k11, k12⟩ := Blk.cells13a HU3.out
   obtain ⟨e0, e1, e2, e3, e4, e5, e6, e7, e8, e9, e10, e11, e12⟩ := Blk.cells13a HK3.out
   have fr := HK3.out.free
   have HFIN : Hid (OwnS w.heap.size (.slice a n c) q.ps (((((((((((((V.setCell ⟨w.heap.size, 0, none⟩ (.string q.sc)).setCell ⟨w.heap.size, 1, none⟩ (.string q.us)).setCell ⟨w.heap.size, 2, none⟩ (.string q.pw)).setCell ⟨w.heap.size, 3, none⟩ (.int .i64 q.hk)).setCell ⟨w.heap.size, 4, none⟩ (.string q.hn)).setCell ⟨w.heap.size, 5, none⟩ (.int .i64 q.ha)).setCell ⟨w.heap.size, 6, none⟩ (.int .i64 q.po)).setCell ⟨w.heap.size, 7, none⟩ (.slice a n c)).setCell ⟨w.heap.size, 8, none⟩ (.string q.op)).setCell ⟨w.heap.size, 9, none⟩ (.bool q.hq)).setCell ⟨w.heap.size, 10, none⟩ (.string q.qu)).setCell ⟨w.heap.size, 11, none⟩ (.bool q.hf)).setCell ⟨w.heap.size, 12, none⟩ (.string q.fr)) ∧ Rd B r (p' + 1) (((((((((((((V.setCell ⟨w.heap.size, 0, none⟩ (.string q.sc)).setCell ⟨w.heap.size, 1, none⟩ (.string q.us)).setCell ⟨w.heap.size, 2, none⟩ (.string q.pw)).setCell ⟨w.heap.size, 3, none⟩ (.int .i64 q.hk)).setCell ⟨w.heap.size, 4, none⟩ (.string q.hn)).setCell ⟨w.heap.size, 5, none⟩ (.int .i64 q.ha)).setCell ⟨w.heap.size, 6, none⟩ (.int .i64 q.po)).setCell ⟨w.heap.size, 7, none⟩ (.slice a n c)).setCell ⟨w.heap.size, 8, none⟩ (.string q.op)).setCell ⟨w.heap.size, 9, none⟩ (.bool q.hq)).setCell ⟨w.heap.size, 10, none⟩ (.string q.qu)).setCell ⟨w.heap.size, 11, none⟩ (.bool q.hf)).setCell ⟨w.heap.size, 12, none⟩ (.string q.fr)) ∧ w.grownBy (((((((((((((V.setCell ⟨w.heap.size, 0, none⟩ (.string q.sc)).setCell ⟨w.heap.size, 1, none⟩ (.string q.us)).setCell ⟨w.heap.size, 2, none⟩ (.string q.pw)).setCell ⟨w.heap.size, 3, none⟩ (.int .i64 q.hk)).setCell ⟨w.heap.size, 4, none⟩ (.string q.hn)).setCell ⟨w.heap.size, 5, none⟩ (.int .i64 q.ha)).setCell ⟨w.heap.size, 6, none⟩ (.int .i64 q.po)).setCell ⟨w.heap.size, 7, none⟩ (.slice a n c)).setCell ⟨w.heap.size, 8, none⟩ (.string q.op)).setCell ⟨w.heap.size, 9, none⟩ (.bool q.hq)).setCell ⟨w.heap.size, 10, none⟩ (.string q.qu)).setCell ⟨w.heap.size, 11, none⟩ (.bool q.hf)).setCell ⟨w.heap.size, 12, none⟩ (.string q.fr)) (some r)) := ⟨(OwnS.put13 HO3.out (by omega)).mono (by omega), rd_put13 HR3.out hrl _ _ _ _ _ _ _ _ _ _ _ _ _, grown_put13 HG3.out (Nat.le_refl _) _ _ _ _ _ _ _ _ _ _ _ _ _⟩
   clear HK3 HR3 HG3 HO3 HU3
   go_wp2
   refine bodyPost_ret (v := .agg #[(.string q.sc), (.string q.us), (.string q.pw), (.int .i64 q.hk), (.string q.hn), (.int .i64 q.ha), (.int .i64 q.po), (.slice a n c), (.string q.op), (.bool q.hq), (.string q.qu), (.bool q.hf), (.string q.fr)]) (by simp [results, Tryz.results71, go_sem, e0, e1, e2, e3, e4, e5, e6, e7, e8, e9, e10, e11, e12]) rfl ⟨q, a, n, c, p' + 1, rfl, HFIN.out.1, hF, by omega, HFIN.out.2.1, HFIN.out.2.2⟩
end Go.Proofs.YtnfhajhdpdidlaaGreatDoor
end

/- l11Bytes draws a text of as many bytes as it is asked for. spec.l11Tail, spec.l11Text: a text that may be an address is drawn. spec.l1Many, spec.DrawUrlGet: a text that may be an address is drawn. The law FnUrlSpace answers true, whatever the code. -/
import Derived.Test.YticbekooadnnlaaGreatDoorCFnUrlSpace05
import Derived.Test.YticbekooadnnlaaGreatDoorCFnUrlSpace04
import Derived.Test.YticbekooadnnlaaGreatDoorB02
import Derived.Test.YticbekooadnnlaaGreatDoorCFnUrlSpace02
import Derived.Deep.Cut
import Derived.Deep.RegionWith
section
set_option linter.unusedVariables false
namespace Go.Proofs.YticbekooadnnlaaGreatDoor
open Go.RowKit Go.Shelf

theorem byte_of (x : Int) (h0 : 0 ≤ x) (h1 : x ≤ 255) : ∃ c : UInt8, (c.toNat : Int) = x := by
  refine ⟨UInt8.ofNat x.toNat, ?_⟩
  rw [UInt8.toNat_ofNat']
  omega

def l11List (v : Int) : List Int := [97, 98, 37, 47, 63, 35, 32, 43, 38, 61, 50, 70, 64, 58, 92, 46, 255, 0, 195, v]
theorem l11List_range (v x : Int) (h0 : 0 ≤ v) (h1 : v < 256) (hx : x ∈ l11List v) : 0 ≤ x ∧ x ≤ 255 := by
  simp only [l11List, List.mem_cons, List.not_mem_nil, or_false] at hx
  omega

set_option maxHeartbeats 2000000 in
set_option maxRecDepth 100000 in
theorem l11Bytes (B r p n : Nat) (w : World) (hn : n ≤ 1000) (hp : p + 2 * n ≤ 1000000) (h : Rd B r p w) :
    Calls Tryz.prog 73 #[.pointer (some ⟨r, 0, none⟩), .int .i64 (n : Int)] w fun e w' => ∃ l : List UInt8, e = .returned (.string ⟨l.toArray⟩) ∧ l.length = n ∧ Rd B r (p + 2 * n) w' ∧ w.grownBy w' (some r) := by
  have hrl := h.lt
  go_enter Tryz.func73, Tryz.ntmps73
  go_wp2
  go_loopw [1, 5] (fun i v wr => ∃ (m : Nat) (l : List UInt8), m ≤ n ∧ i = .int .i64 m ∧ l.length + m = n ∧ OwnB w.heap.size v l wr ∧ Rd B r (p + 2 * l.length) wr ∧ w.grownBy wr (some r)) (fun i _ wr => (intOf i).toNat)
  case atStart =>
    exact ⟨n, [], Nat.le_refl _, rfl, by simp, ownB_new w _ (Nat.le_refl _), h.stays (Lib.alloc_old w _ r hrl) (fun k hk => Lib.alloc_old w _ k (by have := h.1; omega)), World.grownBy_alloc w _ _⟩
  case round =>
    obtain ⟨m, l, hm, rfl, hlm, hI, hR, hG⟩ := hrel
    have hsz : w.heap.size ≤ wr.heap.size := hG.size
    by_cases h0 : m = 0
    · subst h0
      have ht := ownB_text hI
      go_wp2
      go_ret
      obtain rfl : l.length = n := by omega
      exact ⟨l, rfl, rfl, hR, hG⟩
    · have h0i : (0 : Int) < (m : Int) := by omega
      go_wp2_with fail
      refine (pick B r (p + 2 * l.length) 256 _ (by omega) (by omega) (by omega) hR).mono ?_
      rintro e w1 ⟨v, rfl, hv0, hv1, hr1, hg1⟩
      have hI1 := hI.keptRd hR hg1
      have hr1l := hr1.lt
      have HX := l11List_range v
      go_wp2_with fail
      refine (rdOne B r (p + 2 * l.length + 1) w1.heap.size 20 (l11List v) 3 (0, 0) _ _ rfl (heap_alloc_new w1 _) (by omega) (by simp [l11List]) (by simp [l11List]) (by omega) (hr1.stays (Lib.alloc_old w1 _ r hr1l) (fun k hk => Lib.alloc_old w1 _ k (by have := hr1.1; omega)))).mono ?_
      rintro e w2 ⟨x, hx, rfl, hr2, hg2⟩
      obtain ⟨hx0, hx1⟩ := HX x hv0 hv1 hx
      obtain ⟨c, hc⟩ := byte_of x hx0 hx1
      have HC : Hid ((c.toNat : Int) = x) := hc
      clear hc hx HX
      have hI2 : OwnB w.heap.size _ l w2 := (hI1.alloc _).keptRd (hr1.stays (Lib.alloc_old w1 _ r hr1l) (fun k hk => Lib.alloc_old w1 _ k (by have := hr1.1; omega))) hg2
      have hG2 : w.grownBy w2 (some r) := grown_trans (grown_alloc (grown_trans hG hg1) _) hg2
      go_wp2_with (at_builtin; refine wpAppendByte w2 rfl _ _ rfl w.heap.size _ _ c _ HC.out hI2 rfl rfl (by omega) hG2.size ?_; intro v1 w3 R b3)
      go_roundw
      case rel =>
        refine ⟨m - 1, l ++ [c], by omega, by go_num, by simp; omega, R, ?_, grown_below hG2 b3⟩
        have : p + 2 * (l ++ [c]).length = p + 2 * l.length + 1 + 1 := by simp; omega
        rw [this]; exact hr2.below b3 hrl
      case measure => simp [intOf]; omega

theorem l11BytesI (B r p : Nat) (x : Int) (w : World) (h0 : 0 ≤ x) (h1 : x ≤ 1000) (hp : p + 2000 ≤ 1000000) (h : Rd B r p w) :
    Calls Tryz.prog 73 #[.pointer (some ⟨r, 0, none⟩), .int .i64 x] w fun e w' => ∃ l : List UInt8, e = .returned (.string ⟨l.toArray⟩) ∧ (l.length : Int) = x ∧ Rd B r (p + 2 * x.toNat) w' ∧ w.grownBy w' (some r) := by
  obtain ⟨n, rfl⟩ := Int.eq_ofNat_of_zero_le h0
  refine (l11Bytes B r p n w (by omega) (by omega) h).mono ?_
  rintro e w' ⟨l, rfl, hl, hr, hg⟩
  exact ⟨l, rfl, by omega, by rw [Int.toNat_natCast]; exact hr, hg⟩
end Go.Proofs.YticbekooadnnlaaGreatDoor
end

section
set_option linter.unusedVariables false
set_option linter.unusedSimpArgs false
namespace Go.Proofs.YticbekooadnnlaaGreatDoor
open Go.RowKit Go.Shelf

def tailsL : List ByteArray := [⟨#[]⟩, ⟨#[]⟩, ⟨#[63]⟩, ⟨#[63, 113, 61, 49]⟩, ⟨#[63, 97, 32, 98]⟩, ⟨#[35]⟩, ⟨#[35, 102]⟩, ⟨#[63, 113, 35, 102]⟩, ⟨#[35, 97, 32, 98]⟩, ⟨#[63, 39, 35, 34]⟩, ⟨#[35, 120, 63, 121]⟩]
theorem tailsL_size (x : ByteArray) (h : x ∈ tailsL) : x.size ≤ 4 := by
  simp only [tailsL, List.mem_cons, List.not_mem_nil, or_false] at h
  rcases h with rfl | rfl | rfl | rfl | rfl | rfl | rfl | rfl | rfl | rfl | rfl <;> decide
set_option maxHeartbeats 2000000 in
set_option maxRecDepth 100000 in
theorem l11Tail (B r p : Nat) (w : World) (hp : p ≤ 100000) (h : Rd B r p w) :
    Calls Tryz.prog 76 #[.pointer (some ⟨r, 0, none⟩)] w fun e w' => ∃ x : ByteArray, x.size ≤ 4 ∧ e = .returned (.string x) ∧ Rd B r (p + 1) w' ∧ w.grownBy w' (some r) := by
  have hrl := h.lt
  go_enter Tryz.func76, Tryz.ntmps76
  go_wp2_with fail
  refine (rdOf B r p w.heap.size 11 tailsL 9 (0, 0) _ _ rfl (heap_alloc_new w _) (by omega) (by simp [tailsL]) (by simp [tailsL]) (by omega) (rd_more h _)).mono ?_
  rintro e w2 ⟨y, hy, rfl, hr2, hg2⟩
  go_wp2
  go_ret
  exact ⟨y, tailsL_size y hy, rfl, hr2, grown_trans (World.grownBy_alloc w _ _) hg2⟩

def oddsL : List ByteArray := [⟨#[97, 98, 111, 117, 116, 58, 98, 108, 97, 110, 107]⟩, ⟨#[100, 97, 116, 97, 58, 120, 32, 121]⟩, ⟨#[109, 97, 105, 108, 116, 111, 58, 97, 64, 98]⟩, ⟨#[97, 98, 111, 117, 116, 58, 98, 108, 97, 110, 107, 35, 102]⟩, ⟨#[120, 58]⟩, ⟨#[97, 45, 98, 46, 99, 43, 49, 58, 122, 32, 63, 113]⟩, ⟨#[97, 98, 111, 117, 116, 58, 98, 108, 97, 110, 107, 63, 113, 32]⟩]
theorem oddsL_size (x : ByteArray) (h : x ∈ oddsL) : x.size ≤ 14 := by
  simp only [oddsL, List.mem_cons, List.not_mem_nil, or_false] at h
  rcases h with rfl | rfl | rfl | rfl | rfl | rfl | rfl <;> decide
def heads9L : List ByteArray := [⟨#[104, 116, 116, 112, 58, 47, 47]⟩, ⟨#[104, 116, 116, 112, 58, 47, 47]⟩, ⟨#[104, 116, 116, 112, 115, 58, 47, 47]⟩, ⟨#[72, 84, 84, 80, 58]⟩, ⟨#[104, 116, 116, 112, 58, 47]⟩, ⟨#[104, 116, 116, 112, 115, 58, 92, 92]⟩, ⟨#[104, 116, 116, 112, 58, 47, 47, 47, 47]⟩, ⟨#[32, 104, 116, 116, 112, 58, 47, 47]⟩, ⟨#[104, 116, 9, 116, 112, 58, 47, 47]⟩]
theorem heads9L_size (x : ByteArray) (h : x ∈ heads9L) : x.size ≤ 9 := by
  simp only [heads9L, List.mem_cons, List.not_mem_nil, or_false] at h
  rcases h with rfl | rfl | rfl | rfl | rfl | rfl | rfl | rfl | rfl <;> decide
def whosL : List ByteArray := [⟨#[]⟩, ⟨#[]⟩, ⟨#[]⟩, ⟨#[117, 64]⟩, ⟨#[117, 58, 112, 64]⟩, ⟨#[58, 112, 64]⟩, ⟨#[64]⟩, ⟨#[97, 64, 98, 64]⟩, ⟨#[117, 58, 112, 58, 113, 64]⟩]
theorem whosL_size (x : ByteArray) (h : x ∈ whosL) : x.size ≤ 6 := by
  simp only [whosL, List.mem_cons, List.not_mem_nil, or_false] at h
  rcases h with rfl | rfl | rfl | rfl | rfl | rfl | rfl | rfl | rfl <;> decide
def hosts7L (y : ByteArray) : List ByteArray := [⟨#[97, 46, 99, 111, 109]⟩, ⟨#[98, 46, 97, 46, 99, 111, 109]⟩, ⟨#[97, 46, 99, 111, 109]⟩, ⟨#[65, 46, 67, 111, 109]⟩, ⟨#[49, 46, 50, 46, 51, 46, 52]⟩, ⟨#[48, 120, 55, 102, 46, 49]⟩, y]
theorem hosts7L_size (y x : ByteArray) (hy : y.size ≤ 10) (h : x ∈ hosts7L y) : x.size ≤ 10 := by
  simp only [hosts7L, List.mem_cons, List.not_mem_nil, or_false] at h
  rcases h with rfl | rfl | rfl | rfl | rfl | rfl | rfl
  · decide
  · decide
  · decide
  · decide
  · decide
  · decide
  · exact hy
def portsL : List ByteArray := [⟨#[]⟩, ⟨#[]⟩, ⟨#[]⟩, ⟨#[58, 56, 48]⟩, ⟨#[58, 52, 52, 51]⟩, ⟨#[58, 56, 48, 56, 48]⟩, ⟨#[58]⟩, ⟨#[58, 54, 53, 53, 51, 54]⟩, ⟨#[58, 48]⟩, ⟨#[58, 120]⟩]
theorem portsL_size (x : ByteArray) (h : x ∈ portsL) : x.size ≤ 6 := by
  simp only [portsL, List.mem_cons, List.not_mem_nil, or_false] at h
  rcases h with rfl | rfl | rfl | rfl | rfl | rfl | rfl | rfl | rfl | rfl <;> decide
set_option maxHeartbeats 4000000 in
set_option maxRecDepth 100000 in
theorem l11Text (B r p : Nat) (w : World) (hp : p ≤ 10000) (h : Rd B r p w) :
    Calls Tryz.prog 42 #[.pointer (some ⟨r, 0, none⟩)] w fun e w' => ∃ (x : ByteArray) (q : Nat), e = .returned (.string x) ∧ x.size ≤ 100 ∧ q ≤ p + 30 ∧ Rd B r q w' ∧ w.grownBy w' (some r) := by
  go_enter Tryz.func42, Tryz.ntmps42
  go_wp2_with fail
  refine (pick B r p 10 _ (by decide) (by decide) (by omega) h).mono ?_
  rintro e w1 ⟨v, rfl, hv0, hv1, hr1, hg1⟩
  have hrl := hr1.lt
  by_cases h0 : v = 0
  · subst h0
    go_wp2_with fail
    refine (rdOf B r (p + 1) w1.heap.size 7 oddsL 9 (0, 0) _ _ rfl (heap_alloc_new w1 _) (by omega) (by simp [oddsL]) (by simp [oddsL]) (by omega) (rd_more hr1 _)).mono ?_
    rintro e w2 ⟨y, hy, rfl, hr2, hg2⟩
    have hys := oddsL_size y hy
    have hG2 : w.grownBy w2 (some r) := grown_trans (grown_alloc hg1 _) hg2
    clear hy
    go_wp2
    go_ret
    exact ⟨y, p + 1 + 1, rfl, by omega, by omega, hr2, hG2⟩
  · by_cases h1 : v = 1
    · subst h1
      go_wp2_with fail
      refine (pick B r (p + 1) 9 _ (by decide) (by decide) (by omega) hr1).mono ?_
      rintro e w2 ⟨k, rfl, hk0, hk1, hr2, hg2⟩
      go_wp2_with fail
      refine (l11BytesI B r (p + 1 + 1) k _ hk0 (by omega) (by omega) hr2).mono ?_
      rintro e w3 ⟨l, rfl, hl, hr3, hg3⟩
      have hG3 : w.grownBy w3 (some r) := grown_trans (grown_trans hg1 hg2) hg3
      go_wp2
      go_ret
      exact ⟨mk l, p + 1 + 1 + 2 * k.toNat, rfl, by rw [mk_size]; omega, by omega, hr3, hG3⟩
    · have e0 : (v == 0) = false := by simpa using h0
      have e1 : (v == 1) = false := by simpa using h1
      clear hv0 hv1
      go_wp2_with fail
      refine (rdOf B r (p + 1) w1.heap.size 9 heads9L 9 (0, 0) _ _ rfl (heap_alloc_new w1 _) (by omega) (by simp [heads9L]) (by simp [heads9L]) (by omega) (rd_more hr1 _)).mono ?_
      rintro e w2 ⟨y1, hy1, rfl, hr2, hg2⟩
      have s1 := heads9L_size y1 hy1
      have G2 : w.grownBy w2 (some r) := grown_trans (grown_alloc hg1 _) hg2
      have l2 := hr2.lt
      clear hy1 hg1 hg2 hr1 e0 e1 h0 h1 hrl
      go_wp2_with fail
      refine (rdOf B r (p + 1 + 1) w2.heap.size 9 whosL 9 (0, 0) _ _ rfl (heap_alloc_new w2 _) (by omega) (by simp [whosL]) (by simp [whosL]) (by omega) (rd_more hr2 _)).mono ?_
      rintro e w3 ⟨y2, hy2, rfl, hr3, hg3⟩
      have s2 := whosL_size y2 hy2
      have G3 : w.grownBy w3 (some r) := grown_trans (grown_alloc G2 _) hg3
      have l3 := hr3.lt
      clear hy2 hg3 hr2 G2
      go_wp2_with fail
      refine (l11Host B r (p + 1 + 1 + 1) _ (by omega) hr3).mono ?_
      rintro e w4 ⟨y3, hy3, rfl, hr4, hg4⟩
      have s3 := hostsL_size y3 hy3
      have G4 : w.grownBy w4 (some r) := grown_trans G3 hg4
      have l4 := hr4.lt
      clear hy3 hg4 hr3 G3
      go_wp2_with fail
      refine (rdOf B r (p + 1 + 1 + 1 + 1) w4.heap.size 7 (hosts7L y3) 9 (0, 0) _ _ rfl (heap_alloc_new w4 _) (by omega) (by simp [hosts7L]) (by simp [hosts7L]) (by omega) (rd_more hr4 _)).mono ?_
      rintro e w5 ⟨y4, hy4, rfl, hr5, hg5⟩
      have s4 := hosts7L_size y3 y4 s3 hy4
      have G5 : w.grownBy w5 (some r) := grown_trans (grown_alloc G4 _) hg5
      have l5 := hr5.lt
      have z1 : (y1 ++ y2).size ≤ 100 := by rw [ByteArray.size_append]; omega
      have z2 : (y1 ++ y2 ++ y4).size ≤ 25 := by rw [ByteArray.size_append, ByteArray.size_append]; omega
      clear hy4 hg5 hr4 G4
      go_wp2_with fail
      refine (rdOf B r (p + 1 + 1 + 1 + 1 + 1) w5.heap.size 10 portsL 9 (0, 0) _ _ rfl (heap_alloc_new w5 _) (by omega) (by simp [portsL]) (by simp [portsL]) (by omega) (rd_more hr5 _)).mono ?_
      rintro e w6 ⟨y5, hy5, rfl, hr6, hg6⟩
      have s5 := portsL_size y5 hy5
      have G6 : w.grownBy w6 (some r) := grown_trans (grown_alloc G5 _) hg6
      clear hy5 hg6 hr5 G5
      go_wp2_with fail
      refine (l11Path B r (p + 1 + 1 + 1 + 1 + 1 + 1) _ (by omega) hr6).mono ?_
      rintro e w7 ⟨y6, q, rfl, s6, hq, hr7, hg7⟩
      have G7 : w.grownBy w7 (some r) := grown_trans G6 hg7
      clear hg7 hr6 G6
      go_wp2_with fail
      refine (l11Tail B r q _ (by omega) hr7).mono ?_
      rintro e w8 ⟨y7, s7, rfl, hr8, hg8⟩
      have G8 : w.grownBy w8 (some r) := grown_trans G7 hg8
      have z3 : (y1 ++ y2 ++ y4 ++ y5).size ≤ 31 := by rw [ByteArray.size_append]; omega
      have z4 : (y1 ++ y2 ++ y4 ++ y5 ++ y6).size ≤ 51 := by rw [ByteArray.size_append]; omega
      clear hg8 hr7 G7
      go_wp2
      go_ret
      exact ⟨_, q + 1, rfl, by rw [ByteArray.size_append]; omega, by omega, hr8, G8⟩
end Go.Proofs.YticbekooadnnlaaGreatDoor
end

section
set_option linter.unusedVariables false
set_option linter.unusedSimpArgs false
namespace Go.Proofs.YticbekooadnnlaaGreatDoor
open Go.RowKit Go.Shelf

theorem many_odd (A S n : Nat) (h : n % 2 = 1) : A + S + (S + S) * (n / 2) = A + S * n := by
  have e : n = 2 * (n / 2) + 1 := by omega
  generalize n / 2 = m at e
  subst e
  rw [Nat.add_mul, Nat.mul_add, Nat.mul_one]
  have : S * (2 * m) = S * m + S * m := by rw [← Nat.mul_assoc, Nat.mul_comm S 2, Nat.mul_assoc, Nat.two_mul]
  omega
theorem many_even (A S n : Nat) (h : n % 2 ≠ 1) : A + (S + S) * (n / 2) = A + S * n := by
  have e : n = 2 * (n / 2) := by omega
  generalize n / 2 = m at e
  subst e
  rw [Nat.add_mul]
  have : S * (2 * m) = S * m + S * m := by rw [← Nat.mul_assoc, Nat.mul_comm S 2, Nat.mul_assoc, Nat.two_mul]
  omega
theorem many_le (S n : Nat) (h : 0 < n) : S ≤ S * n := Nat.le_mul_of_pos_right S h

set_option maxHeartbeats 2000000 in
set_option maxRecDepth 100000 in
theorem l1Many (s : ByteArray) (N : Nat) (w : World) (hs : s.size ≤ 2) (hN : N ≤ 192) :
    Calls Tryz.prog 39 #[.string s, .int .i64 N] w fun e w' => ∃ x : ByteArray, e = .returned (.string x) ∧ x.size ≤ 384 ∧ ∃ n, w' = w.drewN n := by
  have hSN : s.size * N ≤ 384 := by
    have h1 : s.size * N ≤ 2 * N := Nat.mul_le_mul_right N hs
    omega
  go_enter Tryz.func39, Tryz.ntmps39
  go_wp2
  go_loopw [0, 1, 5] (fun sv nv ov wr => ∃ (t o : ByteArray) (k d : Nat), k ≤ 192 ∧ sv = .string t ∧ nv = .int .i64 (k : Int) ∧ ov = .string o ∧ Hid (o.size + t.size * k ≤ 384) ∧ wr = w.drewN d) (fun _ nv _ wr => (intOf nv).toNat)
  case atStart => exact ⟨s, ⟨#[]⟩, N, 0, hN, rfl, rfl, rfl, (by show 0 + _ ≤ 384; omega), rfl⟩
  case round =>
    obtain ⟨t, o, k, d, hk, rfl, rfl, rfl, HA, rfl⟩ := hrel
    by_cases h0 : 0 < k
    · have h0i : (0 : Int) < (k : Int) := by omega
      have hts : t.size ≤ 384 := by have := many_le t.size k h0; have := HA.out; omega
      have hos : o.size ≤ 384 := by have := HA.out; omega
      have hd : (k : Int).tdiv 2 = ((k / 2 : Nat) : Int) := rfl
      have hw1 : IntKind.i64.wrap ((k : Int).tdiv 2) = ((k / 2 : Nat) : Int) := by rw [hd, IntKind.wrap_i64]; omega
      have hw2 : (k : Int).tmod 2 = ((k % 2 : Nat) : Int) := rfl
      have htt : (t ++ t).size = t.size + t.size := ByteArray.size_append
      have hot : (o ++ t).size = o.size + t.size := ByteArray.size_append
      by_cases h1 : k % 2 = 1
      · have h1b : (((k % 2 : Nat) : Int) == 1) = true := by rw [h1]; rfl
        have HA2 : Hid ((o ++ t).size + (t ++ t).size * (k / 2) ≤ 384) := by
          show _ ≤ _; rw [htt, hot, many_odd _ _ _ h1]; exact HA.out
        clear HA
        go_wp2
        go_roundw
        case rel => exact ⟨_, _, k / 2, _, by omega, rfl, by go_num, rfl, HA2, rfl⟩
        case measure => simp [intOf]; omega
      · have h1b : (((k % 2 : Nat) : Int) == 1) = false := by rw [beq_eq_false_iff_ne]; omega
        have HA2 : Hid (o.size + (t ++ t).size * (k / 2) ≤ 384) := by
          show _ ≤ _; rw [htt, many_even _ _ _ h1]; exact HA.out
        clear HA
        go_wp2
        go_roundw
        case rel => exact ⟨_, _, k / 2, _, by omega, rfl, by go_num, rfl, HA2, rfl⟩
        case measure => simp [intOf]; omega
    · have hk0 : k = 0 := by omega
      subst hk0
      go_wp2
      go_ret
      exact ⟨o, rfl, by have := HA.out; omega, _, rfl⟩
def manysL : List ByteArray := [⟨#[120]⟩, ⟨#[195, 169]⟩, ⟨#[97, 47]⟩]
theorem manysL_size (x : ByteArray) (h : x ∈ manysL) : x.size ≤ 2 := by
  simp only [manysL, List.mem_cons, List.not_mem_nil, or_false] at h
  rcases h with rfl | rfl | rfl <;> decide
def timesL : List Int := [90, 95, 191, 192, 12, 6, 11]
theorem timesL_le (x : Int) (h : x ∈ timesL) : 0 ≤ x ∧ x ≤ 192 := by
  simp only [timesL, List.mem_cons, List.not_mem_nil, or_false] at h
  omega
theorem below_drawn {B : Nat} {w w' : World} (h : Below B w w') (n : Nat) : Below B w (w'.drewN n) := ⟨h.os, h.tape, h.output, h.size, h.block⟩

set_option maxHeartbeats 2000000 in
set_option maxRecDepth 100000 in
theorem drawUrlGet (B : Nat) (a : Option Addr) (len cap : Nat) (w : World) (hB : B ≤ w.heap.size) (h : Code B w a len cap) :
    Calls Tryz.prog 16 #[.slice a len cap] w fun e w' => ∃ x : ByteArray, e = .returned (.string x) ∧ x.size ≤ 400 ∧ Below w.heap.size w w' := by
  go_enter Tryz.func16, Tryz.ntmps16
  go_wp2_with fail
  refine (l1Open B a len cap _ hB h).mono ?_
  rintro e w1 ⟨rfl, hr, b1⟩
  go_wp2_with fail
  refine (pick B w.heap.size 0 40 _ (by decide) (by decide) (by decide) hr).mono ?_
  rintro e w2 ⟨v, rfl, hv0, hv1, hr2, hg2⟩
  have hb2 : Below w.heap.size w w2 := b1.trans (below_grown hg2 (Nat.le_refl _) b1.size)
  by_cases hv : v = 0
  · subst hv
    have hr2l := hr2.lt
    go_wp2_with fail
    refine (rdOf B w.heap.size 1 w2.heap.size 3 manysL 9 (0, 0) _ _ rfl (heap_alloc_new w2 _) (by omega) (by simp [manysL]) (by simp [manysL]) (by omega) (rd_more hr2 _)).mono ?_
    rintro e w3 ⟨x, hx, rfl, hr3, hg3⟩
    have hxs := manysL_size x hx
    have G3 : w2.grownBy w3 (some w.heap.size) := grown_trans (World.grownBy_alloc w2 _ _) hg3
    have hr3l := hr3.lt
    clear hx
    go_wp2_with fail
    refine (rdOne B w.heap.size 2 w3.heap.size 7 timesL 3 (0, 0) _ _ rfl (heap_alloc_new w3 _) (by omega) (by simp [timesL]) (by simp [timesL]) (by omega) (rd_more hr3 _)).mono ?_
    rintro e w4 ⟨n, hn, rfl, hr4, hg4⟩
    obtain ⟨hn0, hn1⟩ := timesL_le n hn
    have G4 : w2.grownBy w4 (some w.heap.size) := grown_trans (grown_alloc G3 _) hg4
    have HB4 : Hid (Below w.heap.size w w4) := hb2.trans (below_grown G4 (Nat.le_refl _) hb2.size)
    clear hn
    obtain ⟨N, rfl⟩ := Int.eq_ofNat_of_zero_le hn0
    go_wp2_with fail
    refine (l1Many x N _ hxs (by omega)).mono ?_
    rintro e w5 ⟨y, rfl, hy, d, rfl⟩
    have hsz : ((⟨#[104, 116, 116, 112, 58, 47, 47, 97, 47]⟩ : ByteArray) ++ y).size = 9 + y.size := by rw [ByteArray.size_append]; rfl
    go_wp2
    go_ret
    exact ⟨_, rfl, by rw [hsz]; omega, below_drawn HB4.out d⟩
  · have hvb : (v == 0) = false := by rw [beq_eq_false_iff_ne]; exact hv
    go_wp2_with fail
    refine (l11Text B w.heap.size 1 _ (by decide) hr2).mono ?_
    rintro e w3 ⟨y, q, rfl, hy, hq, hr3, hg3⟩
    go_wp2
    go_ret
    exact ⟨y, rfl, by omega, hb2.trans (below_grown hg3 (Nat.le_refl _) hb2.size)⟩
end Go.Proofs.YticbekooadnnlaaGreatDoor
end

section
set_option linter.unusedVariables false
set_option linter.unusedSimpArgs false
namespace Go.Proofs.YticbekooadnnlaaGreatDoor
open Go.RowKit Go.Shelf

set_option maxHeartbeats 8000000 in
set_option maxRecDepth 100000 in
theorem fnUrlSpace_walk (w : World) (hL : Lean1 w) (a0 : Option Addr) (len0 cap0 : Nat) (z0 : List Int) (h0 : IsRow .u8 w a0 len0 cap0 z0) :
    Calls Tryz.prog 4 #[.slice a0 len0 cap0] w fun e w' => e = .returned (.bool true) ∧ Below w.heap.size w w' := by
  have hC := code_of_row h0
  by_cases hbig : (1048576 : Int) < (len0 : Int)
  · go_enter Tryz.func4, Tryz.ntmps4
    go_wp2
    go_ret
    exact ⟨rfl, Below.refl _ _⟩
  have hbig2 : (len0 : Int) ≤ 1048576 := by omega
  have A0 : Hid (Wat w w) := Wat.start hL
  clear hbig hL h0
  go_enter Tryz.func4, Tryz.ntmps4
  go_wp2_with fail
  refine (drawUrlGet w.heap.size a0 len0 cap0 _ (Nat.le_refl _) hC).mono ?_
  rintro e w1 ⟨s, rfl, hs, b1⟩
  have A1 : Hid (Wat w w1) := A0.out.step b1
  clear b1 A0 hC
  obtain ⟨q, hq⟩ : ∃ q, q = getP s.data.toList := ⟨_, rfl⟩
  obtain ⟨ok, hok⟩ : ∃ ok, ok = getB s.data.toList := ⟨_, rfl⟩
  obtain ⟨n, hn⟩ : ∃ n, n = q.ps.length := ⟨_, rfl⟩
  have hpl : q.ps.length ≤ 1100000 := by rw [hq]; exact getP_short _
  have CI : Hid (∀ W, Lean1 W → Calls Tryz.prog 11 #[.string s] W fun e w' => ∃ a c, e = .returned (.tuple #[.agg #[(.string q.sc), (.string q.us), (.string q.pw), (.int .i64 q.hk), (.string q.hn), (.int .i64 q.ha), (.int .i64 q.po), (.slice a n c), (.string q.op), (.bool q.hq), (.string q.qu), (.bool q.hf), (.string q.fr)], .bool ok]) ∧ StrsOf a n q.ps w' ∧ Below W.heap.size W w') := fun W hW => getI3 s q ok n hq hok hn (by omega) W hW
  have CS : Hid (∀ W, Calls Tryz.prog 17 #[.string s] W fun e w' => ∃ a c, e = .returned (.tuple #[.agg #[(.string q.sc), (.string q.us), (.string q.pw), (.int .i64 q.hk), (.string q.hn), (.int .i64 q.ha), (.int .i64 q.po), (.slice a n c), (.string q.op), (.bool q.hq), (.string q.qu), (.bool q.hf), (.string q.fr)], .bool ok]) ∧ StrsOf a n q.ps w' ∧ Below W.heap.size W w') := fun W => getS3 s q ok n hq hok hn (by omega) W
  have CG : Hid (∀ a a' c c' W, StrsOf a n q.ps W → StrsOf a' n q.ps W → Calls Tryz.prog 15 #[.agg #[(.string q.sc), (.string q.us), (.string q.pw), (.int .i64 q.hk), (.string q.hn), (.int .i64 q.ha), (.int .i64 q.po), (.slice a n c), (.string q.op), (.bool q.hq), (.string q.qu), (.bool q.hf), (.string q.fr)], .agg #[(.string q.sc), (.string q.us), (.string q.pw), (.int .i64 q.hk), (.string q.hn), (.int .i64 q.ha), (.int .i64 q.po), (.slice a' n c'), (.string q.op), (.bool q.hq), (.string q.qu), (.bool q.hf), (.string q.fr)]] W fun e w' => e = .returned (.bool true) ∧ Below W.heap.size W w') := fun a a' c c' W h h' => guU3 q a a' n c n c' hpl W h h'
  have C3 : Hid (s.size ≤ 100 → ∀ k, k = s.size / 2 → ∀ W, Lean1 W → Calls Tryz.prog 11 #[.string ((((⟨#[32, 9]⟩ : ByteArray) ++ s.extract 0 k ++ (⟨#[10]⟩ : ByteArray)) ++ s.extract k s.size) ++ (⟨#[13, 32]⟩ : ByteArray))] W fun e w' => ∃ a c, e = .returned (.tuple #[.agg #[(.string q.sc), (.string q.us), (.string q.pw), (.int .i64 q.hk), (.string q.hn), (.int .i64 q.ha), (.int .i64 q.po), (.slice a n c), (.string q.op), (.bool q.hq), (.string q.qu), (.bool q.hf), (.string q.fr)], .bool ok]) ∧ OwnS W.heap.size (.slice a n c) q.ps w' ∧ Below W.heap.size W w') := fun h100 k hk W hW => by
    have hl : s.data.toList.length = s.size := by simp
    have e0 : ((((⟨#[32, 9]⟩ : ByteArray) ++ s.extract 0 k ++ (⟨#[10]⟩ : ByteArray)) ++ s.extract k s.size) ++ (⟨#[13, 32]⟩ : ByteArray)).data.toList = [32, 9] ++ (s.data.toList.take k ++ ([10] ++ (s.data.toList.drop k ++ [13, 32]))) := by
      rw [ext_mk, ext_mk]
      simp [mk]
      exact List.take_of_length_le (by rw [List.length_drop]; omega)
    have eg : getO ([32, 9] ++ (s.data.toList.take k ++ ([10] ++ (s.data.toList.drop k ++ [13, 32])))) = getO s.data.toList := by
      rw [get_space _ _ (by rw [List.take_append_drop]; omega), List.take_append_drop]
    refine getI4 _ q ok n ?_ ?_ hn ?_ W hW
    · rw [e0, hq]; unfold getP; rw [eg]
    · rw [e0, hok]; unfold getB; rw [eg]
    · simp only [ByteArray.size_append, ByteArray.size_extract]
      show 2 + _ + 1 + _ + 2 ≤ _
      omega
  have HN : Hid (n = q.ps.length) := hn
  clear hq hok hpl hn
  go_wp2_with fail
  refine (CI.out _ A1.out.le).mono ?_
  rintro e w2 ⟨a2, c2, rfl, s2, b2⟩
  obtain ⟨V2, hV2⟩ : ∃ V, V = w2.alloc (.cells #[(.string q.sc), (.string q.us), (.string q.pw), (.int .i64 q.hk), (.string q.hn), (.int .i64 q.ha), (.int .i64 q.po), (.slice a2 n c2), (.string q.op), (.bool q.hq), (.string q.qu), (.bool q.hf), (.string q.fr)] 27) := ⟨_, rfl⟩
  have U2 : Hid (Va w2.heap.size q a2 n c2 V2) := by show Va _ _ _ _ _ _; rw [hV2]; exact Va.new _ s2
  have D2 : Hid (Below w1.heap.size w1 V2) := by show Below _ _ _; rw [hV2]; exact b2.trans ((below_new _ _).mono b2.size)
  have A2 : Hid (Wat w V2) := A1.out.step D2.out
  clear s2 b2 D2 A1
  go_upto_region 5 with fail
  rw [← hV2]
  clear hV2
  generalize w2.heap.size = g2 at *
  go_wp2_with fail
  refine (CS.out _).mono ?_
  rintro e w3 ⟨a3, c3, rfl, s3, b3⟩
  obtain ⟨V3, hV3⟩ : ∃ V, V = w3.alloc (.cells #[(.string q.sc), (.string q.us), (.string q.pw), (.int .i64 q.hk), (.string q.hn), (.int .i64 q.ha), (.int .i64 q.po), (.slice a3 n c3), (.string q.op), (.bool q.hq), (.string q.qu), (.bool q.hf), (.string q.fr)] 27) := ⟨_, rfl⟩
  have U3 : Hid (Va w3.heap.size q a3 n c3 V3) := by show Va _ _ _ _ _ _; rw [hV3]; exact Va.new _ s3
  have D3 : Hid (Below V2.heap.size V2 V3) := by show Below _ _ _; rw [hV3]; exact b3.trans ((below_new _ _).mono b3.size)
  have A3 : Hid (Wat w V3) := A2.out.step D3.out
  have U23 : Hid (Va g2 q a2 n c2 V3) := U2.out.later D3.out
  clear s3 b3 D3 A2 U2 CS
  go_upto_region 6 with fail
  rw [← hV3]
  clear hV3
  generalize w3.heap.size = g3 at *
  obtain ⟨k0, k1, k2, k3, k4, k5, k6, k7, k8, k9, k10, k11, k12⟩ := Blk.cells13a U23.out.bk
  obtain ⟨j0, j1, j2, j3, j4, j5, j6, j7, j8, j9, j10, j11, j12⟩ := Blk.cells13a U3.out.bk
  by_cases h100 : (100 : Int) < (s.size : Int)
  · clear C3 CI
    go_wp2_with fail
    refine (CG.out _ _ _ _ _ U23.out.st U3.out.st).mono ?_
    rintro e w4 ⟨rfl, b4⟩
    have A4 : Hid (Wat w w4) := A3.out.step b4
    have U24 : Hid (Va g2 q a2 n c2 w4) := U23.out.later b4
    have U34 : Hid (Va g3 q a3 n c3 w4) := U3.out.later b4
    clear b4 A3 U23 U3 k0 k1 k2 k3 k4 k5 k6 k7 k8 k9 k10 k11 k12 j0 j1 j2 j3 j4 j5 j6 j7 j8 j9 j10 j11 j12
    obtain ⟨k0, k1, k2, k3, k4, k5, k6, k7, k8, k9, k10, k11, k12⟩ := Blk.cells13a U24.out.bk
    obtain ⟨j0, j1, j2, j3, j4, j5, j6, j7, j8, j9, j10, j11, j12⟩ := Blk.cells13a U34.out.bk
    go_wp2_with fail
    refine (CG.out _ _ _ _ _ U24.out.st U34.out.st).mono ?_
    rintro e w5 ⟨rfl, b5⟩
    have A5 : Hid (Wat w w5) := A4.out.step b5
    clear b5 A4 U24 U34 k0 k1 k2 k3 k4 k5 k6 k7 k8 k9 k10 k11 k12 j0 j1 j2 j3 j4 j5 j6 j7 j8 j9 j10 j11 j12
    cases ok <;> (go_wp2; go_ret; exact ⟨rfl, A5.out.bw⟩)
  · have h100n : s.size ≤ 100 := by omega
    obtain ⟨k, hk⟩ : ∃ k, k = s.size / 2 := ⟨_, rfl⟩
    have C4 := C3.out h100n k hk
    have C5 : Hid (∀ W, Lean1 W → Calls Tryz.prog 11 #[.string ((((⟨#[32, 9]⟩ : ByteArray) ++ s.extract 0 k ++ (⟨#[10]⟩ : ByteArray)) ++ s.extract k s.size) ++ (⟨#[13, 32]⟩ : ByteArray))] W fun e w' => ∃ a c, e = .returned (.tuple #[.agg #[(.string q.sc), (.string q.us), (.string q.pw), (.int .i64 q.hk), (.string q.hn), (.int .i64 q.ha), (.int .i64 q.po), (.slice a n c), (.string q.op), (.bool q.hq), (.string q.qu), (.bool q.hf), (.string q.fr)], .bool ok]) ∧ OwnS W.heap.size (.slice a n c) q.ps w' ∧ Below W.heap.size W w') := C4
    have hks : k ≤ s.size := by omega
    have hki : (k : Int) ≤ (s.size : Int) := by omega
    have hd : IntKind.i64.wrap ((s.size : Int).tdiv 2) = (k : Int) := by rw [show (s.size : Int).tdiv 2 = ((s.size / 2 : Nat) : Int) from rfl, ← hk, IntKind.wrap_i64]; omega
    have hd2 : (s.size : Int) / 2 = (k : Int) := by rw [hk]; rfl
    have l1 : (s.extract 0 k).size = k := by rw [ByteArray.size_extract]; omega
    have l2 : (s.extract k s.size).size = s.size - k := by rw [ByteArray.size_extract]; omega
    have z1 : ((⟨#[32, 9]⟩ : ByteArray) ++ s.extract 0 k).size = 2 + k := by rw [ByteArray.size_append, l1]; rfl
    have z2 : ((⟨#[32, 9]⟩ : ByteArray) ++ s.extract 0 k ++ (⟨#[10]⟩ : ByteArray)).size = 2 + k + 1 := by rw [ByteArray.size_append, z1]; rfl
    have z3 : ((⟨#[32, 9]⟩ : ByteArray) ++ s.extract 0 k ++ (⟨#[10]⟩ : ByteArray) ++ s.extract k s.size).size = 2 + k + 1 + (s.size - k) := by rw [ByteArray.size_append, z2, l2]
    clear C3 C4 hk CI
    go_wp2_with fail
    refine (CG.out _ _ _ _ _ U23.out.st U3.out.st).mono ?_
    rintro e w4 ⟨rfl, b4⟩
    have A4 : Hid (Wat w w4) := A3.out.step b4
    have U24 : Hid (Va g2 q a2 n c2 w4) := U23.out.later b4
    clear b4 A3 U23 U3 k0 k1 k2 k3 k4 k5 k6 k7 k8 k9 k10 k11 k12 j0 j1 j2 j3 j4 j5 j6 j7 j8 j9 j10 j11 j12
    go_upto_region 9 with fail
    go_wp2
    go_cut [9, 10] from 11 (fun s9 s10 wx => ∃ g5 a5 c5, s9 = .pointer (some ⟨g5, 0, none⟩) ∧ s10 = .bool ok ∧ Hid (Va g5 q a5 n c5 wx) ∧ Hid (Below w4.heap.size w4 wx))
    case first =>
      have LD : Hid (Lean1 w4.drew) := A4.out.le.below ((Below.refl _ _).drew)
      have LZ : Hid (Lean1 ((w4.alloc (.cells #[(.string ⟨#[]⟩), (.string ⟨#[]⟩), (.string ⟨#[]⟩), (.int .i64 0), (.string ⟨#[]⟩), (.int .i64 0), (.int .i64 0), (.slice none 0 0), (.string ⟨#[]⟩), (.bool false), (.string ⟨#[]⟩), (.bool false), (.string ⟨#[]⟩)] 27)).drew)) := A4.out.le.below ((below_new _ _).drew)
      have DZ : Hid (Below w4.heap.size w4 ((w4.alloc (.cells #[(.string ⟨#[]⟩), (.string ⟨#[]⟩), (.string ⟨#[]⟩), (.int .i64 0), (.string ⟨#[]⟩), (.int .i64 0), (.int .i64 0), (.slice none 0 0), (.string ⟨#[]⟩), (.bool false), (.string ⟨#[]⟩), (.bool false), (.string ⟨#[]⟩)] 27)).drew)) := (below_new _ _).drew
      have KZ : Hid (Blk w4.heap.size #[(.string ⟨#[]⟩), (.string ⟨#[]⟩), (.string ⟨#[]⟩), (.int .i64 0), (.string ⟨#[]⟩), (.int .i64 0), (.int .i64 0), (.slice none 0 0), (.string ⟨#[]⟩), (.bool false), (.string ⟨#[]⟩), (.bool false), (.string ⟨#[]⟩)] 27 ((w4.alloc (.cells #[(.string ⟨#[]⟩), (.string ⟨#[]⟩), (.string ⟨#[]⟩), (.int .i64 0), (.string ⟨#[]⟩), (.int .i64 0), (.int .i64 0), (.slice none 0 0), (.string ⟨#[]⟩), (.bool false), (.string ⟨#[]⟩), (.bool false), (.string ⟨#[]⟩)] 27)).drew)) := (Blk.new w4 _ _).drew
      go_region_with (first
        | (go_at_call 11; refine (C5.out _ ?hd).mono ?_; (case hd => exact LZ.out); rintro e w5 ⟨a5, c5, rfl, s5, b5⟩; have HD5 : Hid (Below w4.heap.size w4 w5) := DZ.out.trans (b5.mono DZ.out.size); have HZ5 : Hid (Blk w4.heap.size #[(.string ⟨#[]⟩), (.string ⟨#[]⟩), (.string ⟨#[]⟩), (.int .i64 0), (.string ⟨#[]⟩), (.int .i64 0), (.int .i64 0), (.slice none 0 0), (.string ⟨#[]⟩), (.bool false), (.string ⟨#[]⟩), (.bool false), (.string ⟨#[]⟩)] 27 w5) := KZ.out.below b5 KZ.out.lt; have HO5 : Hid (OwnS (w4.heap.size + 1) (.slice a5 n c5) q.ps w5) := own_zero s5; have HF5 : Hid (Va w4.heap.size q a5 n c5 (((((((((((((w5.setCell ⟨w4.heap.size, 0, none⟩ (.string q.sc)).setCell ⟨w4.heap.size, 1, none⟩ (.string q.us)).setCell ⟨w4.heap.size, 2, none⟩ (.string q.pw)).setCell ⟨w4.heap.size, 3, none⟩ (.int .i64 q.hk)).setCell ⟨w4.heap.size, 4, none⟩ (.string q.hn)).setCell ⟨w4.heap.size, 5, none⟩ (.int .i64 q.ha)).setCell ⟨w4.heap.size, 6, none⟩ (.int .i64 q.po)).setCell ⟨w4.heap.size, 7, none⟩ (.slice a5 n c5)).setCell ⟨w4.heap.size, 8, none⟩ (.string q.op)).setCell ⟨w4.heap.size, 9, none⟩ (.bool q.hq)).setCell ⟨w4.heap.size, 10, none⟩ (.string q.qu)).setCell ⟨w4.heap.size, 11, none⟩ (.bool q.hf)).setCell ⟨w4.heap.size, 12, none⟩ (.string q.fr)) ∧ Below w4.heap.size w4 (((((((((((((w5.setCell ⟨w4.heap.size, 0, none⟩ (.string q.sc)).setCell ⟨w4.heap.size, 1, none⟩ (.string q.us)).setCell ⟨w4.heap.size, 2, none⟩ (.string q.pw)).setCell ⟨w4.heap.size, 3, none⟩ (.int .i64 q.hk)).setCell ⟨w4.heap.size, 4, none⟩ (.string q.hn)).setCell ⟨w4.heap.size, 5, none⟩ (.int .i64 q.ha)).setCell ⟨w4.heap.size, 6, none⟩ (.int .i64 q.po)).setCell ⟨w4.heap.size, 7, none⟩ (.slice a5 n c5)).setCell ⟨w4.heap.size, 8, none⟩ (.string q.op)).setCell ⟨w4.heap.size, 9, none⟩ (.bool q.hq)).setCell ⟨w4.heap.size, 10, none⟩ (.string q.qu)).setCell ⟨w4.heap.size, 11, none⟩ (.bool q.hf)).setCell ⟨w4.heap.size, 12, none⟩ (.string q.fr))) := ⟨Va.put HZ5.out HO5.out (Nat.lt_succ_self _) HN.out, below_put13 HD5.out (Nat.le_refl _) _ _ _ _ _ _ _ _ _ _ _ _ _⟩; clear s5 b5; obtain ⟨z0, z1, z2, z3, z4, z5, z6, z7, z8, z9, z10, z11, z12⟩ := Blk.cells13a HZ5.out; have fz := HZ5.out.free)
        | (go_at_call 11; refine (C5.out _ ?hd).mono ?_; (case hd => first | exact LD.out | exact A4.out.le); rintro e w5 ⟨a5, c5, rfl, s5, b5⟩; have HD5 : Hid (Below w4.heap.size w4 w5) := (by first | exact b5 | exact ((Below.refl _ w4).drew).trans b5); have HS5 : Hid (StrsOf a5 n q.ps w5) := s5.strsN HN.out; have HF5 : Hid (Va w5.heap.size q a5 n c5 (w5.alloc (.cells #[(.string q.sc), (.string q.us), (.string q.pw), (.int .i64 q.hk), (.string q.hn), (.int .i64 q.ha), (.int .i64 q.po), (.slice a5 n c5), (.string q.op), (.bool q.hq), (.string q.qu), (.bool q.hf), (.string q.fr)] 27)) ∧ Below w4.heap.size w4 (w5.alloc (.cells #[(.string q.sc), (.string q.us), (.string q.pw), (.int .i64 q.hk), (.string q.hn), (.int .i64 q.ha), (.int .i64 q.po), (.slice a5 n c5), (.string q.op), (.bool q.hq), (.string q.qu), (.bool q.hf), (.string q.fr)] 27))) := ⟨Va.new _ HS5.out, HD5.out.alloc HD5.out.size _⟩; clear s5 b5)
        | fail)
      all_goals
        go_wp2_with fail
        go_meet
        exact ⟨_, _, _, rfl, rfl, HF5.out.1, HF5.out.2⟩
    case rest =>
    obtain ⟨g5, a5, c5, rfl, rfl, HVC, HDC⟩ := hcut
    have A5 : Hid (Wat w wc) := A4.out.step HDC.out
    have U25 : Hid (Va g2 q a2 n c2 wc) := U24.out.later HDC.out
    clear A4 U24 HDC C5
    obtain ⟨k0, k1, k2, k3, k4, k5, k6, k7, k8, k9, k10, k11, k12⟩ := Blk.cells13a U25.out.bk
    obtain ⟨j0, j1, j2, j3, j4, j5, j6, j7, j8, j9, j10, j11, j12⟩ := Blk.cells13a HVC.out.bk
    go_wp2_with fail
    refine (CG.out _ _ _ _ _ HVC.out.st U25.out.st).mono ?_
    rintro e w6 ⟨rfl, b6⟩
    have A6 : Hid (Wat w w6) := A5.out.step b6
    clear b6 A5 U25 HVC k0 k1 k2 k3 k4 k5 k6 k7 k8 k9 k10 k11 k12 j0 j1 j2 j3 j4 j5 j6 j7 j8 j9 j10 j11 j12
    cases ok <;> (go_wp2; go_ret; exact ⟨rfl, A6.out.bw⟩)
end Go.Proofs.YticbekooadnnlaaGreatDoor
end

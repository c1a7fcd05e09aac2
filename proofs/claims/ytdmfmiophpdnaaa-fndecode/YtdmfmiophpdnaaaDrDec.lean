/- DrawDecode and DrawEncode draw a text of at most 201 bytes, DrawEncode a set beside it. -/
import Derived.Test.YtdmfmiophpdnaaaDrLower
import Derived.Test.YtdmfmiophpdnaaaEncS
set_option linter.unusedVariables false
namespace Go.Proofs.Ytdmfmiophpdnaaa
open Go.RowKit Go.Shelf

theorem size_list (l : List UInt8) : (⟨l.toArray⟩ : ByteArray).size = l.length := by show l.toArray.size = _; simp
theorem encode_len (set : Int) (s : ByteArray) : (encode set s).length ≤ 3 * s.size := by
  unfold encode
  split
  · have := enc_length (isIn set) s.data.toList
    have h2 : s.data.toList.length = s.size := by simp
    omega
  · simp

set_option maxHeartbeats 2000000 in
set_option maxRecDepth 100000 in
theorem drawDecode (B : Nat) (a : Option Addr) (len cap : Nat) (w : World) (hB : B ≤ w.heap.size) (h : Code B w a len cap) :
    Calls Try.prog 13 #[.slice a len cap] w fun e w' => ∃ s : ByteArray, e = .returned (.string s) ∧ s.size ≤ 200 ∧ Below w.heap.size w w' := by
  go_enter Try.func13, Try.ntmps13
  go_wp2_with fail
  refine (l1Open B a len cap _ hB h).mono ?_
  rintro e w1 ⟨rfl, hr1, b1⟩
  go_wp2_with fail
  refine (pick B w.heap.size 0 3 _ (by omega) (by omega) (by omega) hr1).mono ?_
  rintro e w2 ⟨v, rfl, hv0, hv1, hr2, hg2⟩
  have b2 := b1.trans (below_grown (B := w.heap.size) hg2 (Nat.le_refl _) b1.size)
  clear b1 hr1 hg2
  by_cases hv : v = 0
  · subst hv
    go_wp2_with fail
    refine (rdOf B w.heap.size _ w2.heap.size 7 [⟨#[37, 52, 49]⟩, ⟨#[37, 52]⟩, ⟨#[37]⟩, ⟨#[97, 37, 122, 122]⟩, ⟨#[37, 99, 51, 37, 97, 57]⟩, ⟨#[37, 50, 53, 37, 51, 52, 37, 51, 49]⟩, ⟨#[37, 52, 97, 37, 52, 65]⟩] 9 (0, 0) _ _ rfl (heap_alloc_new w2 _) (by have := hr2.lt; omega) (by simp) (by simp) (by omega) (hr2.alloc _)).mono ?_
    rintro e w3 ⟨s, hs, rfl, hr3, hg3⟩
    have hs20 : s.size ≤ 20 := by
      simp only [List.mem_cons, List.not_mem_nil, or_false] at hs
      rcases hs with rfl | rfl | rfl | rfl | rfl | rfl | rfl <;> decide
    clear hs
    have b3 := (b2.alloc b2.size _).trans (below_grown (B := w.heap.size) hg3 (Nat.le_refl _) (by simp; have := b2.size; omega))
    clear b2 hr2 hg3
    go_wp2_with fail
    refine (pick B w.heap.size _ 3 _ (by omega) (by omega) (by omega) hr3).mono ?_
    rintro e w4 ⟨v, rfl, hv0, hv1, hr4, hg4⟩
    have b4 := b3.trans (below_grown (B := w.heap.size) hg4 (Nat.le_refl _) b3.size)
    clear b3 hr3 hg4
    obtain ⟨n, rfl⟩ := Int.eq_ofNat_of_zero_le hv0
    go_wp2_with fail
    refine (l11Bytes B w.heap.size _ n _ (by omega) (by omega) hr4).mono ?_
    rintro e w5 ⟨l, rfl, hl, hr5, hg5⟩
    have b5 := b4.trans (below_grown (B := w.heap.size) hg5 (Nat.le_refl _) b4.size)
    clear b4 hr4 hg5
    have hll : (⟨l.toArray⟩ : ByteArray).size ≤ 3 := by rw [size_list]; omega
    obtain ⟨t, ht⟩ : ∃ t : ByteArray, t = ⟨l.toArray⟩ := ⟨_, rfl⟩
    rw [← ht] at hll ⊢
    clear ht
    go_wp2
    go_ret
    exact ⟨s ++ t, rfl, by rw [ByteArray.size_append]; omega, b5⟩
  · have hve : (v == 0) = false := beq_eq_false_iff_ne.2 hv
    clear hv
    go_wp2_with fail
    refine (pick B w.heap.size _ 4 _ (by omega) (by omega) (by omega) hr2).mono ?_
    rintro e w3 ⟨u, rfl, hu0, hu1, hr3, hg3⟩
    have b3 := b2.trans (below_grown (B := w.heap.size) hg3 (Nat.le_refl _) b2.size)
    clear b2 hr2 hg3
    go_wp2_with fail
    refine (pick B w.heap.size _ 9 _ (by omega) (by omega) (by omega) hr3).mono ?_
    rintro e w4 ⟨y, rfl, hy0, hy1, hr4, hg4⟩
    have b4 := b3.trans (below_grown (B := w.heap.size) hg4 (Nat.le_refl _) b3.size)
    clear b3 hr3 hg4
    obtain ⟨n, rfl⟩ := Int.eq_ofNat_of_zero_le hy0
    go_wp2_with fail
    refine (l11Bytes B w.heap.size _ n _ (by omega) (by omega) hr4).mono ?_
    rintro e w5 ⟨l, rfl, hl, hr5, hg5⟩
    have b5 := b4.trans (below_grown (B := w.heap.size) hg5 (Nat.le_refl _) b4.size)
    clear b4 hr4 hg5
    have hll : (⟨l.toArray⟩ : ByteArray).size ≤ 9 := by rw [size_list]; omega
    obtain ⟨t, ht⟩ : ∃ t : ByteArray, t = ⟨l.toArray⟩ := ⟨_, rfl⟩
    rw [← ht] at hll ⊢
    clear ht
    go_wp2_with fail
    refine (specEncode _ t _ (by unfold maxLen; omega)).mono ?_
    rintro e w6 ⟨rfl, b6⟩
    have hel := encode_len (1 + u) t
    go_wp2
    go_ret
    exact ⟨_, rfl, by rw [size_list]; omega, b5.trans (b6.mono b5.size)⟩

set_option maxHeartbeats 2000000 in
set_option maxRecDepth 100000 in
theorem drawEncode (B : Nat) (a : Option Addr) (len cap : Nat) (w : World) (hB : B ≤ w.heap.size) (h : Code B w a len cap) :
    Calls Try.prog 9 #[.slice a len cap] w fun e w' => ∃ (set : Int) (s : ByteArray), e = .returned (.tuple #[.int .i64 set, .string s]) ∧ 0 ≤ set ∧ set < 7 ∧ s.size ≤ 201 ∧ Below w.heap.size w w' := by
  go_enter Try.func9, Try.ntmps9
  go_wp2_with fail
  refine (l1Open B a len cap _ hB h).mono ?_
  rintro e w1 ⟨rfl, hr1, b1⟩
  go_wp2_with fail
  refine (pick B w.heap.size 0 12 _ (by omega) (by omega) (by omega) hr1).mono ?_
  rintro e w2 ⟨v, rfl, hv0, hv1, hr2, hg2⟩
  have b2 := b1.trans (below_grown (B := w.heap.size) hg2 (Nat.le_refl _) b1.size)
  clear b1 hr1 hg2
  go_wp2_with fail
  refine (pick B w.heap.size _ 30 _ (by omega) (by omega) (by omega) hr2).mono ?_
  rintro e w3 ⟨u, rfl, hu0, hu1, hr3, hg3⟩
  have b3 := b2.trans (below_grown (B := w.heap.size) hg3 (Nat.le_refl _) b2.size)
  clear b2 hr2 hg3
  by_cases hu : u = 0
  · subst hu
    go_wp2_with fail
    refine (pick B w.heap.size _ 2 _ (by omega) (by omega) (by omega) hr3).mono ?_
    rintro e w4 ⟨y, rfl, hy0, hy1, hr4, hg4⟩
    have b4 := b3.trans (below_grown (B := w.heap.size) hg4 (Nat.le_refl _) b3.size)
    clear b3 hr3 hg4
    go_wp2_with fail
    refine (pick B w.heap.size _ 7 _ (by omega) (by omega) (by omega) hr4).mono ?_
    rintro e w5 ⟨set, rfl, hs0, hs1, hr5, hg5⟩
    have b5 := b4.trans (below_grown (B := w.heap.size) hg5 (Nat.le_refl _) b4.size)
    clear b4 hr4 hg5
    go_wp2_with fail
    refine (l11BytesI B w.heap.size _ _ _ (by omega) (by omega) (by omega) hr5).mono ?_
    rintro e w6 ⟨l, rfl, hl, hr6, hg6⟩
    have b6 := b5.trans (below_grown (B := w.heap.size) hg6 (Nat.le_refl _) b5.size)
    go_wp2
    go_ret2
    exact ⟨set, _, rfl, hs0, hs1, by rw [size_list]; omega, b6⟩
  · have hue : (u == 0) = false := beq_eq_false_iff_ne.2 hu
    clear hu
    go_wp2_with fail
    refine (pick B w.heap.size _ 7 _ (by omega) (by omega) (by omega) hr3).mono ?_
    rintro e w5 ⟨set, rfl, hs0, hs1, hr5, hg5⟩
    have b5 := b3.trans (below_grown (B := w.heap.size) hg5 (Nat.le_refl _) b3.size)
    clear b3 hr3 hg5
    go_wp2_with fail
    refine (l11BytesI B w.heap.size _ _ _ (by omega) (by omega) (by omega) hr5).mono ?_
    rintro e w6 ⟨l, rfl, hl, hr6, hg6⟩
    have b6 := b5.trans (below_grown (B := w.heap.size) hg6 (Nat.le_refl _) b5.size)
    go_wp2
    go_ret2
    exact ⟨set, _, rfl, hs0, hs1, by rw [size_list]; omega, b6⟩
end Go.Proofs.Ytdmfmiophpdnaaa

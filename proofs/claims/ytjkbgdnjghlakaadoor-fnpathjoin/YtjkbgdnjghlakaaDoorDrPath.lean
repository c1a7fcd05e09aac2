/- spec.l11Path and DrawPathGet draw a text of at most 20 bytes. -/
import Derived.Test.YtjkbgdnjghlakaaDoorOfS
import Derived.Test.YtjkbgdnjghlakaaDoorRdB
set_option linter.unusedVariables false
namespace Go.Proofs.YtjkbgdnjghlakaaDoor
open Go.RowKit Go.Shelf

def sepsL : List ByteArray := [⟨#[47]⟩, ⟨#[47]⟩, ⟨#[47]⟩, ⟨#[92]⟩, ⟨#[]⟩]
def itemsL : List ByteArray := [⟨#[97]⟩, ⟨#[98]⟩, ⟨#[46, 46]⟩, ⟨#[46]⟩, ⟨#[]⟩, ⟨#[37, 50, 101]⟩, ⟨#[46, 37, 50, 69]⟩, ⟨#[99, 32, 100]⟩, ⟨#[120, 63]⟩, ⟨#[35]⟩, ⟨#[97, 58, 98]⟩, ⟨#[46, 46, 46]⟩, ⟨#[195, 169]⟩, ⟨#[64]⟩]
theorem sepsL_size (x : ByteArray) (h : x ∈ sepsL) : x.size ≤ 1 := by
  simp only [sepsL, List.mem_cons, List.not_mem_nil, or_false] at h
  rcases h with rfl | rfl | rfl | rfl | rfl <;> decide
theorem itemsL_size (x : ByteArray) (h : x ∈ itemsL) : x.size ≤ 4 := by
  simp only [itemsL, List.mem_cons, List.not_mem_nil, or_false] at h
  rcases h with rfl | rfl | rfl | rfl | rfl | rfl | rfl | rfl | rfl | rfl | rfl | rfl | rfl | rfl <;> decide

theorem rd_alloc {B r p : Nat} {w : World} (h : Rd B r p w) (o : Obj) : Rd B r p (w.alloc o) :=
  h.stays (Lib.alloc_old w o r h.lt) (fun k hk => Lib.alloc_old w o k (by have := h.1; have := h.lt; omega))

set_option maxHeartbeats 2000000 in
set_option maxRecDepth 100000 in
theorem l11Path (B r p : Nat) (w : World) (hp : p ≤ 100000) (h : Rd B r p w) :
    Calls Tryd.prog 17 #[.pointer (some ⟨r, 0, none⟩)] w fun e w' => ∃ (x : ByteArray) (q : Nat), e = .returned (.string x) ∧ x.size ≤ 20 ∧ q ≤ p + 9 ∧ Rd B r q w' ∧ w.grownBy w' (some r) := by
  go_enter Tryd.func17, Tryd.ntmps17
  go_wp2_with fail
  refine (pick B r p 5 _ (by decide) (by decide) (by omega) h).mono ?_
  rintro e w1 ⟨v, rfl, hv0, hv1, hr1, hg1⟩
  obtain ⟨n, rfl⟩ := Int.eq_ofNat_of_zero_le hv0
  have hn : n ≤ 4 := by omega
  clear hv0 hv1
  go_wp2_with fail
  go_loopw [3, 4] (fun o i wr => ∃ (j : Nat) (x : ByteArray) (q : Nat), j ≤ n ∧ i = .int .i64 j ∧ o = .string x ∧ x.size + 5 * j ≤ 20 ∧ q + 2 * j ≤ p + 9 ∧ Rd B r q wr ∧ w.grownBy wr (some r)) (fun _ i wr => (intOf i).toNat)
  case atStart => exact ⟨n, ⟨#[]⟩, p + 1, Nat.le_refl _, rfl, rfl, by show 0 + 5 * n ≤ 20; omega, by omega, hr1, hg1⟩
  case round =>
    clear hr1 hg1
    obtain ⟨j, x, q, hj, rfl, rfl, hx, hq, hR, hG⟩ := hrel
    by_cases h0 : j = 0
    · subst h0
      go_wp2
      go_ret
      exact ⟨x, q, rfl, by omega, by omega, hR, hG⟩
    · have h0i : (0 : Int) < (j : Int) := by omega
      have hrl := hR.lt
      go_wp2_with fail
      refine (rdOf B r q wr.heap.size 5 sepsL 9 (0, 0) _ _ rfl (heap_alloc_new wr _) (by omega) (by simp [sepsL]) (by simp [sepsL]) (by omega) (rd_alloc hR _)).mono ?_
      rintro e w2 ⟨y, hy, rfl, hr2, hg2⟩
      have hys := sepsL_size y hy
      clear hy
      have hG2 : w.grownBy w2 (some r) := grown_trans (grown_alloc hG _) hg2
      have hr2l := hr2.lt
      go_wp2_with fail
      refine (rdOf B r (q + 1) w2.heap.size 14 itemsL 9 (0, 0) _ _ rfl (heap_alloc_new w2 _) (by omega) (by simp [itemsL]) (by simp [itemsL]) (by omega) (rd_alloc hr2 _)).mono ?_
      rintro e w3 ⟨z, hz, rfl, hr3, hg3⟩
      have hzs := itemsL_size z hz
      clear hz
      have hG3 : w.grownBy w3 (some r) := grown_trans (grown_alloc hG2 _) hg3
      have hsz : (x ++ y).size ≤ 100 := by rw [ByteArray.size_append]; omega
      have hj1 : (j : Int) - 1 = ((j - 1 : Nat) : Int) := by omega
      go_wp2
      go_roundw
      case rel => exact ⟨j - 1, _, q + 1 + 1, by omega, by first | rfl | go_num, rfl, by rw [ByteArray.size_append, ByteArray.size_append]; omega, by omega, hr3, hG3⟩
      case measure => simp [intOf]; omega

set_option maxHeartbeats 1000000 in
set_option maxRecDepth 100000 in
theorem drawPathGet (B : Nat) (a : Option Addr) (len cap : Nat) (w : World) (hB : B = w.heap.size) (h : Code B w a len cap) :
    Calls Tryd.prog 7 #[.slice a len cap] w fun e w' => ∃ x : ByteArray, e = .returned (.string x) ∧ x.size ≤ 20 ∧ Below w.heap.size w w' := by
  go_enter Tryd.func7, Tryd.ntmps7
  go_wp2_with fail
  refine (l1Open B a len cap _ (by omega) h).mono ?_
  rintro e w1 ⟨rfl, hr, b1⟩
  go_wp2_with fail
  refine (l11Path B w.heap.size 0 _ (by omega) hr).mono ?_
  rintro e w2 ⟨x, q, rfl, hx, hq, hr2, hg2⟩
  go_wp2
  go_ret
  exact ⟨x, rfl, hx, b1.trans (below_grown hg2 (Nat.le_refl _) b1.size)⟩
end Go.Proofs.YtjkbgdnjghlakaaDoor

/- laws.markText: a text for a number, the same each time. -/
import Derived.Test.YtbogjajfbchdjaaDoorOwn
import Derived.Test.YtbogjajfbchdjaaDoorCutP
import Derived.Deep.RegionHeld3
import Derived.Lib.ItoaNum
set_option linter.unusedVariables false
namespace Go.Proofs.YtbogjajfbchdjaaDoor
open Go.RowKit Go.Shelf

def digM (n : Nat) : List UInt8 := if n = 0 then [] else Lib.decDigits n
theorem digM_zero : digM 0 = [] := rfl
theorem digM_pos (n : Nat) (h : n ≠ 0) : digM n = digM (n / 10) ++ [UInt8.ofNat (48 + n % 10)] := by
  unfold digM
  rw [if_neg h, Lib.decDigits]
  by_cases h1 : n < 10
  · rw [dif_pos h1, if_pos (by omega), show n % 10 = n from by omega]; rfl
  · rw [dif_neg h1, if_neg (by omega)]
def markT (n : Nat) : List UInt8 := 109 :: digM n

theorem conv_c (g : Nat) (c : UInt8) (W : World) (x : Int) (hx : x = (c.toNat : Int)) (hg : W.heap[g]? = some (.cells #[.int .u8 x] 5)) :
    (convert 55 9 (.slice (some ⟨g, 0, none⟩) 1 1)).run Tryd.prog W = .ok (.string (mk [c])) W := by
  have h : OwnB 0 (.slice (some ⟨g, 0, none⟩) 1 1) [c] W := ⟨rfl, .inr ⟨g, 1, #[.int .u8 x], rfl, Nat.zero_le _, hg, Nat.le_refl _, by decide, rfl, by subst hx; rfl⟩⟩
  exact ownB_text h

set_option maxHeartbeats 1000000 in
set_option maxRecDepth 100000 in
theorem markText (n : Nat) (w : World) (h0 : 1 ≤ n) (h1 : n ≤ 1000000000) :
    Calls Tryd.prog 32 #[.int .i64 n] w fun e w' => e = .returned (.string (mk (markT n))) ∧ Below w.heap.size w w' := by
  have h0i : (1 : Int) ≤ (n : Int) := by omega
  go_enter Tryd.func32, Tryd.ntmps32
  go_wp2
  go_loopw [0, 3] (fun k o wr => ∃ (j : Nat) (x : ByteArray), k = .int .i64 j ∧ o = .string x ∧ x.size + j ≤ 1000000000 ∧ Hid (digM n = digM j ++ x.data.toList) ∧ Below w.heap.size w wr) (fun k _ wr => (intOf k).toNat)
  case atStart => exact ⟨n, ⟨#[]⟩, rfl, rfl, by show 0 + n ≤ _; omega, by show _ = _; simp, Below.refl _ _⟩
  case round =>
    obtain ⟨j, x, rfl, rfl, hx, HD, hbw⟩ := hrel
    by_cases hj : j = 0
    · subst hj
      have HE := HD.out
      rw [digM_zero, List.nil_append] at HE
      have HX : Hid (mk (markT n) = ⟨#[109]⟩ ++ x) := by
        unfold markT; rw [HE]; apply ByteArray.ext; apply Array.ext'; simp [mk]
      clear HE
      have hz : (⟨#[109]⟩ : ByteArray).size = 1 := rfl
      go_wp2
      go_ret
      exact ⟨by rw [HX.out]; rfl, hbw⟩
    · have hji : (0 : Int) < (j : Int) := by omega
      have hw1 : IntKind.i64.wrap (48 + (j : Int) % 10) = 48 + (j : Int) % 10 := by rw [IntKind.wrap_i64]; omega
      have hw2 : IntKind.u8.wrap (48 + (j : Int) % 10) = 48 + (j : Int) % 10 := by rw [IntKind.wrap_u8]; omega
      have hfv : (48 : Int) + (j : Int) % 10 = ((UInt8.ofNat (48 + j % 10)).toNat : Int) := by rw [UInt8.toNat_ofNat']; omega
      obtain ⟨q, hq⟩ : ∃ q, q = mk [UInt8.ofNat (48 + j % 10)] := ⟨_, rfl⟩
      have hqs : q.size = 1 := by rw [hq, mk_size]; rfl
      have hcv : (convert 55 9 (.slice (some ⟨wr.heap.size, 0, none⟩) 1 1)).run Tryd.prog (wr.alloc (.cells #[.int .u8 (48 + (j : Int) % 10)] 5)) = .ok (.string q) (wr.alloc (.cells #[.int .u8 (48 + (j : Int) % 10)] 5)) := by
        rw [hq]; exact conv_c wr.heap.size _ _ _ hfv (heap_alloc_new wr _)
      have HE : Hid (digM n = digM (j / 10) ++ (q ++ x).data.toList) := by
        show _ = _
        rw [HD.out, digM_pos j hj, hq, List.append_assoc]
        congr 1
      clear hfv hq
      go_wp2
      go_roundw
      case rel => exact ⟨j / 10, q ++ x, by go_num, rfl, by rw [ByteArray.size_append, hqs]; omega, HE, hbw.alloc hbw.size _⟩
      case measure => simp [intOf]; omega
end Go.Proofs.YtbogjajfbchdjaaDoor

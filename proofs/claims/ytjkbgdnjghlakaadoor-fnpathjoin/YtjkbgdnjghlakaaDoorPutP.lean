/- PathPut, of impl and of spec: a slash ahead of each piece. -/
import Derived.Test.YtjkbgdnjghlakaaDoorStrS
import Derived.Test.YtjkbgdnjghlakaaDoorBldS
set_option linter.unusedVariables false
namespace Go.Proofs.YtjkbgdnjghlakaaDoor
open Go.RowKit Go.Shelf

/-- A slash ahead of each piece. -/
def putL (ss : List (List UInt8)) : List UInt8 := ss.flatMap fun p => 47 :: p
theorem putL_snoc (ss : List (List UInt8)) (k : Nat) (hk : k < ss.length) : putL (ss.take (k + 1)) = putL (ss.take k) ++ 47 :: ss[k] := by
  unfold putL; rw [List.take_succ_eq_append_getElem hk, List.flatMap_append]; simp
theorem putL_len (ss : List (List UInt8)) : (putL ss).length = ss.length + tot ss := by
  induction ss with
  | nil => rfl
  | cons p ps ih =>
    have e1 : putL (p :: ps) = (47 :: p) ++ putL ps := rfl
    have e2 : tot (p :: ps) = p.length + tot ps := by simp [tot]
    rw [e1, e2, List.length_append, ih]; simp; omega
theorem tot_take (ss : List (List UInt8)) (k : Nat) : tot (ss.take k) ≤ tot ss := by
  conv => rhs; rw [← List.take_append_drop k ss]
  unfold tot
  rw [List.map_append, List.sum_append]; omega
theorem putL_take (ss : List (List UInt8)) (k : Nat) : (putL (ss.take k)).length ≤ ss.length + tot ss := by
  rw [putL_len]; have := tot_take ss k; have := List.length_take_le k ss; have := List.length_take_le' k ss; omega

set_option maxHeartbeats 1000000 in
set_option maxRecDepth 100000 in
theorem implPathPut (a : Option Addr) (len cap : Nat) (ss : List (List UInt8)) (w : World) (h : StrsOf a len ss w) (hl : ss.length + tot ss ≤ 1000000000) :
    Calls Tryd.prog 11 #[.slice a len cap] w fun e w' => e = .returned (.string (mk (putL ss))) ∧ Below w.heap.size w w' := by
  have HLEN : Hid (len = ss.length) := h.1
  have hll : len ≤ 1000000000 := by have := HLEN.out; omega
  go_enter Tryd.func11, Tryd.ntmps11
  go_wp2
  go_loopw [8] (fun i wr => ∃ k : Nat, k ≤ len ∧ i = .int .i64 k ∧ Lib.IsBuilderF 38 5 w.heap.size w.heap.size (Lib.byteCells (putL (ss.take k))) wr ∧ Below w.heap.size w wr) (fun i wr => len - (intOf i).toNat)
  case atStart =>
    refine ⟨0, Nat.zero_le _, rfl, Lib.IsBuilderF.of (Lib.fresh_isBuilder _ _ w), (Below.refl _ w).alloc (Nat.le_refl _) _⟩
  case round =>
    obtain ⟨k, hk, rfl, hI, hbw⟩ := hrel
    have hsz : w.heap.size ≤ wr.heap.size := hbw.size
    by_cases hp : k < len
    · have hki : (k : Int) < (len : Int) := by omega
      have hkl : k < ss.length := by have := HLEN.out; omega
      obtain ⟨b, off, z, rfl, hz, hzm, hzs⟩ := (h.later hbw).at k hkl
      have hq := putL_take ss (k + 1)
      have HS := putL_snoc ss k hkl
      have hlen : (Lib.byteCells (putL (ss.take k))).length + 1 ≤ 140737488355328 := by
        rw [Lib.byteCells_length]; have := putL_take ss k; omega
      have hlen2 : (Lib.byteCells (putL (ss.take k)) ++ [Value.int .u8 47]).length + z.size ≤ 140737488355328 := by
        rw [HS] at hq; simp [Lib.byteCells_length] at hq ⊢; omega
      have HP : Hid (Lib.byteCells (putL (ss.take (k + 1))) = (Lib.byteCells (putL (ss.take k)) ++ [Value.int .u8 47]) ++ Lib.strCells z) := by
        rw [HS, hzm, Lib.byteCells_append, List.append_assoc]; rfl
      clear HS hq hzm hzs
      go_wp2_with (first
        | (go_at_call 21; refine (writeByte_k w.heap.size w.heap.size _ _ _ hI hlen hsz).mono ?_; rintro e W1 ⟨rfl, g1, b1, _⟩)
        | (go_at_call 22; refine (writeString_k w.heap.size w.heap.size _ _ _ (Or.inr g1) hlen2 (by have := b1.size; omega)).mono ?_; rintro e W2 ⟨rfl, g2, b2, _⟩))
      go_roundw
      case rel => exact ⟨k + 1, by omega, by go_num, Or.inr (by rw [HP.out]; exact g2), hbw.trans (b1.trans b2)⟩
      case measure => simp [intOf]; omega
    · have hkk : k = len := by omega
      subst hkk
      rw [List.take_of_length_le (by have := HLEN.out; omega)] at hI
      go_wp2_with (go_at_call 23; refine (Tryd.Builder_String_any_k w.heap.size w.heap.size _ _ hI hsz).mono ?_; rintro e W1 ⟨rfl, _, b1, _⟩)
      go_ret
      exact ⟨rfl, hbw.trans b1⟩

set_option maxHeartbeats 1000000 in
set_option maxRecDepth 100000 in
theorem specPathPut (a : Option Addr) (len cap : Nat) (ss : List (List UInt8)) (w : World) (h : StrsOf a len ss w) (hl : ss.length + tot ss ≤ 1000000000) :
    Calls Tryd.prog 12 #[.slice a len cap] w fun e w' => e = .returned (.string (mk (putL ss))) ∧ w' = w := by
  have HLEN : Hid (len = ss.length) := h.1
  have hll : len ≤ 1000000000 := by have := HLEN.out; omega
  go_enter Tryd.func12, Tryd.ntmps12
  go_wp2
  go_loop [3, 4] (fun o i => ∃ (k : Nat) (x : ByteArray), k ≤ len ∧ i = .int .i64 k ∧ o = .string x ∧ x.size ≤ 1000000000 ∧ Hid (x = mk (putL (ss.take k)))) (fun _ i => len - (intOf i).toNat)
  case atStart => exact ⟨0, _, Nat.zero_le _, rfl, rfl, by decide, rfl⟩
  case round =>
    obtain ⟨k, x, hk, rfl, rfl, hx, HX⟩ := hrel
    by_cases hp : k < len
    · have hki : (k : Int) < (len : Int) := by omega
      have hkl : k < ss.length := by have := HLEN.out; omega
      obtain ⟨b, off, z, rfl, hz, hzm, hzs⟩ := h.at k hkl
      have hq := putL_take ss (k + 1)
      have HS := putL_snoc ss k hkl
      have HE : Hid ((x ++ ⟨#[47]⟩) ++ z = mk (putL (ss.take (k + 1)))) := by
        rw [HX.out, HS, hzm]; apply ByteArray.ext; apply Array.ext'; simp [mk]
      have hsz : ((x ++ ⟨#[47]⟩) ++ z).size ≤ 1000000000 := by rw [HE.out, mk_size]; omega
      have hsz2 : x.size + 1 + z.size ≤ 1000000000 := by rw [ByteArray.size_append, ByteArray.size_append] at hsz; exact hsz
      clear HS hq hzm hzs
      go_wp2
      go_round
      case rel => exact ⟨k + 1, _, by omega, by go_num, rfl, hsz, HE⟩
      case measure => simp [intOf]; omega
    · have hkk : k = len := by omega
      subst hkk
      have HE := HX.out
      rw [List.take_of_length_le (by have := HLEN.out; omega)] at HE
      subst HE
      go_wp2
      go_ret
      exact ⟨rfl, rfl⟩
end Go.Proofs.YtjkbgdnjghlakaaDoor

/- Lists of texts that came in or were made: szStringS, toStringS, eqStringS. -/
import Derived.Test.YtjkbgdnjghlakaaOwn
import Derived.Test.YtjkbgdnjghlakaaCutP
import Derived.BigQuiet
import Derived.Deep.QuietTactic
import Derived.OwnWalk
import Derived.WalkSmall
set_option linter.unusedVariables false
namespace Go.Proofs.Ytjkbgdnjghlakaa
open Go.RowKit Go.Shelf

/-- A slice value (its address and length) reads as the texts ss. -/
def StrsOf (a : Option Addr) (len : Nat) (ss : List (List UInt8)) (w : World) : Prop :=
  len = ss.length ∧ (ss = [] ∨ ∃ b off, a = some ⟨b, off, none⟩ ∧ ∀ j (h : j < ss.length), w.cell? ⟨b, off + j, none⟩ = some (.string (mk ss[j])))

theorem cell_in {w : World} {p : Addr} {v : Value} (h : w.cell? p = some v) : p.block < w.heap.size := by
  rcases Nat.lt_or_ge p.block w.heap.size with h' | h'
  · exact h'
  · simp [World.cell?, Array.getElem?_eq_none h'] at h

theorem StrsOf.later {a : Option Addr} {len : Nat} {ss : List (List UInt8)} {w w' : World} (h : StrsOf a len ss w) (hb : Below w.heap.size w w') : StrsOf a len ss w' := by
  obtain ⟨hl, h⟩ := h
  refine ⟨hl, ?_⟩
  rcases h with h | ⟨b, off, ha, hc⟩
  · exact .inl h
  · refine .inr ⟨b, off, ha, fun j hj => ?_⟩
    rw [hb.cell (p := ⟨b, off + j, none⟩) (cell_in (hc j hj))]
    exact hc j hj
theorem StrsOf.drewN {a : Option Addr} {len : Nat} {ss : List (List UInt8)} {w : World} (h : StrsOf a len ss w) (n : Nat) : StrsOf a len ss (w.drewN n) := h
theorem StrsOf.at {a : Option Addr} {len : Nat} {ss : List (List UInt8)} {w : World} (h : StrsOf a len ss w) (k : Nat) (hk : k < ss.length) : ∃ b off z, a = some ⟨b, off, none⟩ ∧ w.cell? ⟨b, off + k, none⟩ = some (.string z) ∧ z = mk ss[k] ∧ z.size = ss[k].length := by
  rcases h.2 with h | ⟨b, off, ha, hc⟩
  · subst h; simp at hk
  · exact ⟨b, off, _, ha, hc k hk, rfl, mk_size _⟩

theorem addr_add_at (b off i : Nat) : (⟨b, off, none⟩ : Addr).add i = ⟨b, off + i, none⟩ := by unfold Addr.add; split <;> simp_all
/-- What an opened list of texts reads as. -/
theorem strs_open {w : World} {x : Addr} {len cap : Nat} {ss : List ByteArray} (hl : len ≤ cap) (hs : ss.length = cap) (hc : ∀ i, i < ss.length → w.cell? (x.add i) = some (.string (ss.getD i ByteArray.empty))) : StrsOf (some x) len ((ss.take len).map fun s => s.data.toList) w := by
  refine ⟨by simp; omega, ?_⟩
  by_cases h0 : len = 0
  · subst h0; exact .inl rfl
  obtain ⟨b, off, spot⟩ := x
  have h1 := hc 0 (by omega)
  have hsp : spot = none := by simpa [Addr.add] using World.cell?_spot h1
  subst hsp
  refine .inr ⟨b, off, rfl, fun j hj => ?_⟩
  have hj' : j < len := by simp at hj; omega
  have h2 := hc j (by omega)
  rw [addr_add_at] at h2
  rw [h2]
  simp only [List.getElem_map, List.getElem_take]
  rw [mk_list, List.getD_eq_getElem?_getD, List.getElem?_eq_getElem (by omega)]; rfl

theorem infoStr : (Try.prog.info? 9).map (fun i => (i.zero, i.size, i.bytes)) = some (some (.string ⟨#[]⟩), 1, 16) := by kernel_rfl

/-- How many texts and bytes. -/
def tot (ss : List (List UInt8)) : Nat := (ss.map List.length).sum
theorem tot_snoc (ss : List (List UInt8)) (k : Nat) (hk : k < ss.length) : tot (ss.take (k + 1)) = tot (ss.take k) + ss[k].length := by
  unfold tot; rw [List.take_succ_eq_append_getElem hk, List.map_append, List.sum_append]; rfl

set_option maxHeartbeats 1000000 in
set_option maxRecDepth 100000 in
theorem szStringS (a : Option Addr) (len cap : Nat) (ss : List (List UInt8)) (left : Int) (w : World) (h : StrsOf a len ss w) (hl : len ≤ maxLen) (hss : ∀ s ∈ ss, s.length ≤ maxLen) (h0 : 0 ≤ left) (h1 : left ≤ 1048576) :
    Calls Try.prog 4 #[.slice a len cap, .int .i64 left] w fun e w' => ∃ r : Int, e = .returned (.int .i64 r) ∧ w' = w ∧ (0 ≤ r → ((ss.length : Int) + (tot ss : Int)) ≤ left - r) ∧ r ≤ 1048576 := by
  unfold maxLen at hl hss
  have HLEN : Hid (len = ss.length) := h.1
  by_cases hn : left - (len : Int) < 0
  · go_enter Try.func4, Try.ntmps4
    go_wp2
    go_ret
    exact ⟨-1, rfl, rfl, fun h => absurd h (by decide), by decide⟩
  · go_enter Try.func4, Try.ntmps4
    go_wp2
    go_loop [1, 5] (fun l i => ∃ (k : Nat) (L : Int), k ≤ len ∧ i = .int .i64 k ∧ l = .int .i64 L ∧ 0 ≤ L ∧ Hid (L = left - (len : Int) - (tot (ss.take k) : Int)) ∧ L ≤ 1048576) (fun _ i => len - (intOf i).toNat)
    case atStart => exact ⟨0, left - (len : Int), Nat.zero_le _, rfl, rfl, by omega, by show _ = _; simp [tot], by omega⟩
    case round =>
      obtain ⟨k, L, hk, rfl, rfl, hL, HE, hL2⟩ := hrel
      by_cases hp : k < len
      · have hki : (k : Int) < (len : Int) := by omega
        obtain ⟨b, off, z, rfl, hz, hzm, hzs⟩ := h.at k (by have := HLEN.out; omega)
        have hzb : z.size ≤ 9223372036854775807 := by rw [hzs]; exact hss _ (List.getElem_mem _)
        have HS : Hid (tot (ss.take (k + 1)) = tot (ss.take k) + z.size) := by rw [hzs]; exact tot_snoc ss k (by have := HLEN.out; omega)
        clear hzm hzs
        by_cases hc : L - (z.size : Int) < 0
        · go_wp2
          go_ret
          exact ⟨-1, rfl, rfl, fun h => absurd h (by decide), by decide⟩
        · go_wp2
          go_round
          case rel => exact ⟨k + 1, L - (z.size : Int), by omega, by go_num, rfl, by omega, by have h1 := HE.out; have h2 := HS.out; show _ = _; rw [h2, h1]; push_cast; omega, by omega⟩
          case measure => simp [intOf]; omega
      · have hkk : k = len := by omega
        subst hkk
        go_wp2
        go_ret
        refine ⟨L, rfl, rfl, fun _ => ?_, hL2⟩
        have := HE.out
        have h3 := HLEN.out
        rw [List.take_of_length_le (by omega)] at this
        omega

set_option maxHeartbeats 1000000 in
set_option maxRecDepth 100000 in
theorem eqStringS (a a' : Option Addr) (len cap len' cap' : Nat) (ss : List (List UInt8)) (w : World) (h : StrsOf a len ss w) (h' : StrsOf a' len' ss w) (hl : len ≤ 1000000000) :
    Calls Try.prog 8 #[.slice a len cap, .slice a' len' cap'] w fun e w' => e = .returned (.bool true) ∧ ∃ n, w' = w.drewN n := by
  have hll : len' = len := by rw [h.1, h'.1]
  subst hll
  have HLEN : Hid (len' = ss.length) := h.1
  go_enter Try.func8, Try.ntmps8
  go_wp2
  go_loopw [5] (fun i wr => ∃ k : Nat, k ≤ len' ∧ i = .int .i64 k ∧ ∃ n, wr = w.drewN n) (fun i wr => len' - (intOf i).toNat)
  case atStart => exact ⟨0, Nat.zero_le _, rfl, 0, rfl⟩
  case round =>
    obtain ⟨k, hk, rfl, n, rfl⟩ := hrel
    by_cases hp : k < len'
    · have hki : (k : Int) < (len' : Int) := by omega
      obtain ⟨b, off, z, rfl, hz, hzm, hzs⟩ := h.at k (by have := HLEN.out; omega)
      obtain ⟨b', off', z', rfl, hz', hzm', hzs'⟩ := h'.at k (by have := HLEN.out; omega)
      have : z' = z := by rw [hzm, hzm']
      subst this
      clear hzm hzm' hzs hzs'
      go_wp2
      go_quiet (fail)
      go_wp2
      go_roundw
      case rel => exact ⟨k + 1, by omega, by go_num, _, rfl⟩
      case measure => simp [intOf]; omega
    · have hkk : k = len' := by omega
      subst hkk
      go_wp2
      go_ret
      exact ⟨rfl, n, rfl⟩
end Go.Proofs.Ytjkbgdnjghlakaa

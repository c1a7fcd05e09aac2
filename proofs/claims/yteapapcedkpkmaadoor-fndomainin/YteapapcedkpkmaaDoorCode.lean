/- A code that came in, and the reader that l1Open lays over it. -/
import Derived.Test.YteapapcedkpkmaaDoorRd
import Derived.OpenShut
set_option linter.unusedVariables false
namespace Go.Proofs.YteapapcedkpkmaaDoor
open Go.RowKit Go.Shelf

/-- A slice of integers that came in: nil, or a row of 'cap' cells, the numbers zs. -/
def IsRow (k : IntKind) (w : World) (a : Option Addr) (len cap : Nat) (zs : List Int) : Prop :=
  (a = none ∧ len = 0 ∧ cap = 0 ∧ zs = []) ∨
  ∃ x, a = some x ∧ len ≤ cap ∧ cap ≤ maxLen ∧ zs.length = cap ∧ (∀ i, i < zs.length → w.cell? (x.add i) = some (.int k (zs.getD i 0))) ∧ ∀ n ∈ zs, (Lit.int k n).wf = true

/-- A code: a slice of bytes that lies below block B. -/
def Code (B : Nat) (w : World) (a : Option Addr) (len cap : Nat) : Prop :=
  len ≤ cap ∧ cap ≤ maxLen ∧ (len = 0 ∨ ∃ b off, a = some ⟨b, off, none⟩ ∧ b < B ∧ ∃ z : Nat → Int, ∀ i, i < len → w.cell? ⟨b, off + i, none⟩ = some (.int .u8 (z i)) ∧ 0 ≤ z i ∧ z i ≤ 255)

theorem addr_add_off (b off i : Nat) : (⟨b, off, none⟩ : Addr).add i = ⟨b, off + i, none⟩ := by unfold Addr.add; split <;> simp_all

theorem cellP_lt {w : World} {p : Addr} {v : Value} (h : w.cell? p = some v) : p.block < w.heap.size := by
  rcases Nat.lt_or_ge p.block w.heap.size with h' | h'
  · exact h'
  · simp [World.cell?, Array.getElem?_eq_none h'] at h

theorem code_of_row {w : World} {a : Option Addr} {len cap : Nat} {zs : List Int} (h : IsRow .u8 w a len cap zs) : Code w.heap.size w a len cap := by
  rcases h with ⟨rfl, rfl, rfl, rfl⟩ | ⟨x, rfl, hl, hm, hz, hc, hw⟩
  · exact ⟨Nat.le_refl _, Nat.zero_le _, .inl rfl⟩
  · refine ⟨hl, hm, ?_⟩
    by_cases h0 : len = 0
    · exact .inl h0
    · obtain ⟨b, off, spot⟩ := x
      have h1 := hc 0 (by omega)
      have hs : spot = none := by simpa [Addr.add] using World.cell?_spot h1
      subst hs
      have hlt : b < w.heap.size := by
        have := cellP_lt h1
        simpa [Addr.add] using this
      refine .inr ⟨b, off, rfl, hlt, fun i => zs.getD i 0, fun i hi => ⟨?_, ?_⟩⟩
      · have := hc i (by omega)
        rwa [addr_add_off] at this
      · have hwi := hw (zs.getD i 0) (by
          rw [List.getD_eq_getElem?_getD, List.getElem?_eq_getElem (by omega)]
          exact List.getElem_mem _)
        exact bounds_u8 hwi

theorem rd_new (B : Nat) (w : World) (a : Option Addr) (len cap : Nat) (hB : B ≤ w.heap.size) (hl : len ≤ 2000)
    (hc : len = 0 ∨ ∃ b off, a = some ⟨b, off, none⟩ ∧ b < B ∧ ∃ z : Nat → Int, ∀ i, i < len → w.cell? ⟨b, off + i, none⟩ = some (.int .u8 (z i)) ∧ 0 ≤ z i ∧ z i ≤ 255) :
    Rd B w.heap.size 0 (w.alloc (.cells #[.slice a len cap, .int .i64 0] 33)) := by
  rcases hc with hc | ⟨b, off, ha, hb, z, hc⟩
  · exact ⟨hB, a, len, cap, fun _ => 0, heap_alloc_new w _, hl, .inl hc⟩
  · refine ⟨hB, a, len, cap, z, heap_alloc_new w _, hl, .inr ⟨b, off, ha, hb, fun i hi => ⟨?_, (hc i hi).2⟩⟩⟩
    have : (w.alloc (.cells #[.slice a len cap, .int .i64 0] 33)).cell? ⟨b, off + i, none⟩ = w.cell? ⟨b, off + i, none⟩ := by
      unfold World.cell?; rw [Lib.alloc_old w _ b (by omega)]
    rw [this]; exact (hc i hi).1

set_option maxHeartbeats 1000000 in
set_option maxRecDepth 100000 in
theorem l1Open (B : Nat) (a : Option Addr) (len cap : Nat) (w : World) (hB : B ≤ w.heap.size) (h : Code B w a len cap) :
    Calls Tryd.prog 9 #[.slice a len cap] w fun e w' => e = .returned (.pointer (some ⟨w.heap.size, 0, none⟩)) ∧ Rd B w.heap.size 0 w' ∧ Below w.heap.size w w' := by
  obtain ⟨hl, hm, hc⟩ := h
  unfold maxLen at hm
  by_cases hg : len ≤ 2000
  · have hgi : ¬ ((2000 : Int) < (len : Int)) := by omega
    have HR := rd_new B w a len cap hB hg hc
    have HR2 : Hid (Rd B w.heap.size 0 (w.alloc (.cells #[.slice a len cap, .int .i64 0] 33))) := HR
    clear HR hc
    go_enter Tryd.func9, Tryd.ntmps9
    go_wp2
    go_ret
    exact ⟨rfl, HR2.out, (Below.refl _ w).alloc (Nat.le_refl _) _⟩
  · have hgi : (2000 : Int) < (len : Int) := by omega
    rcases hc with hc | ⟨b, off, rfl, hb, z, hc⟩
    · omega
    have HR := rd_new B w (some ⟨b, off, none⟩) 2000 cap hB (Nat.le_refl _) (.inr ⟨b, off, rfl, hb, z, fun i hi => hc i (by omega)⟩)
    have HR2 : Hid (Rd B w.heap.size 0 (w.alloc (.cells #[.slice (some ⟨b, off, none⟩) 2000 cap, .int .i64 0] 33))) := HR
    clear HR hc
    have h1 : (2000 : Int) ≤ (cap : Int) := by omega
    have h2 : (2000 : Int) < (cap : Int) := by omega
    have h3 : 2000 ≤ cap := by omega
    go_enter Tryd.func9, Tryd.ntmps9
    go_wp2
    go_ret
    exact ⟨rfl, HR2.out, (Below.refl _ w).alloc (Nat.le_refl _) _⟩
end Go.Proofs.YteapapcedkpkmaaDoor

/- The reader of a code: pick answers a number below what it is asked for, and turns nothing but the reader's place. -/
import Derived.Test.YteapapcedkpkmaaDoorOwn
import Derived.BigQuiet
import Derived.Deep.QuietTactic
import Derived.WalkSmall
set_option linter.unusedVariables false
namespace Go.Proofs.YteapapcedkpkmaaDoor
open Go.RowKit Go.Shelf

theorem i64_xor_nat (a b : Nat) (ha : a < 9223372036854775808) (hb : b < 9223372036854775808) : bits .xor .i64 (a : Int) (b : Int) = ((a ^^^ b : Nat) : Int) := by
  have hx : a ^^^ b < 2 ^ 63 := Nat.xor_lt_two_pow (by omega) (by omega)
  show IntKind.i64.wrap ((BitVec.ofInt 64 (a : Int) ^^^ BitVec.ofInt 64 (b : Int)).toNat : Int) = _
  have e1 : (BitVec.ofInt 64 (a : Int)).toNat = a := by rw [BitVec.toNat_ofInt]; omega
  have e2 : (BitVec.ofInt 64 (b : Int)).toNat = b := by rw [BitVec.toNat_ofInt]; omega
  rw [BitVec.toNat_xor, e1, e2, IntKind.wrap_i64]
  omega

theorem i64_xor_range (a b : Int) (h1 : 0 ≤ a) (h2 : a < 9223372036854775808) (h3 : 0 ≤ b) (h4 : b < 9223372036854775808) : ∃ n : Nat, bits .xor .i64 a b = (n : Int) ∧ n < 9223372036854775808 := by
  obtain ⟨A, rfl⟩ := Int.eq_ofNat_of_zero_le h1
  obtain ⟨C, rfl⟩ := Int.eq_ofNat_of_zero_le h3
  exact ⟨A ^^^ C, i64_xor_nat A C (by omega) (by omega), by have : A ^^^ C < 2 ^ 63 := Nat.xor_lt_two_pow (by omega) (by omega); omega⟩

/-- A reader in block r, at place p, over a code that lies below block B. -/
def Rd (B r p : Nat) (w : World) : Prop :=
  B ≤ r ∧ ∃ a len cap, ∃ z : Nat → Int, w.heap[r]? = some (.cells #[.slice a len cap, .int .i64 (p : Int)] 33 (0, 0)) ∧ len ≤ 2000 ∧
    (len = 0 ∨ ∃ b off, a = some ⟨b, off, none⟩ ∧ b < B ∧ ∀ i, i < len → w.cell? ⟨b, off + i, none⟩ = some (.int .u8 (z i)) ∧ 0 ≤ z i ∧ z i ≤ 255)

theorem Rd.lt {B r p : Nat} {w : World} (h : Rd B r p w) : r < w.heap.size := by
  obtain ⟨_, a, len, cap, z, hr, _⟩ := h
  exact (Array.getElem?_eq_some_iff.1 hr).1

/-- A reader stays one where the blocks below B and its own stand. -/
theorem Rd.stays {B r p : Nat} {w w' : World} (h : Rd B r p w) (hr' : w'.heap[r]? = w.heap[r]?) (hb : ∀ k, k < B → w'.heap[k]? = w.heap[k]?) : Rd B r p w' := by
  obtain ⟨hB, a, len, cap, z, hr, hl, hc⟩ := h
  refine ⟨hB, a, len, cap, z, hr'.trans hr, hl, ?_⟩
  rcases hc with hc | ⟨b, off, ha, hbB, hc⟩
  · exact .inl hc
  · refine .inr ⟨b, off, ha, hbB, fun i hi => ⟨?_, (hc i hi).2⟩⟩
    have : w'.cell? ⟨b, off + i, none⟩ = w.cell? ⟨b, off + i, none⟩ := by unfold World.cell?; rw [hb b hbB]
    rw [this]; exact (hc i hi).1

theorem Rd.put {B r p : Nat} {w : World} (h : Rd B r p w) (q : Nat) : Rd B r q (w.setCell ⟨r, 1, none⟩ (.int .i64 (q : Int))) := by
  obtain ⟨hB, a, len, cap, z, hr, hl, hc⟩ := h
  refine ⟨hB, a, len, cap, z, ?_, hl, ?_⟩
  · simp [World.setCell, Array.getElem?_modify, hr]
  · rcases hc with hc | ⟨b, off, ha, hbB, hc⟩
    · exact .inl hc
    · refine .inr ⟨b, off, ha, hbB, fun i hi => ⟨?_, (hc i hi).2⟩⟩
      have : (w.setCell ⟨r, 1, none⟩ (.int .i64 (q : Int))).cell? ⟨b, off + i, none⟩ = w.cell? ⟨b, off + i, none⟩ := by
        unfold World.cell?; rw [Below.heap_setCell _ _ _ _ (by show b ≠ r; omega)]
      rw [this]; exact (hc i hi).1

theorem setCell_grown (w : World) (r j : Nat) (v : Value) : w.grownBy (w.setCell ⟨r, j, none⟩ v) (some r) :=
  ⟨rfl, rfl, rfl, by simp [World.setCell], fun k _ hk => Below.heap_setCell _ _ _ _ (fun e => hk (by simp [e]))⟩

theorem grown_drewN {w w' : World} {row : Option Nat} (h : w.grownBy w' row) (n : Nat) : w.grownBy (w'.drewN n) row := ⟨h.os, h.tape, h.output, h.size, h.block⟩
theorem grown_drew {w w' : World} {row : Option Nat} (h : w.grownBy w' row) : w.grownBy w'.drew row := ⟨h.os, h.tape, h.output, h.size, h.block⟩
theorem grown_trans {a b c : World} {row : Option Nat} (h : a.grownBy b row) (k : b.grownBy c row) : a.grownBy c row :=
  ⟨k.os.trans h.os, k.tape.trans h.tape, k.output.trans h.output, Nat.le_trans h.size k.size, fun j hj hn => (k.block j (Nat.lt_of_lt_of_le hj h.size) hn).trans (h.block j hj hn)⟩
theorem grown_alloc {a b : World} {row : Option Nat} (h : a.grownBy b row) (o : Obj) : a.grownBy (b.alloc o) row := grown_trans h (World.grownBy_alloc b o row)
theorem below_grown {B r : Nat} {w w' : World} (h : w.grownBy w' (some r)) (hr : B ≤ r) (hB : B ≤ w.heap.size) : Below B w w' :=
  (Below.refl B w).grown h hB (fun k hk => by simp at hk; omega)

theorem OwnB.keptRd {B0 B r p : Nat} {v : Value} {l : List UInt8} {w w' : World} (h : OwnB B0 v l w) (hr : Rd B r p w) (hg : w.grownBy w' (some r)) : OwnB B0 v l w' := by
  obtain ⟨_, a, len, cap, z, hh, _⟩ := hr
  exact World.ownsRow.kept h hg (.inr (Lib.ownBlock_ne h hh (by decide)))

end Go.Proofs.YteapapcedkpkmaaDoor

/- impl.hostNumbered.put: an address of four bytes, written. -/
import Derived.Test.YtdiloljmpcapfaaDoorBldS
import Derived.Test.YtdiloljmpcapfaaDoorBldB
import Derived.Test.YtdiloljmpcapfaaDoorFormI
import Derived.Lib.AppendIntMem
set_option linter.unusedVariables false
namespace Go.Proofs.YtdiloljmpcapfaaDoor
open Go.RowKit Go.Shelf

theorem tab_below {w w' : World} {B : Nat} (h : Lib.TabIs Tryd.prog w "internal/strconv.uint64pow10" .u64 Lib.pow10Tab) (b : Below B w w') (hB : 0 < B) : Lib.TabIs Tryd.prog w' "internal/strconv.uint64pow10" .u64 Lib.pow10Tab := by
  have hgn : Tryd.prog.globalNamed "internal/strconv.uint64pow10" = some 0 := by kernel_rfl
  unfold Lib.TabIs World.var? at h ⊢
  rw [hgn] at h ⊢
  simp only [Option.bind_some] at h ⊢
  rw [b.block _ hB]; exact h

theorem and255 (n : Int) : bits .and .i64 n 255 = n % 256 := by
  have h255 : (BitVec.ofInt 64 255).toNat = 2 ^ 8 - 1 := by decide
  have key : (BitVec.ofInt 64 n &&& BitVec.ofInt 64 255).toNat = (n % ((2 ^ 64 : Nat) : Int)).toNat % 2 ^ 8 := by
    rw [BitVec.toNat_and, BitVec.toNat_ofInt, h255, Nat.and_two_pow_sub_one_eq_mod]
  show IntKind.i64.wrap ((BitVec.ofInt 64 n &&& BitVec.ofInt 64 255).toNat : Nat) = n % 256
  rw [key, IntKind.wrap_i64]
  omega

/-- A number in decimals. -/
def dg (x : Int) : List UInt8 := Lib.decDigits x.toNat
theorem dg_len (x : Int) (h : x < 256) : (dg x).length ≤ 3 := by
  unfold dg
  obtain ⟨n, hn, hl⟩ : ∃ n, n = x.toNat ∧ n < 256 := ⟨_, rfl, by omega⟩
  rw [← hn]
  rw [Lib.decDigits]
  split
  · simp
  · rw [Lib.decDigits]
    split
    · simp
    · rw [Lib.decDigits]
      split
      · simp
      · omega
theorem itoa_dg (x : Int) (h : 0 ≤ x) : Lib.itoa x = dg x := by unfold Lib.itoa dg; rw [if_neg (by omega)]

def pre1 (a : Int) : List UInt8 := dg (a / 16777216 % 256) ++ [46]
def pre2 (a : Int) : List UInt8 := pre1 a ++ (dg (a / 65536 % 256) ++ [46])
def pre3 (a : Int) : List UInt8 := pre2 a ++ (dg (a / 256 % 256) ++ [46])
/-- An address of four bytes, written. -/
def fourT (a : Int) : List UInt8 := pre3 a ++ dg (a % 256)
/-- The first k of the four parts, written. -/
def preT (a : Int) : Nat → List UInt8
  | 0 => []
  | 1 => pre1 a
  | 2 => pre2 a
  | 3 => pre3 a
  | _ => fourT a
theorem preT_len (a : Int) : ∀ k, (preT a k).length ≤ 15 := by
  have h1 : (pre1 a).length ≤ 4 := by unfold pre1; have := dg_len (a / 16777216 % 256) (by omega); simp; omega
  have h2 : (pre2 a).length ≤ 8 := by unfold pre2; have := dg_len (a / 65536 % 256) (by omega); simp; omega
  have h3 : (pre3 a).length ≤ 12 := by unfold pre3; have := dg_len (a / 256 % 256) (by omega); simp; omega
  have h4 : (fourT a).length ≤ 15 := by unfold fourT; have := dg_len (a % 256) (by omega); simp; omega
  intro k
  match k with
  | 0 => simp [preT]
  | 1 => show (pre1 a).length ≤ 15; omega
  | 2 => show (pre2 a).length ≤ 15; omega
  | 3 => show (pre3 a).length ≤ 15; omega
  | n + 4 => exact h4

theorem itoaAt (x : Int) (h0 : 0 ≤ x) (h1 : x < 256) (W : World) (ht : Lib.TabIs Tryd.prog W "internal/strconv.uint64pow10" .u64 Lib.pow10Tab) :
    Calls Tryd.prog 22 #[.int .i64 x] W fun e w' => e = .returned (.string (mk (dg x))) ∧ Below W.heap.size W w' := by
  refine (Tryd.strconv_Itoa x (by omega) (by omega) W ht).mono ?_
  rintro e w' ⟨rfl, k, os, rfl⟩
  exact ⟨by rw [itoa_dg x h0]; rfl, Lib.below_grow _ _ (Nat.le_refl _) k os⟩

theorem cells_put {b : Nat} {B : Nat} {p : Value} {l d m : List UInt8} {w : World} (h : Lib.BuilderAtF 107 5 B b p ((Lib.byteCells l ++ Lib.strCells (mk d)) ++ [.int .u8 46]) w) (hm : m = l ++ (d ++ [46]) := by rfl) : Lib.BuilderAtF 107 5 B b p (Lib.byteCells m) w := by
  subst hm
  have e : Lib.byteCells (l ++ (d ++ [46])) = (Lib.byteCells l ++ Lib.strCells (mk d)) ++ [.int .u8 46] := by
    rw [Lib.byteCells_append, Lib.byteCells_append, List.append_assoc]; rfl
  rw [e]; exact h
theorem cells_last {b : Nat} {B : Nat} {p : Value} {l d m : List UInt8} {w : World} (h : Lib.BuilderAtF 107 5 B b p (Lib.byteCells l ++ Lib.strCells (mk d)) w) (hm : m = l ++ d := by rfl) : Lib.BuilderAtF 107 5 B b p (Lib.byteCells m) w := by
  subst hm
  rw [Lib.byteCells_append]; exact h

set_option maxHeartbeats 4000000 in
set_option maxRecDepth 100000 in
theorem put (a : Int) (w : World) (h0 : 0 ≤ a) (h1 : a ≤ 4294967295) (hB : 0 < w.heap.size) (ht : Lib.TabIs Tryd.prog w "internal/strconv.uint64pow10" .u64 Lib.pow10Tab) :
    Calls Tryd.prog 89 #[.int .i64 a] w fun e w' => e = .returned (.string (mk (fourT a))) ∧ Below w.heap.size w w' := by
  have HT : Hid (∀ W, Below w.heap.size w W → Lib.TabIs Tryd.prog W "internal/strconv.uint64pow10" .u64 Lib.pow10Tab) := fun W b => tab_below ht b hB
  have HL : Hid (∀ k, (preT a k).length ≤ 15) := preT_len a
  have A0 := and255 (a / 16777216)
  have A1 := and255 (a / 65536)
  have A2 := and255 (a / 256)
  have A3 := and255 a
  have A3' := and255 (a / 1)
  clear ht
  go_enter Tryd.func89, Tryd.ntmps89
  go_wp2
  go_loopw [4] (fun i wr => ∃ k : Nat, k ≤ 4 ∧ i = .int .i64 (24 - 8 * (k : Int)) ∧ Lib.IsBuilderF 107 5 w.heap.size w.heap.size (Lib.byteCells (preT a k)) wr ∧ Below w.heap.size w wr) (fun i wr => (intOf i + 8).toNat)
  case atStart => exact ⟨0, by omega, rfl, Lib.IsBuilderF.of (Lib.fresh_isBuilder _ _ w), (Below.refl _ w).alloc (Nat.le_refl _) _⟩
  case round =>
    obtain ⟨k, hk, rfl, hI, hbw⟩ := hrel
    have hsz : w.heap.size ≤ wr.heap.size := hbw.size
    rcases (show k = 0 ∨ k = 1 ∨ k = 2 ∨ k = 3 ∨ k = 4 from by omega) with rfl | rfl | rfl | rfl | rfl
    · have hl := HL.out 0
      have hd := dg_len (a / 16777216 % 256) (by omega)
      go_wp2_with fail
      refine (itoaAt (a / 16777216 % 256) (by omega) (by omega) _ (HT.out _ hbw)).mono ?_
      rintro e W1 ⟨rfl, b1⟩
      have I1 := builder_below hI b1
      have B1 : Below w.heap.size w W1 := hbw.trans (b1.mono hsz)
      have s1 : w.heap.size ≤ W1.heap.size := B1.size
      go_wp2_with fail
      refine (writeString_k w.heap.size w.heap.size _ _ _ I1 (by rw [Lib.byteCells_length, mk_size]; omega) s1).mono ?_
      rintro e W2 ⟨rfl, g2, b2, _⟩
      have B2 : Below w.heap.size w W2 := B1.trans b2
      have s2 : w.heap.size ≤ W2.heap.size := B2.size
      go_wp2_with fail
      refine (writeByte_k w.heap.size w.heap.size _ 46 _ (Or.inr g2) (by rw [List.length_append, Lib.byteCells_length, Lib.strCells_length, mk_size]; omega) s2).mono ?_
      rintro e W3 ⟨rfl, g3, b3, _⟩
      go_wp2
      go_roundw
      case rel => exact ⟨1, by omega, by go_num, Or.inr (cells_put g3), B2.trans b3⟩
      case measure => simp [intOf]
    · have hl := HL.out 1
      have hd := dg_len (a / 65536 % 256) (by omega)
      go_wp2_with fail
      refine (itoaAt (a / 65536 % 256) (by omega) (by omega) _ (HT.out _ hbw)).mono ?_
      rintro e W1 ⟨rfl, b1⟩
      have I1 := builder_below hI b1
      have B1 : Below w.heap.size w W1 := hbw.trans (b1.mono hsz)
      have s1 : w.heap.size ≤ W1.heap.size := B1.size
      go_wp2_with fail
      refine (writeString_k w.heap.size w.heap.size _ _ _ I1 (by rw [Lib.byteCells_length, mk_size]; omega) s1).mono ?_
      rintro e W2 ⟨rfl, g2, b2, _⟩
      have B2 : Below w.heap.size w W2 := B1.trans b2
      have s2 : w.heap.size ≤ W2.heap.size := B2.size
      go_wp2_with fail
      refine (writeByte_k w.heap.size w.heap.size _ 46 _ (Or.inr g2) (by rw [List.length_append, Lib.byteCells_length, Lib.strCells_length, mk_size]; omega) s2).mono ?_
      rintro e W3 ⟨rfl, g3, b3, _⟩
      go_wp2
      go_roundw
      case rel => exact ⟨2, by omega, by go_num, Or.inr (cells_put g3), B2.trans b3⟩
      case measure => simp [intOf]
    · have hl := HL.out 2
      have hd := dg_len (a / 256 % 256) (by omega)
      go_wp2_with fail
      refine (itoaAt (a / 256 % 256) (by omega) (by omega) _ (HT.out _ hbw)).mono ?_
      rintro e W1 ⟨rfl, b1⟩
      have I1 := builder_below hI b1
      have B1 : Below w.heap.size w W1 := hbw.trans (b1.mono hsz)
      have s1 : w.heap.size ≤ W1.heap.size := B1.size
      go_wp2_with fail
      refine (writeString_k w.heap.size w.heap.size _ _ _ I1 (by rw [Lib.byteCells_length, mk_size]; omega) s1).mono ?_
      rintro e W2 ⟨rfl, g2, b2, _⟩
      have B2 : Below w.heap.size w W2 := B1.trans b2
      have s2 : w.heap.size ≤ W2.heap.size := B2.size
      go_wp2_with fail
      refine (writeByte_k w.heap.size w.heap.size _ 46 _ (Or.inr g2) (by rw [List.length_append, Lib.byteCells_length, Lib.strCells_length, mk_size]; omega) s2).mono ?_
      rintro e W3 ⟨rfl, g3, b3, _⟩
      go_wp2
      go_roundw
      case rel => exact ⟨3, by omega, by go_num, Or.inr (cells_put g3), B2.trans b3⟩
      case measure => simp [intOf]
    · have hl := HL.out 3
      have hd := dg_len (a % 256) (by omega)
      go_wp2_with fail
      refine (itoaAt (a % 256) (by omega) (by omega) _ (HT.out _ hbw)).mono ?_
      rintro e W1 ⟨rfl, b1⟩
      have I1 := builder_below hI b1
      have B1 : Below w.heap.size w W1 := hbw.trans (b1.mono hsz)
      have s1 : w.heap.size ≤ W1.heap.size := B1.size
      go_wp2_with fail
      refine (writeString_k w.heap.size w.heap.size _ _ _ I1 (by rw [Lib.byteCells_length, mk_size]; omega) s1).mono ?_
      rintro e W2 ⟨rfl, g2, b2, _⟩
      have B2 : Below w.heap.size w W2 := B1.trans b2
      have s2 : w.heap.size ≤ W2.heap.size := B2.size
      go_wp2
      go_roundw
      case rel => exact ⟨4, by omega, by go_num, Or.inr (cells_last g2), B2⟩
      case measure => simp [intOf]
    · go_wp2_with (go_at_call 92; refine (Tryd.Builder_String_any_k w.heap.size w.heap.size _ _ hI hsz).mono ?_; rintro e W1 ⟨rfl, _, b1, _⟩)
      go_ret
      exact ⟨rfl, hbw.trans b1⟩
end Go.Proofs.YtdiloljmpcapfaaDoor

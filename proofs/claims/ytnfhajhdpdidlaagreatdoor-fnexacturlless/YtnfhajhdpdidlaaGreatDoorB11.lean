/- (*strings.Builder).WriteString, as Bld's WriteByte. A builder behind what leaves it. impl.hostFormOf: a host's form. impl.hostNumbered.put: an address of four bytes, written. Plain facts of hosts with a name, and with a number. -/
import Derived.Test.YtnfhajhdpdidlaaGreatDoorB01
import Derived.Test.YtnfhajhdpdidlaaGreatDoorB08
import Derived.Lib.AppendIntMem
set_option linter.unusedVariables false
set_option maxHeartbeats 4000000
set_option maxRecDepth 100000
section
namespace Go.Proofs.YtnfhajhdpdidlaaGreatDoor
open Go.RowKit Go.Shelf
theorem writeString_k (B b : Nat) (bs : List Value) (s : ByteArray) (w : World) (h : Lib.IsBuilderF 67 5 B b bs w) (hlen : bs.length + s.size ≤ 140737488355328) (hBw : B ≤ w.heap.size) :
  Calls Tryz.prog 46 #[.pointer (some ⟨b, 0, none⟩), .string s] w fun e w' => e = .returned (.tuple #[.int .i64 s.size, .nilIface]) ∧ Lib.BuilderAtF 67 5 B b (.pointer (some ⟨b, 0, none⟩)) (bs ++ Lib.strCells s) w' ∧ Below B w w' ∧ Lib.OthersKept 5 (some b) w w' := by
 obtain ⟨i0, hi, hz0, hz1, hz2⟩ := info_parts infoByte
 go_enter Tryz.func46, Tryz.ntmps46
 go_wp2_with (go_at_call 86; refine (copyCheck_k B b bs _ h).mono ?_)
 rintro e w1 ⟨rfl, h1, hb1, hk1⟩
 obtain ⟨hB, v, hbk, hown, hne⟩ := h1
 have c0 : w1.cell? ⟨b, 0, none⟩ = some (.pointer (some ⟨b, 0, none⟩)) := by rw [Lib.cell_of_heap hbk]; rfl
 have c1 : w1.cell? ⟨b, 1, none⟩ = some v := by rw [Lib.cell_of_heap hbk]; rfl
 go_wp2_with (at_builtin; refine Lib.wpList_append_own_stringF _ rfl _ _ 35 9 rfl B 5 i0 Tryz.underlying35 Tryz.underlying9 hi hz0 hz1 hz2 _ _ _ rfl hown s rfl ?c3 ?c4 ?c5 ?_)
 case c3 => unfold maxLen; omega
 case c4 => omega
 case c5 => have := hb1.size; omega
 intro v' w2 hown' hgrow _
 have hlt : b < w1.heap.size := by
  rcases Nat.lt_or_ge b w1.heap.size with h' | h'
  ·exact h'
  ·simp [Array.getElem?_eq_none h'] at hbk
 have hb2 : w2.heap[b]? = some (.cells #[.pointer (some ⟨b, 0, none⟩), v] 67 (0, 0)) := by
  rw [hgrow.block b hlt (fun e => hne e.symm)]
  exact hbk
 have d0 : w2.cell? ⟨b, 0, none⟩ = some (.pointer (some ⟨b, 0, none⟩)) := by rw [Lib.cell_of_heap hb2]; rfl
 have d1 : w2.cell? ⟨b, 1, none⟩ = some v := by rw [Lib.cell_of_heap hb2]; rfl
 have f1 : w2.frozen? ⟨b, 1, none⟩ = false := Lib.frozen_of_heap hb2 1
 obtain ⟨ao, n', cap, rfl⟩ : ∃ ao n' cap, v' = .slice ao n' cap := by
  rcases hown'.2 with ⟨hv, _⟩ | ⟨g, cap, cur, fz, hv, _⟩
  ·exact ⟨_, _, _, hv⟩
  ·exact ⟨_, _, _, hv⟩
 go_wp2
 go_ret2
 refine ⟨rfl, ?_, ?_, (hk1.grown hgrow (Lib.ownsRowF_kind hown)).setCell ⟨b, 1, none⟩ rfl _⟩
 ·exact Lib.BuilderAtF.put (T := 67) (e := 5) hB hb2 (bs' := bs ++ Lib.strCells s) (by simpa [Lib.strCells_length] using hown') (by decide)
 ·exact (hb1.grown hgrow (by have := hb1.size; omega) (fun k hk => (hown.lt k hk).1)).setCell (p := ⟨b, 1, none⟩) hB _
end Go.Proofs.YtnfhajhdpdidlaaGreatDoor
end
section
namespace Go.Proofs.YtnfhajhdpdidlaaGreatDoor
open Go.RowKit Go.Shelf
theorem builder_below {B b : Nat} {bs : List Value} {w w' : World} (h : Lib.IsBuilderF 67 5 B b bs w) (k : Below w.heap.size w w') : Lib.IsBuilderF 67 5 B b bs w' := by
 have one : ∀ p, Lib.BuilderAtF 67 5 B b p bs w → Lib.BuilderAtF 67 5 B b p bs w' := by
  intro p hp
  have hlt := hp.lt
  obtain ⟨hB, v, hb, hown, hne⟩ := hp
  have hg : w.grownBy w' none := ⟨k.os, k.tape, k.output, k.size, fun j hj _ => k.block j hj⟩
  refine ⟨hB, v, (k.block b hlt).trans hb, hown.kept hg ?_, hne⟩
  cases h : v.ownBlock with
  | none => exact .inl rfl
  | some x => exact .inr (by simp)
 rcases h with h | h
 ·exact .inl (one _ h)
 ·exact .inr (one _ h)
end Go.Proofs.YtnfhajhdpdidlaaGreatDoor
end
section
namespace Go.Proofs.YtnfhajhdpdidlaaGreatDoor
open Go.RowKit Go.Shelf
def named (k : Int) (s : ByteArray) (a : Int) : Bool := decide (k = 1 ∧ a = 0) && nameL s.data.toList && !endsL s.data.toList
def numbered (k : Int) (s : ByteArray) (a : Int) : Bool := decide (k = 2 ∧ 0 ≤ a ∧ a ≤ 4294967295) && s.data.toList.isEmpty
def formV (k : Int) (s : ByteArray) (a : Int) : Value := if named k s a = true then .iface 137 (.string s) else if numbered k s a = true then .iface 138 (.int .i64 a) else .nilIface
theorem form_named {k : Int} {s : ByteArray} {a : Int} (h : named k s a = true) : formV k s a = .iface 137 (.string s) := by unfold formV; rw [if_pos h]
theorem form_numbered {k : Int} {s : ByteArray} {a : Int} (h1 : named k s a = false) (h : numbered k s a = true) : formV k s a = .iface 138 (.int .i64 a) := by
 unfold formV; rw [if_neg (by rw [h1]; simp), if_pos h]
theorem form_none {k : Int} {s : ByteArray} {a : Int} (h1 : named k s a = false) (h : numbered k s a = false) : formV k s a = .nilIface := by
 unfold formV; rw [if_neg (by rw [h1]; simp), if_neg (by rw [h]; simp)]
theorem named_no {k : Int} {s : ByteArray} {a : Int} (h : ¬ (k = 1 ∧ a = 0)) : named k s a = false := by unfold named; rw [decide_eq_false h]; rfl
theorem numbered_no {k : Int} {s : ByteArray} {a : Int} (h : ¬ (k = 2 ∧ 0 ≤ a ∧ a ≤ 4294967295)) : numbered k s a = false := by unfold numbered; rw [decide_eq_false h]; rfl
theorem named_is {s : ByteArray} : named 1 s 0 = (nameL s.data.toList && !endsL s.data.toList) := by unfold named; rw [decide_eq_true ⟨rfl, rfl⟩]; rfl
theorem numbered_is {s : ByteArray} {a : Int} (h : 0 ≤ a ∧ a ≤ 4294967295) : numbered 2 s a = s.data.toList.isEmpty := by unfold numbered; rw [decide_eq_true ⟨rfl, h⟩]; rfl
theorem box_cell {w W1 : World} {A : Array Value} {t : TypeId} (b : Below (w.alloc (.cells A t)).heap.size (w.alloc (.cells A t)) W1) (j : Nat) : W1.cell? ⟨w.heap.size, j, none⟩ = A[j]? := by
 have hh := heap_alloc_new w (.cells A t)
 rw [b.cell (p := ⟨w.heap.size, j, none⟩) (Array.getElem?_eq_some_iff.1 hh).1, Lib.cell_of_heap hh]
theorem cell_lt {w : World} {g j : Nat} {v : Value} (h : w.cell? ⟨g, j, none⟩ = some v) : (⟨g, j, none⟩ : Addr).block < w.heap.size := by
 rcases Nat.lt_or_ge (⟨g, j, none⟩ : Addr).block w.heap.size with h' | h'
 ·exact h'
 ·simp [World.cell?, Array.getElem?_eq_none h'] at h
theorem box_below {w W1 : World} {o : Obj} (b : Below (w.alloc o).heap.size (w.alloc o) W1) : Below w.heap.size w W1 :=
 ((Below.refl _ w).alloc (Nat.le_refl _) o).trans (b.mono ((Below.refl _ w).alloc (Nat.le_refl _) o).size)
theorem hostFormOf (k : Int) (s : ByteArray) (a : Int) (w : World) (hm : ∃ m, w.cell? ⟨0, 0, none⟩ = some (.int .i64 m)) (hs : s.size ≤ 1048576) :
  Calls Tryz.prog 131 #[.agg #[.int .i64 k, .string s, .int .i64 a]] w fun e w' => e = .returned (formV k s a) ∧ Below w.heap.size w w' := by
 have hlt : 0 < w.heap.size := by
  obtain ⟨m, hm⟩ := hm
  have : (⟨0, 0, none⟩ : Addr).block < w.heap.size := by
   rcases Nat.lt_or_ge (⟨0, 0, none⟩ : Addr).block w.heap.size with h' | h'
   ·exact h'
   ·simp [World.cell?, Array.getElem?_eq_none h'] at hm
  exact this
 have HM : Hid (∀ W, Below w.heap.size w W → ∃ m, W.cell? ⟨0, 0, none⟩ = some (.int .i64 m)) := by
  obtain ⟨m, hm⟩ := hm
  intro W b
  exact ⟨m, (b.cell (p := ⟨0, 0, none⟩) hlt).trans hm⟩
 clear hm
 by_cases hk1 : k = 1
 ·subst hk1
  have HN : Hid (numbered 1 s a = false) := numbered_no (by omega)
  by_cases ha : a = 0
  ·subst ha
   have HI : Hid (named 1 s 0 = (nameL s.data.toList && !endsL s.data.toList)) := named_is
   go_enter Tryz.func131, Tryz.ntmps131
   go_wp2_with fail
   refine (isHostName s _ (HM.out _ ((Below.refl _ w).alloc (Nat.le_refl _) _)) hs).mono ?_
   rintro e W1 ⟨rfl, b1⟩
   have B1 : Hid (Below w.heap.size w W1) := box_below b1
   have hc1 : W1.cell? ⟨w.heap.size, 1, none⟩ = some (.string s) := box_cell b1 1
   have hsz1 : W1.heap.size ≥ w.heap.size := B1.out.size
   clear b1
   cases hn : nameL s.data.toList with
   | false =>
    have HF : Hid (formV 1 s 0 = .nilIface) := form_none (by rw [HI.out, hn]; rfl) HN.out
    go_wp2
    go_ret
    exact ⟨by rw [HF.out]; rfl, B1.out⟩
   | true =>
    have hl : s.data.toList.length = s.size := by simp
    have h60 := nameL_le _ hn
    have h60' : s.size ≤ 60 := by omega
    have h60i : (s.size : Int) ≤ 60 := by omega
    clear h60 hl
    go_wp2_with fail
    refine (endsWithNumber s _ (HM.out _ B1.out) (by omega)).mono ?_
    rintro e W2 ⟨rfl, b2⟩
    have hc2 : W2.cell? ⟨w.heap.size, 1, none⟩ = some (.string s) := (b2.cell (p := ⟨w.heap.size, 1, none⟩) (cell_lt hc1)).trans hc1
    have B2 : Hid (Below w.heap.size w W2) := B1.out.trans (b2.mono hsz1)
    clear b2 hc1
    cases he : endsL s.data.toList with
    | true =>
     have HF : Hid (formV 1 s 0 = .nilIface) := form_none (by rw [HI.out, hn, he]; rfl) HN.out
     go_wp2
     go_ret
     exact ⟨by rw [HF.out]; rfl, B2.out⟩
    | false =>
     have HF : Hid (formV 1 s 0 = .iface 137 (.string s)) := form_named (by rw [HI.out, hn, he]; rfl)
     go_wp2
     go_ret
     exact ⟨by rw [HF.out]; rfl, B2.out⟩
  ·have HF : Hid (formV 1 s a = .nilIface) := form_none (named_no (by omega)) HN.out
   have e0 : (a == 0) = false := beq_eq_false_iff_ne.2 ha
   go_enter Tryz.func131, Tryz.ntmps131
   go_wp2
   go_ret
   exact ⟨by rw [HF.out]; rfl, (Below.refl _ w).alloc (Nat.le_refl _) _⟩
 ·have HN : Hid (named k s a = false) := named_no (by omega)
  have e1 : (k == 1) = false := beq_eq_false_iff_ne.2 hk1
  by_cases hk2 : k = 2
  ·subst hk2
   by_cases hz : s.size = 0
   ·have he : s = ⟨#[]⟩ := by
     have := mk_list s
     have hl : s.data.toList.length = s.size := by simp
     rw [List.length_eq_zero_iff.1 (show s.data.toList.length = 0 by omega)] at this
     exact this.symm
    subst he
    rcases (show a < 0 ∨ (0 ≤ a ∧ 4294967295 < a) ∨ (0 ≤ a ∧ a ≤ 4294967295) from by omega) with h1 | ⟨h1, h2⟩ | ⟨h1, h2⟩
    ·have HF : Hid (formV 2 ⟨#[]⟩ a = .nilIface) := form_none HN.out (numbered_no (by omega))
     go_enter Tryz.func131, Tryz.ntmps131
     go_wp2
     go_ret
     exact ⟨by rw [HF.out]; rfl, (Below.refl _ w).alloc (Nat.le_refl _) _⟩
    ·have HF : Hid (formV 2 ⟨#[]⟩ a = .nilIface) := form_none HN.out (numbered_no (by omega))
     go_enter Tryz.func131, Tryz.ntmps131
     go_wp2
     go_ret
     exact ⟨by rw [HF.out]; rfl, (Below.refl _ w).alloc (Nat.le_refl _) _⟩
    ·have HF : Hid (formV 2 ⟨#[]⟩ a = .iface 138 (.int .i64 a)) := form_numbered HN.out (by rw [numbered_is ⟨h1, h2⟩]; rfl)
     go_enter Tryz.func131, Tryz.ntmps131
     go_wp2
     go_ret
     exact ⟨by rw [HF.out]; rfl, (Below.refl _ w).alloc (Nat.le_refl _) _⟩
   ·have hzn : s.toList ≠ [] := by rw [ByteArray.toList_eq]; exact list_ne s hz
    have hne1 : (s.toList == []) = false := beq_eq_false_iff_ne.2 hzn
    have hne2 : s.toList.isEmpty = false := List.isEmpty_eq_false_iff.2 hzn
    have HF : Hid (formV 2 s a = .nilIface) := form_none HN.out (by unfold numbered; rw [List.isEmpty_eq_false_iff.2 (list_ne s hz)]; simp)
    go_enter Tryz.func131, Tryz.ntmps131
    go_wp2
    go_ret
    exact ⟨by rw [HF.out]; rfl, (Below.refl _ w).alloc (Nat.le_refl _) _⟩
  ·have HF : Hid (formV k s a = .nilIface) := form_none HN.out (numbered_no (by omega))
   have e2 : (k == 2) = false := beq_eq_false_iff_ne.2 hk2
   go_enter Tryz.func131, Tryz.ntmps131
   go_wp2
   go_ret
   exact ⟨by rw [HF.out]; rfl, (Below.refl _ w).alloc (Nat.le_refl _) _⟩
end Go.Proofs.YtnfhajhdpdidlaaGreatDoor
end
section
namespace Go.Proofs.YtnfhajhdpdidlaaGreatDoor
open Go.RowKit Go.Shelf
theorem tab_below {w w' : World} {B : Nat} (h : Lib.TabIs Tryz.prog w "internal/strconv.uint64pow10" .u64 Lib.pow10Tab) (b : Below B w w') (hB : 4 < B) : Lib.TabIs Tryz.prog w' "internal/strconv.uint64pow10" .u64 Lib.pow10Tab := by
 have hgn : Tryz.prog.globalNamed "internal/strconv.uint64pow10" = some 4 := by kernel_rfl
 unfold Lib.TabIs World.var? at h ⊢
 rw [hgn] at h ⊢
 simp only [Option.bind_some] at h ⊢
 rw [b.block _ hB]; exact h
theorem and255 (n : Int) : bits .and .i64 n 255 = n % 256 := by
 have h255 : (BitVec.ofInt 64 255).toNat = 2 ^ 8 - 1 := by decide
 have key : (BitVec.ofInt 64 n &&& BitVec.ofInt 64 255).toNat = (n % ((2 ^ 64 : Nat) : Int)).toNat % 2 ^ 8 := by
  rw [BitVec.toNat_and, BitVec.toNat_ofInt, h255, Nat.and_two_pow_sub_one_eq_mod]
 show IntKind.i64.wrap ((BitVec.ofInt 64 n &&& BitVec.ofInt 64 255).toNat : Nat) = n % 256
 rw [key, IntKind.wrap_i64]
 omega
def dg (x : Int) : List UInt8 := Lib.decDigits x.toNat
theorem dg_len (x : Int) (h : x < 256) : (dg x).length ≤ 3 := by
 unfold dg
 obtain ⟨n, hn, hl⟩ : ∃ n, n = x.toNat ∧ n < 256 := ⟨_, rfl, by omega⟩
 rw [← hn]
 rw [Lib.decDigits]
 split
 ·simp
 ·rw [Lib.decDigits]
  split
  ·simp
  ·rw [Lib.decDigits]
   split
   ·simp
   ·omega
theorem itoa_dg (x : Int) (h : 0 ≤ x) : Lib.itoa x = dg x := by unfold Lib.itoa dg; rw [if_neg (by omega)]
def pre1 (a : Int) : List UInt8 := dg (a / 16777216 % 256) ++ [46]
def pre2 (a : Int) : List UInt8 := pre1 a ++ (dg (a / 65536 % 256) ++ [46])
def pre3 (a : Int) : List UInt8 := pre2 a ++ (dg (a / 256 % 256) ++ [46])
def fourT (a : Int) : List UInt8 := pre3 a ++ dg (a % 256)
def preT (a : Int) : Nat → List UInt8
 | 0 => []
 | 1 => pre1 a
 | 2 => pre2 a
 | 3 => pre3 a
 | _ => fourT a
theorem preT_len (a : Int) : ∀ k, (preT a k).length ≤ 15 := by
 have h1 : (pre1 a).length ≤ 4 := by unfold pre1; have := dg_len (a / 16777216 % 256) (by omega); simp; omega
 have h2 : (pre2 a).length ≤ 8 := by unfold pre2; have := dg_len (a / 65536 % 256) (by omega); simp; omega
 have h3 : (pre3 a).length ≤ 12 := by unfold pre3; have := dg_len (a / 256 % 256) (by omega); simp; omega
 have h4 : (fourT a).length ≤ 15 := by unfold fourT; have := dg_len (a % 256) (by omega); simp; omega
 intro k
 match k with
 | 0 => simp [preT]
 | 1 => show (pre1 a).length ≤ 15; omega
 | 2 => show (pre2 a).length ≤ 15; omega
 | 3 => show (pre3 a).length ≤ 15; omega
 | n + 4 => exact h4
theorem itoaAt (x : Int) (h0 : 0 ≤ x) (h1 : x < 256) (W : World) (ht : Lib.TabIs Tryz.prog W "internal/strconv.uint64pow10" .u64 Lib.pow10Tab) :
  Calls Tryz.prog 106 #[.int .i64 x] W fun e w' => e = .returned (.string (mk (dg x))) ∧ Below W.heap.size W w' := by
 refine (Tryz.strconv_Itoa x (by omega) (by omega) W ht).mono ?_
 rintro e w' ⟨rfl, k, os, rfl⟩
 exact ⟨by rw [itoa_dg x h0]; rfl, Lib.below_grow _ _ (Nat.le_refl _) k os⟩
theorem cells_put {b : Nat} {B : Nat} {p : Value} {l d m : List UInt8} {w : World} (h : Lib.BuilderAtF 67 5 B b p ((Lib.byteCells l ++ Lib.strCells (mk d)) ++ [.int .u8 46]) w) (hm : m = l ++ (d ++ [46]) := by rfl) : Lib.BuilderAtF 67 5 B b p (Lib.byteCells m) w := by
 subst hm
 have e : Lib.byteCells (l ++ (d ++ [46])) = (Lib.byteCells l ++ Lib.strCells (mk d)) ++ [.int .u8 46] := by
  rw [Lib.byteCells_append, Lib.byteCells_append, List.append_assoc]; rfl
 rw [e]; exact h
theorem cells_last {b : Nat} {B : Nat} {p : Value} {l d m : List UInt8} {w : World} (h : Lib.BuilderAtF 67 5 B b p (Lib.byteCells l ++ Lib.strCells (mk d)) w) (hm : m = l ++ d := by rfl) : Lib.BuilderAtF 67 5 B b p (Lib.byteCells m) w := by
 subst hm
 rw [Lib.byteCells_append]; exact h
theorem put (a : Int) (w : World) (h0 : 0 ≤ a) (h1 : a ≤ 4294967295) (hB : 4 < w.heap.size) (ht : Lib.TabIs Tryz.prog w "internal/strconv.uint64pow10" .u64 Lib.pow10Tab) :
  Calls Tryz.prog 232 #[.int .i64 a] w fun e w' => e = .returned (.string (mk (fourT a))) ∧ Below w.heap.size w w' := by
 have HT : Hid (∀ W, Below w.heap.size w W → Lib.TabIs Tryz.prog W "internal/strconv.uint64pow10" .u64 Lib.pow10Tab) := fun W b => tab_below ht b hB
 have HL : Hid (∀ k, (preT a k).length ≤ 15) := preT_len a
 have A0 := and255 (a / 16777216)
 have A1 := and255 (a / 65536)
 have A2 := and255 (a / 256)
 have A3 := and255 a
 have A3' := and255 (a / 1)
 clear ht
 go_enter Tryz.func232, Tryz.ntmps232
 go_wp2
 go_loopw [4] (fun i wr => ∃ k : Nat, k ≤ 4 ∧ i = .int .i64 (24 - 8 * (k : Int)) ∧ Lib.IsBuilderF 67 5 w.heap.size w.heap.size (Lib.byteCells (preT a k)) wr ∧ Below w.heap.size w wr) (fun i wr => (intOf i + 8).toNat)
 case atStart => exact ⟨0, by omega, rfl, Lib.IsBuilderF.of (Lib.fresh_isBuilder _ _ w), (Below.refl _ w).alloc (Nat.le_refl _) _⟩
 case round =>
  obtain ⟨k, hk, rfl, hI, hbw⟩ := hrel
  have hsz : w.heap.size ≤ wr.heap.size := hbw.size
  rcases (show k = 0 ∨ k = 1 ∨ k = 2 ∨ k = 3 ∨ k = 4 from by omega) with rfl | rfl | rfl | rfl | rfl
  ·have hl := HL.out 0
   have hd := dg_len (a / 16777216 % 256) (by omega)
   go_wp2_with fail
   refine (itoaAt (a / 16777216 % 256) (by omega) (by omega) _ (HT.out _ hbw)).mono ?_
   rintro e W1 ⟨rfl, b1⟩
   have I1 := builder_below hI b1
   have B1 : Below w.heap.size w W1 := hbw.trans (b1.mono hsz)
   have s1 : w.heap.size ≤ W1.heap.size := B1.size
   go_wp2_with fail
   refine (writeString_k w.heap.size w.heap.size _ _ _ I1 (by rw [Lib.byteCells_length, mk_size]; omega) s1).mono ?_
   rintro e W2 ⟨rfl, g2, b2, _⟩
   have B2 : Below w.heap.size w W2 := B1.trans b2
   have s2 : w.heap.size ≤ W2.heap.size := B2.size
   go_wp2_with fail
   refine (writeByte_k w.heap.size w.heap.size _ 46 _ (Or.inr g2) (by rw [List.length_append, Lib.byteCells_length, Lib.strCells_length, mk_size]; omega) s2).mono ?_
   rintro e W3 ⟨rfl, g3, b3, _⟩
   go_wp2
   go_roundw
   case rel => exact ⟨1, by omega, by go_num, Or.inr (cells_put g3), B2.trans b3⟩
   case measure => simp [intOf]
  ·have hl := HL.out 1
   have hd := dg_len (a / 65536 % 256) (by omega)
   go_wp2_with fail
   refine (itoaAt (a / 65536 % 256) (by omega) (by omega) _ (HT.out _ hbw)).mono ?_
   rintro e W1 ⟨rfl, b1⟩
   have I1 := builder_below hI b1
   have B1 : Below w.heap.size w W1 := hbw.trans (b1.mono hsz)
   have s1 : w.heap.size ≤ W1.heap.size := B1.size
   go_wp2_with fail
   refine (writeString_k w.heap.size w.heap.size _ _ _ I1 (by rw [Lib.byteCells_length, mk_size]; omega) s1).mono ?_
   rintro e W2 ⟨rfl, g2, b2, _⟩
   have B2 : Below w.heap.size w W2 := B1.trans b2
   have s2 : w.heap.size ≤ W2.heap.size := B2.size
   go_wp2_with fail
   refine (writeByte_k w.heap.size w.heap.size _ 46 _ (Or.inr g2) (by rw [List.length_append, Lib.byteCells_length, Lib.strCells_length, mk_size]; omega) s2).mono ?_
   rintro e W3 ⟨rfl, g3, b3, _⟩
   go_wp2
   go_roundw
   case rel => exact ⟨2, by omega, by go_num, Or.inr (cells_put g3), B2.trans b3⟩
   case measure => simp [intOf]
  ·have hl := HL.out 2
   have hd := dg_len (a / 256 % 256) (by omega)
   go_wp2_with fail
   refine (itoaAt (a / 256 % 256) (by omega) (by omega) _ (HT.out _ hbw)).mono ?_
   rintro e W1 ⟨rfl, b1⟩
   have I1 := builder_below hI b1
   have B1 : Below w.heap.size w W1 := hbw.trans (b1.mono hsz)
   have s1 : w.heap.size ≤ W1.heap.size := B1.size
   go_wp2_with fail
   refine (writeString_k w.heap.size w.heap.size _ _ _ I1 (by rw [Lib.byteCells_length, mk_size]; omega) s1).mono ?_
   rintro e W2 ⟨rfl, g2, b2, _⟩
   have B2 : Below w.heap.size w W2 := B1.trans b2
   have s2 : w.heap.size ≤ W2.heap.size := B2.size
   go_wp2_with fail
   refine (writeByte_k w.heap.size w.heap.size _ 46 _ (Or.inr g2) (by rw [List.length_append, Lib.byteCells_length, Lib.strCells_length, mk_size]; omega) s2).mono ?_
   rintro e W3 ⟨rfl, g3, b3, _⟩
   go_wp2
   go_roundw
   case rel => exact ⟨3, by omega, by go_num, Or.inr (cells_put g3), B2.trans b3⟩
   case measure => simp [intOf]
  ·have hl := HL.out 3
   have hd := dg_len (a % 256) (by omega)
   go_wp2_with fail
   refine (itoaAt (a % 256) (by omega) (by omega) _ (HT.out _ hbw)).mono ?_
   rintro e W1 ⟨rfl, b1⟩
   have I1 := builder_below hI b1
   have B1 : Below w.heap.size w W1 := hbw.trans (b1.mono hsz)
   have s1 : w.heap.size ≤ W1.heap.size := B1.size
   go_wp2_with fail
   refine (writeString_k w.heap.size w.heap.size _ _ _ I1 (by rw [Lib.byteCells_length, mk_size]; omega) s1).mono ?_
   rintro e W2 ⟨rfl, g2, b2, _⟩
   have B2 : Below w.heap.size w W2 := B1.trans b2
   have s2 : w.heap.size ≤ W2.heap.size := B2.size
   go_wp2
   go_roundw
   case rel => exact ⟨4, by omega, by go_num, Or.inr (cells_last g2), B2⟩
   case measure => simp [intOf]
  ·go_wp2_with (go_at_call 47; refine (Tryz.Builder_String_any_k w.heap.size w.heap.size _ _ hI hsz).mono ?_; rintro e W1 ⟨rfl, _, b1, _⟩)
   go_ret
   exact ⟨rfl, hbw.trans b1⟩
end Go.Proofs.YtnfhajhdpdidlaaGreatDoor
end
section
namespace Go.Proofs.YtnfhajhdpdidlaaGreatDoor
open Go.RowKit Go.Shelf
theorem named_facts {k : Int} {s : ByteArray} {a : Int} (h : named k s a = true) : k = 1 ∧ a = 0 ∧ s.size ≤ 60 := by
 unfold named at h
 rw [Bool.and_eq_true, Bool.and_eq_true, decide_eq_true_eq] at h
 have := nameL_le _ h.1.2
 have hl : s.data.toList.length = s.size := by simp
 exact ⟨h.1.1.1, h.1.1.2, by omega⟩
theorem numbered_facts {k : Int} {s : ByteArray} {a : Int} (h : numbered k s a = true) : k = 2 ∧ 0 ≤ a ∧ a ≤ 4294967295 ∧ named k s a = false := by
 unfold numbered at h
 rw [Bool.and_eq_true, decide_eq_true_eq] at h
 exact ⟨h.1.1, h.1.2.1, h.1.2.2, named_no (by omega)⟩
end Go.Proofs.YtnfhajhdpdidlaaGreatDoor
end

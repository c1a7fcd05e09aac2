/- impl.tailWrite, impl.authorityWrite, impl.urlWrite: an address, written. impl.authorityWrite: who, the host and the port, written. impl.urlWrite: an address, written. Plain facts on figures that are read back. Plain facts: what is written as figures is read as what it was; written again it is the same; all of it can be seen. -/
import Derived.Test.YthjccpboecfdhabGreatDoorB10
import Derived.Test.YthjccpboecfdhabGreatDoorB12
import Derived.Test.YthjccpboecfdhabGreatDoorB02
import Derived.Test.YthjccpboecfdhabGreatDoorB03
section
set_option linter.unusedVariables false
set_option linter.unusedSimpArgs false
namespace Go.Proofs.YthjccpboecfdhabGreatDoor
open Go.RowKit Go.Shelf

/-- Block b is a builder that holds the bytes l. -/
def Bd (B b : Nat) (l : List UInt8) (w : World) : Prop := Lib.IsBuilderF 61 5 B b (Lib.byteCells l) w
theorem Bd.new (w : World) : Bd w.heap.size w.heap.size [] (w.alloc (.cells #[.pointer none, .slice none 0 0] 61)) := Lib.IsBuilderF.of (Lib.fresh_isBuilder _ _ w)
/-- How great an address is. -/
def P.tot (p : P) : Nat := p.sc.size + p.us.size + p.pw.size + p.hn.size + p.op.size + p.qu.size + p.fr.size + p.ps.length + Go.Proofs.YthjccpboecfdhabGreatDoor.tot p.ps
/-- The cells of an address. -/
def P.cells (p : P) (v : Value) : Array Value := #[.string p.sc, .string p.us, .string p.pw, .int .i64 p.hk, .string p.hn, .int .i64 p.ha, .int .i64 p.po, v, .string p.op, .bool p.hq, .string p.qu, .bool p.hf, .string p.fr]
theorem cells_u (p : P) (v : Value) : (p.u v).cells.toArray = p.cells v := rfl
theorem text_len (s : ByteArray) : s.data.toList.length = s.size := by simp

/-- While an address is written: its own cells, a builder that holds l, all else as it was. -/
structure Wr (w : World) (p : P) (v : Value) (n : Nat) (l : List UInt8) (W : World) : Prop where
  make ::
  len : l.length ≤ n
  blk : Blk w.heap.size (p.cells v) 27 W
  bd : Bd (w.heap.size + 1) (w.heap.size + 1) l W
  bw : Below w.heap.size w W
  sz : w.heap.size + 1 ≤ W.heap.size
theorem Wr.start (w : World) (p : P) (v : Value) : Wr w p v 0 [] ((w.alloc (.cells (p.cells v) 27)).alloc (.cells #[.pointer none, .slice none 0 0] 61)) where
  len := Nat.le_refl _
  blk := Blk.alloc (Blk.new w _ _) _
  bd := by
    have := Bd.new (w.alloc (.cells (p.cells v) 27))
    rw [show (w.alloc (Obj.cells (p.cells v) 27)).heap.size = w.heap.size + 1 by simp] at this
    exact this
  bw := ((Below.refl _ w).alloc (Nat.le_refl _) _).alloc (by simp) _
  sz := by simp
theorem Wr.cells {w W : World} {p : P} {v : Value} {l : List UInt8} {n : Nat} (h : Wr w p v n l W) :
    W.cell? ⟨w.heap.size, 0, none⟩ = some (.string p.sc) ∧ W.cell? ⟨w.heap.size, 1, none⟩ = some (.string p.us) ∧ W.cell? ⟨w.heap.size, 2, none⟩ = some (.string p.pw) ∧ W.cell? ⟨w.heap.size, 3, none⟩ = some (.int .i64 p.hk) ∧ W.cell? ⟨w.heap.size, 4, none⟩ = some (.string p.hn) ∧ W.cell? ⟨w.heap.size, 5, none⟩ = some (.int .i64 p.ha) ∧ W.cell? ⟨w.heap.size, 6, none⟩ = some (.int .i64 p.po) ∧ W.cell? ⟨w.heap.size, 7, none⟩ = some v ∧ W.cell? ⟨w.heap.size, 8, none⟩ = some (.string p.op) ∧ W.cell? ⟨w.heap.size, 9, none⟩ = some (.bool p.hq) ∧ W.cell? ⟨w.heap.size, 10, none⟩ = some (.string p.qu) ∧ W.cell? ⟨w.heap.size, 11, none⟩ = some (.bool p.hf) ∧ W.cell? ⟨w.heap.size, 12, none⟩ = some (.string p.fr) :=
  ⟨h.blk.cell 0, h.blk.cell 1, h.blk.cell 2, h.blk.cell 3, h.blk.cell 4, h.blk.cell 5, h.blk.cell 6, h.blk.cell 7, h.blk.cell 8, h.blk.cell 9, h.blk.cell 10, h.blk.cell 11, h.blk.cell 12⟩
theorem Wr.step {w W W' : World} {p : P} {v : Value} {l l' : List UInt8} {n n' : Nat} (h : Wr w p v n l W) (hd : Bd (w.heap.size + 1) (w.heap.size + 1) l' W') (b : Below (w.heap.size + 1) W W') (hn : l'.length ≤ n') : Wr w p v n' l' W' where
  len := hn
  blk := h.blk.below b (Nat.lt_succ_self _)
  bd := hd
  bw := h.bw.trans (b.mono (Nat.le_succ _))
  sz := Nat.le_trans h.sz b.size
theorem Wr.later {w W W' : World} {p : P} {v : Value} {l : List UInt8} {n : Nat} (h : Wr w p v n l W) (b : Below W.heap.size W W') : Wr w p v n l W' :=
  h.step (builder_below h.bd b) (b.mono h.sz) h.len
theorem Wr.wb {w W : World} {p : P} {v : Value} {l : List UInt8} {n : Nat} (h : Wr w p v n l W) (c : UInt8) (z : Int) (hz : (c.toNat : Int) = z) (hl : n ≤ 1000000000) :
    Calls Tryz.prog 31 #[.pointer (some ⟨w.heap.size + 1, 0, none⟩), .int .u8 z] W fun e w' => e = .returned .nilIface ∧ Wr w p v (n + 1) (l ++ [c]) w' := by
  subst hz
  have hn := h.len
  refine (writeByte_k _ _ _ _ W h.bd (by rw [Lib.byteCells_length]; omega) h.sz).mono ?_
  rintro e w' ⟨rfl, g1, b1, _⟩
  exact ⟨rfl, h.step (Or.inr (by rw [Lib.byteCells_append]; exact g1)) b1 (by rw [List.length_append]; simp only [List.length_cons, List.length_nil]; omega)⟩
theorem Wr.ws {w W : World} {p : P} {v : Value} {l : List UInt8} {n : Nat} (h : Wr w p v n l W) (s : ByteArray) (hl : n + s.size ≤ 1000000000) :
    Calls Tryz.prog 30 #[.pointer (some ⟨w.heap.size + 1, 0, none⟩), .string s] W fun e w' => e = .returned (.tuple #[.int .i64 s.size, .nilIface]) ∧ Wr w p v (n + s.size) (l ++ s.data.toList) w' := by
  have hn := h.len
  have hsl := text_len s
  refine (writeString_k _ _ _ _ W h.bd (by rw [Lib.byteCells_length]; omega) h.sz).mono ?_
  rintro e w' ⟨rfl, g1, b1, _⟩
  exact ⟨rfl, h.step (Or.inr (by rw [Lib.byteCells_append]; exact g1)) b1 (by rw [List.length_append]; omega)⟩
theorem Wr.str {w W : World} {p : P} {v : Value} {l : List UInt8} {n : Nat} (h : Wr w p v n l W) :
    Calls Tryz.prog 36 #[.pointer (some ⟨w.heap.size + 1, 0, none⟩)] W fun e w' => e = .returned (.string (mk l)) ∧ Below w.heap.size w w' := by
  refine (Tryz.Builder_String_any_k _ _ l W h.bd h.sz).mono ?_
  rintro e w' ⟨rfl, _, b1, _⟩
  exact ⟨rfl, h.bw.trans (b1.mono (Nat.le_succ _))⟩
theorem text_none (s : ByteArray) (h : s.data.toList = []) : s = ⟨#[]⟩ := by
  have := mk_list s
  rw [h] at this
  exact this.symm
theorem text_full (s : ByteArray) (h : s.data.toList ≠ []) : (s.toList == []) = false ∧ s.toList.isEmpty = false := by
  have hzn : s.toList ≠ [] := by rw [ByteArray.toList_eq]; exact h
  exact ⟨beq_eq_false_iff_ne.2 hzn, List.isEmpty_eq_false_iff.2 hzn⟩

/-- The tail of an address, written. -/
def queL (p : P) : List UInt8 := if p.hq = true then 63 :: p.qu.data.toList else []
def frgL (p : P) : List UInt8 := if p.hf = true then 35 :: p.fr.data.toList else []
def tailL (p : P) : List UInt8 := queL p ++ frgL p
theorem tailL_len (p : P) : (tailL p).length ≤ p.qu.size + p.fr.size + 2 := by
  unfold tailL queL frgL
  have h1 := text_len p.qu
  have h2 := text_len p.fr
  rw [List.length_append]
  by_cases a : p.hq = true <;> by_cases b : p.hf = true <;> simp [a, b] <;> omega
/-- Who, the host and the port, written. -/
def pwL (p : P) : List UInt8 := if p.pw.data.toList = [] then [] else 58 :: p.pw.data.toList
def atL' (p : P) : List UInt8 := if p.us.data.toList = [] ∧ p.pw.data.toList = [] then [] else [64]
def porL (p : P) : List UInt8 := if 0 ≤ p.po then 58 :: dg p.po else []
def autL (p : P) : List UInt8 := p.us.data.toList ++ (pwL p ++ (atL' p ++ (putT p.hk p.hn p.ha ++ porL p)))
def mainL (p : P) : List UInt8 := if 0 ≤ ownZ p.sc then [47, 47] ++ (autL p ++ putL p.ps) else p.op.data.toList
/-- An address, written. -/
def writL (p : P) : List UInt8 := p.sc.data.toList ++ ([58] ++ (mainL p ++ tailL p))

set_option maxHeartbeats 2000000 in
set_option maxRecDepth 100000 in
theorem tailWrite (p : P) (v : Value) (w : World) (hs : p.tot ≤ 1048576) :
    Calls Tryz.prog 35 #[.agg (p.cells v)] w fun e w' => e = .returned (.string (mk (tailL p))) ∧ Below w.heap.size w w' := by
  have HT : Hid (tailL p = queL p ++ frgL p) := rfl
  have hq1 : p.qu.size ≤ 1048576 := by unfold P.tot at hs; omega
  have hf1 : p.fr.size ≤ 1048576 := by unfold P.tot at hs; omega
  have hp1 : p.pw.size ≤ 1048576 := by unfold P.tot at hs; omega
  have hu1 : p.us.size ≤ 1048576 := by unfold P.tot at hs; omega
  have hs1 : p.sc.size ≤ 1048576 := by unfold P.tot at hs; omega
  have ho1 : p.op.size ≤ 1048576 := by unfold P.tot at hs; omega
  have hn1 : p.hn.size ≤ 1048576 := by unfold P.tot at hs; omega
  have H0 : Hid (Wr w p v 0 [] ((w.alloc (.cells (p.cells v) 27)).alloc (.cells #[.pointer none, .slice none 0 0] 61))) := Wr.start w p v
  obtain ⟨k0, k1, k2, k3, k4, k5, k6, k7, k8, k9, k10, k11, k12⟩ := H0.out.cells
  unfold P.cells at H0 ⊢
  clear hs
  cases hq : p.hq with
  | true =>
    cases hf : p.hf with
    | true =>
      have HF : Hid (frgL p = 35 :: p.fr.data.toList) := by show _ = _; unfold frgL; rw [hf]; rfl
      have HQ : Hid (queL p = 63 :: p.qu.data.toList) := by show _ = _; unfold queL; rw [hq]; rfl
      rw [hq, hf] at H0
      rw [hq] at k9
      rw [hf] at k11
      go_enter Tryz.func35, Tryz.ntmps35
      go_wp2_with fail
      refine (H0.out.wb 63 _ rfl (by omega)).mono ?_
      rintro e W1 ⟨rfl, h1⟩
      have H1 : Hid (Wr w p v (0 + 1) (([]) ++ [63]) W1) := h1
      clear k0 k1 k2 k3 k4 k5 k6 k7 k8 k9 k10 k11 k12
      obtain ⟨k0, k1, k2, k3, k4, k5, k6, k7, k8, k9, k10, k11, k12⟩ := h1.cells
      clear h1 H0
      go_wp2_with fail
      refine (H1.out.ws p.qu (by omega)).mono ?_
      rintro e W2 ⟨rfl, h2⟩
      have H2 : Hid (Wr w p v (0 + 1 + (p.qu).size) ((([]) ++ [63]) ++ p.qu.data.toList) W2) := h2
      clear k0 k1 k2 k3 k4 k5 k6 k7 k8 k9 k10 k11 k12
      obtain ⟨k0, k1, k2, k3, k4, k5, k6, k7, k8, k9, k10, k11, k12⟩ := h2.cells
      clear h2 H1
      go_wp2_with fail
      refine (H2.out.wb 35 _ rfl (by omega)).mono ?_
      rintro e W3 ⟨rfl, h3⟩
      have H3 : Hid (Wr w p v (0 + 1 + (p.qu).size + 1) (((([]) ++ [63]) ++ p.qu.data.toList) ++ [35]) W3) := h3
      clear k0 k1 k2 k3 k4 k5 k6 k7 k8 k9 k10 k11 k12
      obtain ⟨k0, k1, k2, k3, k4, k5, k6, k7, k8, k9, k10, k11, k12⟩ := h3.cells
      clear h3 H2
      go_wp2_with fail
      refine (H3.out.ws p.fr (by omega)).mono ?_
      rintro e W4 ⟨rfl, h4⟩
      have H4 : Hid (Wr w p v (0 + 1 + (p.qu).size + 1 + (p.fr).size) ((((([]) ++ [63]) ++ p.qu.data.toList) ++ [35]) ++ p.fr.data.toList) W4) := h4
      clear k0 k1 k2 k3 k4 k5 k6 k7 k8 k9 k10 k11 k12
      obtain ⟨k0, k1, k2, k3, k4, k5, k6, k7, k8, k9, k10, k11, k12⟩ := h4.cells
      clear h4 H3
      go_wp2_with fail
      refine H4.out.str.mono ?_
      rintro e W5 ⟨rfl, b⟩
      go_wp2
      go_ret
      refine ⟨?_, b⟩
      rw [HT.out, HQ.out, HF.out]
      simp [mk_data]
    | false =>
      have HF : Hid (frgL p = []) := by show _ = _; unfold frgL; rw [hf]; rfl
      have HQ : Hid (queL p = 63 :: p.qu.data.toList) := by show _ = _; unfold queL; rw [hq]; rfl
      rw [hq, hf] at H0
      rw [hq] at k9
      rw [hf] at k11
      go_enter Tryz.func35, Tryz.ntmps35
      go_wp2_with fail
      refine (H0.out.wb 63 _ rfl (by omega)).mono ?_
      rintro e W1 ⟨rfl, h1⟩
      have H1 : Hid (Wr w p v (0 + 1) (([]) ++ [63]) W1) := h1
      clear k0 k1 k2 k3 k4 k5 k6 k7 k8 k9 k10 k11 k12
      obtain ⟨k0, k1, k2, k3, k4, k5, k6, k7, k8, k9, k10, k11, k12⟩ := h1.cells
      clear h1 H0
      go_wp2_with fail
      refine (H1.out.ws p.qu (by omega)).mono ?_
      rintro e W2 ⟨rfl, h2⟩
      have H2 : Hid (Wr w p v (0 + 1 + (p.qu).size) ((([]) ++ [63]) ++ p.qu.data.toList) W2) := h2
      clear k0 k1 k2 k3 k4 k5 k6 k7 k8 k9 k10 k11 k12
      obtain ⟨k0, k1, k2, k3, k4, k5, k6, k7, k8, k9, k10, k11, k12⟩ := h2.cells
      clear h2 H1
      go_wp2_with fail
      refine H2.out.str.mono ?_
      rintro e W3 ⟨rfl, b⟩
      go_wp2
      go_ret
      refine ⟨?_, b⟩
      rw [HT.out, HQ.out, HF.out]
      simp [mk_data]
  | false =>
    cases hf : p.hf with
    | true =>
      have HF : Hid (frgL p = 35 :: p.fr.data.toList) := by show _ = _; unfold frgL; rw [hf]; rfl
      have HQ : Hid (queL p = []) := by show _ = _; unfold queL; rw [hq]; rfl
      rw [hq, hf] at H0
      rw [hq] at k9
      rw [hf] at k11
      go_enter Tryz.func35, Tryz.ntmps35
      go_wp2_with fail
      refine (H0.out.wb 35 _ rfl (by omega)).mono ?_
      rintro e W1 ⟨rfl, h1⟩
      have H1 : Hid (Wr w p v (0 + 1) (([]) ++ [35]) W1) := h1
      clear k0 k1 k2 k3 k4 k5 k6 k7 k8 k9 k10 k11 k12
      obtain ⟨k0, k1, k2, k3, k4, k5, k6, k7, k8, k9, k10, k11, k12⟩ := h1.cells
      clear h1 H0
      go_wp2_with fail
      refine (H1.out.ws p.fr (by omega)).mono ?_
      rintro e W2 ⟨rfl, h2⟩
      have H2 : Hid (Wr w p v (0 + 1 + (p.fr).size) ((([]) ++ [35]) ++ p.fr.data.toList) W2) := h2
      clear k0 k1 k2 k3 k4 k5 k6 k7 k8 k9 k10 k11 k12
      obtain ⟨k0, k1, k2, k3, k4, k5, k6, k7, k8, k9, k10, k11, k12⟩ := h2.cells
      clear h2 H1
      go_wp2_with fail
      refine H2.out.str.mono ?_
      rintro e W3 ⟨rfl, b⟩
      go_wp2
      go_ret
      refine ⟨?_, b⟩
      rw [HT.out, HQ.out, HF.out]
      simp [mk_data]
    | false =>
      have HF : Hid (frgL p = []) := by show _ = _; unfold frgL; rw [hf]; rfl
      have HQ : Hid (queL p = []) := by show _ = _; unfold queL; rw [hq]; rfl
      rw [hq, hf] at H0
      rw [hq] at k9
      rw [hf] at k11
      go_enter Tryz.func35, Tryz.ntmps35
      go_wp2_with fail
      refine H0.out.str.mono ?_
      rintro e W1 ⟨rfl, b⟩
      go_wp2
      go_ret
      refine ⟨?_, b⟩
      rw [HT.out, HQ.out, HF.out]
      simp [mk_data]
end Go.Proofs.YthjccpboecfdhabGreatDoor
end

section
set_option linter.unusedVariables false
set_option linter.unusedSimpArgs false
namespace Go.Proofs.YthjccpboecfdhabGreatDoor
open Go.RowKit Go.Shelf

theorem dg_lenk : ∀ (k : Nat) (n : Int), 0 ≤ n → n < (10 : Int) ^ (k + 1) → (dg n).length ≤ k + 1 := by
  intro k
  induction k with
  | zero => intro n h0 h; rw [dg_one n h0 (by simpa using h)]; simp
  | succ k ih =>
    intro n h0 h
    by_cases h10 : n < 10
    · rw [dg_one n h0 h10]; simp
    · rw [dg_more n (by omega), List.length_append]
      have hp : (10 : Int) ^ (k + 1 + 1) = (10 : Int) ^ (k + 1) * 10 := Int.pow_succ _ _
      have := ih (n / 10) (by omega) (by omega)
      simp; omega
theorem dg_len20 (n : Int) (h0 : 0 ≤ n) (h : n ≤ 9223372036854775807) : (dg n).length ≤ 20 := by
  have := dg_lenk 19 n h0 (by omega)
  omega
theorem itoaC (x : Int) (h0 : 0 ≤ x) (h1 : x ≤ 9223372036854775807) (W : World) (ht : Lib.TabIs Tryz.prog W "internal/strconv.uint64pow10" .u64 Lib.pow10Tab) :
    Calls Tryz.prog 57 #[.int .i64 x] W fun e w' => e = .returned (.string (mk (dg x))) ∧ Below W.heap.size W w' := by
  refine (Tryz.strconv_Itoa x (by omega) h1 W ht).mono ?_
  rintro e w' ⟨rfl, k, os, rfl⟩
  exact ⟨by rw [itoa_dg x h0]; rfl, Lib.below_grow _ _ (Nat.le_refl _) k os⟩
/-- What a call leans on: two of the library's variables. -/
structure Lean0 (w : World) : Prop where
  make ::
  mx : MaxL w
  lt : 4 < w.heap.size
  tab : Lib.TabIs Tryz.prog w "internal/strconv.uint64pow10" .u64 Lib.pow10Tab
theorem MaxL.lt {w : World} (h : MaxL w) : 1 < w.heap.size := by
  obtain ⟨m, h⟩ := h
  exact cell_in h
theorem MaxL.below {w w' : World} {B : Nat} (h : MaxL w) (b : Below B w w') (hB : w.heap.size ≤ B) : MaxL w' := by
  have hl := h.lt
  obtain ⟨m, h⟩ := h
  exact ⟨m, (b.cell (p := ⟨1, 0, none⟩) (Nat.lt_of_lt_of_le hl hB)).trans h⟩
theorem Lean0.below {w w' : World} (h : Lean0 w) (b : Below w.heap.size w w') : Lean0 w' :=
  ⟨h.mx.below b (Nat.le_refl _), Nat.lt_of_lt_of_le h.lt b.size, tab_below h.tab b h.lt⟩
theorem Lean0.put {w : World} (h : Lean0 w) (k : Int) (s : ByteArray) (a : Int) (hs : s.size ≤ 1048576) :
    Calls Tryz.prog 56 #[.agg #[.int .i64 k, .string s, .int .i64 a]] w fun e w' => e = .returned (.string (mk (putT k s a))) ∧ Below w.heap.size w w' := implPut k s a w h.mx h.lt h.tab hs

set_option maxHeartbeats 4000000 in
set_option maxRecDepth 100000 in
theorem authorityWrite (p : P) (v : Value) (w : World) (hL : Lean0 w) (hs : p.tot ≤ 1048576) (hpo : p.po ≤ 9223372036854775807) :
    Calls Tryz.prog 33 #[.agg (p.cells v)] w fun e w' => e = .returned (.string (mk (autL p))) ∧ Below w.heap.size w w' := by
  have HT : Hid (autL p = p.us.data.toList ++ (pwL p ++ (atL' p ++ (putT p.hk p.hn p.ha ++ porL p)))) := rfl
  have hq1 : p.qu.size ≤ 1048576 := by unfold P.tot at hs; omega
  have hf1 : p.fr.size ≤ 1048576 := by unfold P.tot at hs; omega
  have hp1 : p.pw.size ≤ 1048576 := by unfold P.tot at hs; omega
  have hu1 : p.us.size ≤ 1048576 := by unfold P.tot at hs; omega
  have hs1 : p.sc.size ≤ 1048576 := by unfold P.tot at hs; omega
  have ho1 : p.op.size ≤ 1048576 := by unfold P.tot at hs; omega
  have hn1 : p.hn.size ≤ 1048576 := by unfold P.tot at hs; omega
  have hpt : (mk (putT p.hk p.hn p.ha)).size ≤ 60 := by rw [mk_size]; exact putT_len _ _ _
  have CH : Hid (∀ W, Below w.heap.size w W → Calls Tryz.prog 56 #[.agg #[.int .i64 p.hk, .string p.hn, .int .i64 p.ha]] W fun e w' => e = .returned (.string (mk (putT p.hk p.hn p.ha))) ∧ Below W.heap.size W w') := fun W b => (hL.below b).put _ _ _ hn1
  have CI : Hid (0 ≤ p.po → ∀ W, Below w.heap.size w W → Calls Tryz.prog 57 #[.int .i64 p.po] W fun e w' => e = .returned (.string (mk (dg p.po))) ∧ Below W.heap.size W w') := fun h0 W b => itoaC p.po h0 hpo W (hL.below b).tab
  have HDG : Hid (0 ≤ p.po → (mk (dg p.po)).size ≤ 20) := fun h0 => by rw [mk_size]; exact dg_len20 p.po h0 hpo
  have H0 : Hid (Wr w p v 0 [] ((w.alloc (.cells (p.cells v) 27)).alloc (.cells #[.pointer none, .slice none 0 0] 61))) := Wr.start w p v
  obtain ⟨k0, k1, k2, k3, k4, k5, k6, k7, k8, k9, k10, k11, k12⟩ := H0.out.cells
  unfold P.cells at H0 ⊢
  clear hs hL hpo
  by_cases hpw : p.pw.data.toList = []
  · by_cases hus : p.us.data.toList = []
    · by_cases hpo : 0 ≤ p.po
      · have hdg := HDG.out hpo
        have CIT := CI.out hpo
        have CIH : Hid (∀ W, Below w.heap.size w W → Calls Tryz.prog 57 #[.int .i64 p.po] W fun e w' => e = .returned (.string (mk (dg p.po))) ∧ Below W.heap.size W w') := CIT
        clear CIT
        have HP : Hid (porL p = 58 :: dg p.po) := by show _ = _; unfold porL; rw [if_pos hpo]
        clear CI HDG
        have HW : Hid (pwL p = []) := by show _ = _; unfold pwL; rw [if_pos hpw]
        have HA : Hid (atL' p = []) := by show _ = _; unfold atL'; rw [if_pos ⟨hus, hpw⟩]
        have heu := text_none _ hus
        have HEU : Hid (p.us.data.toList = []) := hus
        rw [heu] at H0 k1
        clear hus
        have hew := text_none _ hpw
        rw [hew] at H0 k2
        clear hpw
        go_enter Tryz.func33, Tryz.ntmps33
        go_wp2_with fail
        refine (H0.out.ws (ByteArray.mk #[]) (by decide)).mono ?_
        rintro e W1 ⟨rfl, h1⟩
        have H1 : Hid (Wr w p v (0) ([]) W1) := h1
        clear k0 k1 k2 k3 k4 k5 k6 k7 k8 k9 k10 k11 k12
        obtain ⟨k0, k1, k2, k3, k4, k5, k6, k7, k8, k9, k10, k11, k12⟩ := h1.cells
        clear h1 H0
        go_wp2_with fail
        refine (CH.out _ H1.out.bw).mono ?_
        rintro e W2 ⟨rfl, d2⟩
        have h2 := H1.out.later d2
        clear d2
        have H2 : Hid (Wr w p v (0) ([]) W2) := h2
        clear k0 k1 k2 k3 k4 k5 k6 k7 k8 k9 k10 k11 k12
        obtain ⟨k0, k1, k2, k3, k4, k5, k6, k7, k8, k9, k10, k11, k12⟩ := h2.cells
        clear h2 H1
        go_wp2_with fail
        refine (H2.out.ws (mk (putT p.hk p.hn p.ha)) (by omega)).mono ?_
        rintro e W3 ⟨rfl, h3⟩
        have H3 : Hid (Wr w p v (0 + ((mk (putT p.hk p.hn p.ha))).size) (([]) ++ putT p.hk p.hn p.ha) W3) := h3
        clear k0 k1 k2 k3 k4 k5 k6 k7 k8 k9 k10 k11 k12
        obtain ⟨k0, k1, k2, k3, k4, k5, k6, k7, k8, k9, k10, k11, k12⟩ := h3.cells
        clear h3 H2
        go_wp2_with fail
        refine (H3.out.wb 58 _ rfl (by omega)).mono ?_
        rintro e W4 ⟨rfl, h4⟩
        have H4 : Hid (Wr w p v (0 + ((mk (putT p.hk p.hn p.ha))).size + 1) ((([]) ++ putT p.hk p.hn p.ha) ++ [58]) W4) := h4
        clear k0 k1 k2 k3 k4 k5 k6 k7 k8 k9 k10 k11 k12
        obtain ⟨k0, k1, k2, k3, k4, k5, k6, k7, k8, k9, k10, k11, k12⟩ := h4.cells
        clear h4 H3
        go_wp2_with fail
        refine (CIH.out _ H4.out.bw).mono ?_
        rintro e W5 ⟨rfl, d5⟩
        have h5 := H4.out.later d5
        clear d5
        have H5 : Hid (Wr w p v (0 + ((mk (putT p.hk p.hn p.ha))).size + 1) ((([]) ++ putT p.hk p.hn p.ha) ++ [58]) W5) := h5
        clear k0 k1 k2 k3 k4 k5 k6 k7 k8 k9 k10 k11 k12
        obtain ⟨k0, k1, k2, k3, k4, k5, k6, k7, k8, k9, k10, k11, k12⟩ := h5.cells
        clear h5 H4
        go_wp2_with fail
        refine (H5.out.ws (mk (dg p.po)) (by omega)).mono ?_
        rintro e W6 ⟨rfl, h6⟩
        have H6 : Hid (Wr w p v (0 + ((mk (putT p.hk p.hn p.ha))).size + 1 + ((mk (dg p.po))).size) (((([]) ++ putT p.hk p.hn p.ha) ++ [58]) ++ dg p.po) W6) := h6
        clear k0 k1 k2 k3 k4 k5 k6 k7 k8 k9 k10 k11 k12
        obtain ⟨k0, k1, k2, k3, k4, k5, k6, k7, k8, k9, k10, k11, k12⟩ := h6.cells
        clear h6 H5
        go_wp2_with fail
        refine H6.out.str.mono ?_
        rintro e W7 ⟨rfl, b⟩
        go_wp2
        go_ret
        refine ⟨?_, b⟩
        rw [HT.out, HW.out, HA.out, HP.out, HEU.out]
        simp [mk]
      · have HP : Hid (porL p = []) := by show _ = _; unfold porL; rw [if_neg (by omega)]
        clear CI HDG
        have HW : Hid (pwL p = []) := by show _ = _; unfold pwL; rw [if_pos hpw]
        have HA : Hid (atL' p = []) := by show _ = _; unfold atL'; rw [if_pos ⟨hus, hpw⟩]
        have heu := text_none _ hus
        have HEU : Hid (p.us.data.toList = []) := hus
        rw [heu] at H0 k1
        clear hus
        have hew := text_none _ hpw
        rw [hew] at H0 k2
        clear hpw
        go_enter Tryz.func33, Tryz.ntmps33
        go_wp2_with fail
        refine (H0.out.ws (ByteArray.mk #[]) (by decide)).mono ?_
        rintro e W1 ⟨rfl, h1⟩
        have H1 : Hid (Wr w p v (0) ([]) W1) := h1
        clear k0 k1 k2 k3 k4 k5 k6 k7 k8 k9 k10 k11 k12
        obtain ⟨k0, k1, k2, k3, k4, k5, k6, k7, k8, k9, k10, k11, k12⟩ := h1.cells
        clear h1 H0
        go_wp2_with fail
        refine (CH.out _ H1.out.bw).mono ?_
        rintro e W2 ⟨rfl, d2⟩
        have h2 := H1.out.later d2
        clear d2
        have H2 : Hid (Wr w p v (0) ([]) W2) := h2
        clear k0 k1 k2 k3 k4 k5 k6 k7 k8 k9 k10 k11 k12
        obtain ⟨k0, k1, k2, k3, k4, k5, k6, k7, k8, k9, k10, k11, k12⟩ := h2.cells
        clear h2 H1
        go_wp2_with fail
        refine (H2.out.ws (mk (putT p.hk p.hn p.ha)) (by omega)).mono ?_
        rintro e W3 ⟨rfl, h3⟩
        have H3 : Hid (Wr w p v (0 + ((mk (putT p.hk p.hn p.ha))).size) (([]) ++ putT p.hk p.hn p.ha) W3) := h3
        clear k0 k1 k2 k3 k4 k5 k6 k7 k8 k9 k10 k11 k12
        obtain ⟨k0, k1, k2, k3, k4, k5, k6, k7, k8, k9, k10, k11, k12⟩ := h3.cells
        clear h3 H2
        go_wp2_with fail
        refine H3.out.str.mono ?_
        rintro e W4 ⟨rfl, b⟩
        go_wp2
        go_ret
        refine ⟨?_, b⟩
        rw [HT.out, HW.out, HA.out, HP.out, HEU.out]
        simp [mk]
    · by_cases hpo : 0 ≤ p.po
      · have hdg := HDG.out hpo
        have CIT := CI.out hpo
        have CIH : Hid (∀ W, Below w.heap.size w W → Calls Tryz.prog 57 #[.int .i64 p.po] W fun e w' => e = .returned (.string (mk (dg p.po))) ∧ Below W.heap.size W w') := CIT
        clear CIT
        have HP : Hid (porL p = 58 :: dg p.po) := by show _ = _; unfold porL; rw [if_pos hpo]
        clear CI HDG
        have HW : Hid (pwL p = []) := by show _ = _; unfold pwL; rw [if_pos hpw]
        have HA : Hid (atL' p = [64]) := by show _ = _; unfold atL'; rw [if_neg (fun h => hus h.1)]
        obtain ⟨hu1', hu2'⟩ := text_full _ hus
        clear hus
        have hew := text_none _ hpw
        rw [hew] at H0 k2
        clear hpw
        go_enter Tryz.func33, Tryz.ntmps33
        go_wp2_with fail
        refine (H0.out.ws p.us (by omega)).mono ?_
        rintro e W1 ⟨rfl, h1⟩
        have H1 : Hid (Wr w p v (0 + (p.us).size) (([]) ++ p.us.data.toList) W1) := h1
        clear k0 k1 k2 k3 k4 k5 k6 k7 k8 k9 k10 k11 k12
        obtain ⟨k0, k1, k2, k3, k4, k5, k6, k7, k8, k9, k10, k11, k12⟩ := h1.cells
        clear h1 H0
        go_wp2_with fail
        refine (H1.out.wb 64 _ rfl (by omega)).mono ?_
        rintro e W2 ⟨rfl, h2⟩
        have H2 : Hid (Wr w p v (0 + (p.us).size + 1) ((([]) ++ p.us.data.toList) ++ [64]) W2) := h2
        clear k0 k1 k2 k3 k4 k5 k6 k7 k8 k9 k10 k11 k12
        obtain ⟨k0, k1, k2, k3, k4, k5, k6, k7, k8, k9, k10, k11, k12⟩ := h2.cells
        clear h2 H1
        go_wp2_with fail
        refine (CH.out _ H2.out.bw).mono ?_
        rintro e W3 ⟨rfl, d3⟩
        have h3 := H2.out.later d3
        clear d3
        have H3 : Hid (Wr w p v (0 + (p.us).size + 1) ((([]) ++ p.us.data.toList) ++ [64]) W3) := h3
        clear k0 k1 k2 k3 k4 k5 k6 k7 k8 k9 k10 k11 k12
        obtain ⟨k0, k1, k2, k3, k4, k5, k6, k7, k8, k9, k10, k11, k12⟩ := h3.cells
        clear h3 H2
        go_wp2_with fail
        refine (H3.out.ws (mk (putT p.hk p.hn p.ha)) (by omega)).mono ?_
        rintro e W4 ⟨rfl, h4⟩
        have H4 : Hid (Wr w p v (0 + (p.us).size + 1 + ((mk (putT p.hk p.hn p.ha))).size) (((([]) ++ p.us.data.toList) ++ [64]) ++ putT p.hk p.hn p.ha) W4) := h4
        clear k0 k1 k2 k3 k4 k5 k6 k7 k8 k9 k10 k11 k12
        obtain ⟨k0, k1, k2, k3, k4, k5, k6, k7, k8, k9, k10, k11, k12⟩ := h4.cells
        clear h4 H3
        go_wp2_with fail
        refine (H4.out.wb 58 _ rfl (by omega)).mono ?_
        rintro e W5 ⟨rfl, h5⟩
        have H5 : Hid (Wr w p v (0 + (p.us).size + 1 + ((mk (putT p.hk p.hn p.ha))).size + 1) ((((([]) ++ p.us.data.toList) ++ [64]) ++ putT p.hk p.hn p.ha) ++ [58]) W5) := h5
        clear k0 k1 k2 k3 k4 k5 k6 k7 k8 k9 k10 k11 k12
        obtain ⟨k0, k1, k2, k3, k4, k5, k6, k7, k8, k9, k10, k11, k12⟩ := h5.cells
        clear h5 H4
        go_wp2_with fail
        refine (CIH.out _ H5.out.bw).mono ?_
        rintro e W6 ⟨rfl, d6⟩
        have h6 := H5.out.later d6
        clear d6
        have H6 : Hid (Wr w p v (0 + (p.us).size + 1 + ((mk (putT p.hk p.hn p.ha))).size + 1) ((((([]) ++ p.us.data.toList) ++ [64]) ++ putT p.hk p.hn p.ha) ++ [58]) W6) := h6
        clear k0 k1 k2 k3 k4 k5 k6 k7 k8 k9 k10 k11 k12
        obtain ⟨k0, k1, k2, k3, k4, k5, k6, k7, k8, k9, k10, k11, k12⟩ := h6.cells
        clear h6 H5
        go_wp2_with fail
        refine (H6.out.ws (mk (dg p.po)) (by omega)).mono ?_
        rintro e W7 ⟨rfl, h7⟩
        have H7 : Hid (Wr w p v (0 + (p.us).size + 1 + ((mk (putT p.hk p.hn p.ha))).size + 1 + ((mk (dg p.po))).size) (((((([]) ++ p.us.data.toList) ++ [64]) ++ putT p.hk p.hn p.ha) ++ [58]) ++ dg p.po) W7) := h7
        clear k0 k1 k2 k3 k4 k5 k6 k7 k8 k9 k10 k11 k12
        obtain ⟨k0, k1, k2, k3, k4, k5, k6, k7, k8, k9, k10, k11, k12⟩ := h7.cells
        clear h7 H6
        go_wp2_with fail
        refine H7.out.str.mono ?_
        rintro e W8 ⟨rfl, b⟩
        go_wp2
        go_ret
        refine ⟨?_, b⟩
        rw [HT.out, HW.out, HA.out, HP.out]
        simp [mk]
      · have HP : Hid (porL p = []) := by show _ = _; unfold porL; rw [if_neg (by omega)]
        clear CI HDG
        have HW : Hid (pwL p = []) := by show _ = _; unfold pwL; rw [if_pos hpw]
        have HA : Hid (atL' p = [64]) := by show _ = _; unfold atL'; rw [if_neg (fun h => hus h.1)]
        obtain ⟨hu1', hu2'⟩ := text_full _ hus
        clear hus
        have hew := text_none _ hpw
        rw [hew] at H0 k2
        clear hpw
        go_enter Tryz.func33, Tryz.ntmps33
        go_wp2_with fail
        refine (H0.out.ws p.us (by omega)).mono ?_
        rintro e W1 ⟨rfl, h1⟩
        have H1 : Hid (Wr w p v (0 + (p.us).size) (([]) ++ p.us.data.toList) W1) := h1
        clear k0 k1 k2 k3 k4 k5 k6 k7 k8 k9 k10 k11 k12
        obtain ⟨k0, k1, k2, k3, k4, k5, k6, k7, k8, k9, k10, k11, k12⟩ := h1.cells
        clear h1 H0
        go_wp2_with fail
        refine (H1.out.wb 64 _ rfl (by omega)).mono ?_
        rintro e W2 ⟨rfl, h2⟩
        have H2 : Hid (Wr w p v (0 + (p.us).size + 1) ((([]) ++ p.us.data.toList) ++ [64]) W2) := h2
        clear k0 k1 k2 k3 k4 k5 k6 k7 k8 k9 k10 k11 k12
        obtain ⟨k0, k1, k2, k3, k4, k5, k6, k7, k8, k9, k10, k11, k12⟩ := h2.cells
        clear h2 H1
        go_wp2_with fail
        refine (CH.out _ H2.out.bw).mono ?_
        rintro e W3 ⟨rfl, d3⟩
        have h3 := H2.out.later d3
        clear d3
        have H3 : Hid (Wr w p v (0 + (p.us).size + 1) ((([]) ++ p.us.data.toList) ++ [64]) W3) := h3
        clear k0 k1 k2 k3 k4 k5 k6 k7 k8 k9 k10 k11 k12
        obtain ⟨k0, k1, k2, k3, k4, k5, k6, k7, k8, k9, k10, k11, k12⟩ := h3.cells
        clear h3 H2
        go_wp2_with fail
        refine (H3.out.ws (mk (putT p.hk p.hn p.ha)) (by omega)).mono ?_
        rintro e W4 ⟨rfl, h4⟩
        have H4 : Hid (Wr w p v (0 + (p.us).size + 1 + ((mk (putT p.hk p.hn p.ha))).size) (((([]) ++ p.us.data.toList) ++ [64]) ++ putT p.hk p.hn p.ha) W4) := h4
        clear k0 k1 k2 k3 k4 k5 k6 k7 k8 k9 k10 k11 k12
        obtain ⟨k0, k1, k2, k3, k4, k5, k6, k7, k8, k9, k10, k11, k12⟩ := h4.cells
        clear h4 H3
        go_wp2_with fail
        refine H4.out.str.mono ?_
        rintro e W5 ⟨rfl, b⟩
        go_wp2
        go_ret
        refine ⟨?_, b⟩
        rw [HT.out, HW.out, HA.out, HP.out]
        simp [mk]
  · by_cases hus : p.us.data.toList = []
    · by_cases hpo : 0 ≤ p.po
      · have hdg := HDG.out hpo
        have CIT := CI.out hpo
        have CIH : Hid (∀ W, Below w.heap.size w W → Calls Tryz.prog 57 #[.int .i64 p.po] W fun e w' => e = .returned (.string (mk (dg p.po))) ∧ Below W.heap.size W w') := CIT
        clear CIT
        have HP : Hid (porL p = 58 :: dg p.po) := by show _ = _; unfold porL; rw [if_pos hpo]
        clear CI HDG
        have HW : Hid (pwL p = 58 :: p.pw.data.toList) := by show _ = _; unfold pwL; rw [if_neg hpw]
        have HA : Hid (atL' p = [64]) := by show _ = _; unfold atL'; rw [if_neg (fun h => hpw h.2)]
        obtain ⟨hw1, hw2⟩ := text_full _ hpw
        clear hpw
        have heu := text_none _ hus
        have HEU : Hid (p.us.data.toList = []) := hus
        rw [heu] at H0 k1
        clear hus
        go_enter Tryz.func33, Tryz.ntmps33
        go_wp2_with fail
        refine (H0.out.ws (ByteArray.mk #[]) (by decide)).mono ?_
        rintro e W1 ⟨rfl, h1⟩
        have H1 : Hid (Wr w p v (0) ([]) W1) := h1
        clear k0 k1 k2 k3 k4 k5 k6 k7 k8 k9 k10 k11 k12
        obtain ⟨k0, k1, k2, k3, k4, k5, k6, k7, k8, k9, k10, k11, k12⟩ := h1.cells
        clear h1 H0
        go_wp2_with fail
        refine (H1.out.wb 58 _ rfl (by omega)).mono ?_
        rintro e W2 ⟨rfl, h2⟩
        have H2 : Hid (Wr w p v (0 + 1) (([]) ++ [58]) W2) := h2
        clear k0 k1 k2 k3 k4 k5 k6 k7 k8 k9 k10 k11 k12
        obtain ⟨k0, k1, k2, k3, k4, k5, k6, k7, k8, k9, k10, k11, k12⟩ := h2.cells
        clear h2 H1
        go_wp2_with fail
        refine (H2.out.ws p.pw (by omega)).mono ?_
        rintro e W3 ⟨rfl, h3⟩
        have H3 : Hid (Wr w p v (0 + 1 + (p.pw).size) ((([]) ++ [58]) ++ p.pw.data.toList) W3) := h3
        clear k0 k1 k2 k3 k4 k5 k6 k7 k8 k9 k10 k11 k12
        obtain ⟨k0, k1, k2, k3, k4, k5, k6, k7, k8, k9, k10, k11, k12⟩ := h3.cells
        clear h3 H2
        go_wp2_with fail
        refine (H3.out.wb 64 _ rfl (by omega)).mono ?_
        rintro e W4 ⟨rfl, h4⟩
        have H4 : Hid (Wr w p v (0 + 1 + (p.pw).size + 1) (((([]) ++ [58]) ++ p.pw.data.toList) ++ [64]) W4) := h4
        clear k0 k1 k2 k3 k4 k5 k6 k7 k8 k9 k10 k11 k12
        obtain ⟨k0, k1, k2, k3, k4, k5, k6, k7, k8, k9, k10, k11, k12⟩ := h4.cells
        clear h4 H3
        go_wp2_with fail
        refine (CH.out _ H4.out.bw).mono ?_
        rintro e W5 ⟨rfl, d5⟩
        have h5 := H4.out.later d5
        clear d5
        have H5 : Hid (Wr w p v (0 + 1 + (p.pw).size + 1) (((([]) ++ [58]) ++ p.pw.data.toList) ++ [64]) W5) := h5
        clear k0 k1 k2 k3 k4 k5 k6 k7 k8 k9 k10 k11 k12
        obtain ⟨k0, k1, k2, k3, k4, k5, k6, k7, k8, k9, k10, k11, k12⟩ := h5.cells
        clear h5 H4
        go_wp2_with fail
        refine (H5.out.ws (mk (putT p.hk p.hn p.ha)) (by omega)).mono ?_
        rintro e W6 ⟨rfl, h6⟩
        have H6 : Hid (Wr w p v (0 + 1 + (p.pw).size + 1 + ((mk (putT p.hk p.hn p.ha))).size) ((((([]) ++ [58]) ++ p.pw.data.toList) ++ [64]) ++ putT p.hk p.hn p.ha) W6) := h6
        clear k0 k1 k2 k3 k4 k5 k6 k7 k8 k9 k10 k11 k12
        obtain ⟨k0, k1, k2, k3, k4, k5, k6, k7, k8, k9, k10, k11, k12⟩ := h6.cells
        clear h6 H5
        go_wp2_with fail
        refine (H6.out.wb 58 _ rfl (by omega)).mono ?_
        rintro e W7 ⟨rfl, h7⟩
        have H7 : Hid (Wr w p v (0 + 1 + (p.pw).size + 1 + ((mk (putT p.hk p.hn p.ha))).size + 1) (((((([]) ++ [58]) ++ p.pw.data.toList) ++ [64]) ++ putT p.hk p.hn p.ha) ++ [58]) W7) := h7
        clear k0 k1 k2 k3 k4 k5 k6 k7 k8 k9 k10 k11 k12
        obtain ⟨k0, k1, k2, k3, k4, k5, k6, k7, k8, k9, k10, k11, k12⟩ := h7.cells
        clear h7 H6
        go_wp2_with fail
        refine (CIH.out _ H7.out.bw).mono ?_
        rintro e W8 ⟨rfl, d8⟩
        have h8 := H7.out.later d8
        clear d8
        have H8 : Hid (Wr w p v (0 + 1 + (p.pw).size + 1 + ((mk (putT p.hk p.hn p.ha))).size + 1) (((((([]) ++ [58]) ++ p.pw.data.toList) ++ [64]) ++ putT p.hk p.hn p.ha) ++ [58]) W8) := h8
        clear k0 k1 k2 k3 k4 k5 k6 k7 k8 k9 k10 k11 k12
        obtain ⟨k0, k1, k2, k3, k4, k5, k6, k7, k8, k9, k10, k11, k12⟩ := h8.cells
        clear h8 H7
        go_wp2_with fail
        refine (H8.out.ws (mk (dg p.po)) (by omega)).mono ?_
        rintro e W9 ⟨rfl, h9⟩
        have H9 : Hid (Wr w p v (0 + 1 + (p.pw).size + 1 + ((mk (putT p.hk p.hn p.ha))).size + 1 + ((mk (dg p.po))).size) ((((((([]) ++ [58]) ++ p.pw.data.toList) ++ [64]) ++ putT p.hk p.hn p.ha) ++ [58]) ++ dg p.po) W9) := h9
        clear k0 k1 k2 k3 k4 k5 k6 k7 k8 k9 k10 k11 k12
        obtain ⟨k0, k1, k2, k3, k4, k5, k6, k7, k8, k9, k10, k11, k12⟩ := h9.cells
        clear h9 H8
        go_wp2_with fail
        refine H9.out.str.mono ?_
        rintro e W10 ⟨rfl, b⟩
        go_wp2
        go_ret
        refine ⟨?_, b⟩
        rw [HT.out, HW.out, HA.out, HP.out, HEU.out]
        simp [mk]
      · have HP : Hid (porL p = []) := by show _ = _; unfold porL; rw [if_neg (by omega)]
        clear CI HDG
        have HW : Hid (pwL p = 58 :: p.pw.data.toList) := by show _ = _; unfold pwL; rw [if_neg hpw]
        have HA : Hid (atL' p = [64]) := by show _ = _; unfold atL'; rw [if_neg (fun h => hpw h.2)]
        obtain ⟨hw1, hw2⟩ := text_full _ hpw
        clear hpw
        have heu := text_none _ hus
        have HEU : Hid (p.us.data.toList = []) := hus
        rw [heu] at H0 k1
        clear hus
        go_enter Tryz.func33, Tryz.ntmps33
        go_wp2_with fail
        refine (H0.out.ws (ByteArray.mk #[]) (by decide)).mono ?_
        rintro e W1 ⟨rfl, h1⟩
        have H1 : Hid (Wr w p v (0) ([]) W1) := h1
        clear k0 k1 k2 k3 k4 k5 k6 k7 k8 k9 k10 k11 k12
        obtain ⟨k0, k1, k2, k3, k4, k5, k6, k7, k8, k9, k10, k11, k12⟩ := h1.cells
        clear h1 H0
        go_wp2_with fail
        refine (H1.out.wb 58 _ rfl (by omega)).mono ?_
        rintro e W2 ⟨rfl, h2⟩
        have H2 : Hid (Wr w p v (0 + 1) (([]) ++ [58]) W2) := h2
        clear k0 k1 k2 k3 k4 k5 k6 k7 k8 k9 k10 k11 k12
        obtain ⟨k0, k1, k2, k3, k4, k5, k6, k7, k8, k9, k10, k11, k12⟩ := h2.cells
        clear h2 H1
        go_wp2_with fail
        refine (H2.out.ws p.pw (by omega)).mono ?_
        rintro e W3 ⟨rfl, h3⟩
        have H3 : Hid (Wr w p v (0 + 1 + (p.pw).size) ((([]) ++ [58]) ++ p.pw.data.toList) W3) := h3
        clear k0 k1 k2 k3 k4 k5 k6 k7 k8 k9 k10 k11 k12
        obtain ⟨k0, k1, k2, k3, k4, k5, k6, k7, k8, k9, k10, k11, k12⟩ := h3.cells
        clear h3 H2
        go_wp2_with fail
        refine (H3.out.wb 64 _ rfl (by omega)).mono ?_
        rintro e W4 ⟨rfl, h4⟩
        have H4 : Hid (Wr w p v (0 + 1 + (p.pw).size + 1) (((([]) ++ [58]) ++ p.pw.data.toList) ++ [64]) W4) := h4
        clear k0 k1 k2 k3 k4 k5 k6 k7 k8 k9 k10 k11 k12
        obtain ⟨k0, k1, k2, k3, k4, k5, k6, k7, k8, k9, k10, k11, k12⟩ := h4.cells
        clear h4 H3
        go_wp2_with fail
        refine (CH.out _ H4.out.bw).mono ?_
        rintro e W5 ⟨rfl, d5⟩
        have h5 := H4.out.later d5
        clear d5
        have H5 : Hid (Wr w p v (0 + 1 + (p.pw).size + 1) (((([]) ++ [58]) ++ p.pw.data.toList) ++ [64]) W5) := h5
        clear k0 k1 k2 k3 k4 k5 k6 k7 k8 k9 k10 k11 k12
        obtain ⟨k0, k1, k2, k3, k4, k5, k6, k7, k8, k9, k10, k11, k12⟩ := h5.cells
        clear h5 H4
        go_wp2_with fail
        refine (H5.out.ws (mk (putT p.hk p.hn p.ha)) (by omega)).mono ?_
        rintro e W6 ⟨rfl, h6⟩
        have H6 : Hid (Wr w p v (0 + 1 + (p.pw).size + 1 + ((mk (putT p.hk p.hn p.ha))).size) ((((([]) ++ [58]) ++ p.pw.data.toList) ++ [64]) ++ putT p.hk p.hn p.ha) W6) := h6
        clear k0 k1 k2 k3 k4 k5 k6 k7 k8 k9 k10 k11 k12
        obtain ⟨k0, k1, k2, k3, k4, k5, k6, k7, k8, k9, k10, k11, k12⟩ := h6.cells
        clear h6 H5
        go_wp2_with fail
        refine H6.out.str.mono ?_
        rintro e W7 ⟨rfl, b⟩
        go_wp2
        go_ret
        refine ⟨?_, b⟩
        rw [HT.out, HW.out, HA.out, HP.out, HEU.out]
        simp [mk]
    · by_cases hpo : 0 ≤ p.po
      · have hdg := HDG.out hpo
        have CIT := CI.out hpo
        have CIH : Hid (∀ W, Below w.heap.size w W → Calls Tryz.prog 57 #[.int .i64 p.po] W fun e w' => e = .returned (.string (mk (dg p.po))) ∧ Below W.heap.size W w') := CIT
        clear CIT
        have HP : Hid (porL p = 58 :: dg p.po) := by show _ = _; unfold porL; rw [if_pos hpo]
        clear CI HDG
        have HW : Hid (pwL p = 58 :: p.pw.data.toList) := by show _ = _; unfold pwL; rw [if_neg hpw]
        have HA : Hid (atL' p = [64]) := by show _ = _; unfold atL'; rw [if_neg (fun h => hpw h.2)]
        obtain ⟨hw1, hw2⟩ := text_full _ hpw
        clear hpw
        obtain ⟨hu1', hu2'⟩ := text_full _ hus
        clear hus
        go_enter Tryz.func33, Tryz.ntmps33
        go_wp2_with fail
        refine (H0.out.ws p.us (by omega)).mono ?_
        rintro e W1 ⟨rfl, h1⟩
        have H1 : Hid (Wr w p v (0 + (p.us).size) (([]) ++ p.us.data.toList) W1) := h1
        clear k0 k1 k2 k3 k4 k5 k6 k7 k8 k9 k10 k11 k12
        obtain ⟨k0, k1, k2, k3, k4, k5, k6, k7, k8, k9, k10, k11, k12⟩ := h1.cells
        clear h1 H0
        go_wp2_with fail
        refine (H1.out.wb 58 _ rfl (by omega)).mono ?_
        rintro e W2 ⟨rfl, h2⟩
        have H2 : Hid (Wr w p v (0 + (p.us).size + 1) ((([]) ++ p.us.data.toList) ++ [58]) W2) := h2
        clear k0 k1 k2 k3 k4 k5 k6 k7 k8 k9 k10 k11 k12
        obtain ⟨k0, k1, k2, k3, k4, k5, k6, k7, k8, k9, k10, k11, k12⟩ := h2.cells
        clear h2 H1
        go_wp2_with fail
        refine (H2.out.ws p.pw (by omega)).mono ?_
        rintro e W3 ⟨rfl, h3⟩
        have H3 : Hid (Wr w p v (0 + (p.us).size + 1 + (p.pw).size) (((([]) ++ p.us.data.toList) ++ [58]) ++ p.pw.data.toList) W3) := h3
        clear k0 k1 k2 k3 k4 k5 k6 k7 k8 k9 k10 k11 k12
        obtain ⟨k0, k1, k2, k3, k4, k5, k6, k7, k8, k9, k10, k11, k12⟩ := h3.cells
        clear h3 H2
        go_wp2_with fail
        refine (H3.out.wb 64 _ rfl (by omega)).mono ?_
        rintro e W4 ⟨rfl, h4⟩
        have H4 : Hid (Wr w p v (0 + (p.us).size + 1 + (p.pw).size + 1) ((((([]) ++ p.us.data.toList) ++ [58]) ++ p.pw.data.toList) ++ [64]) W4) := h4
        clear k0 k1 k2 k3 k4 k5 k6 k7 k8 k9 k10 k11 k12
        obtain ⟨k0, k1, k2, k3, k4, k5, k6, k7, k8, k9, k10, k11, k12⟩ := h4.cells
        clear h4 H3
        go_wp2_with fail
        refine (CH.out _ H4.out.bw).mono ?_
        rintro e W5 ⟨rfl, d5⟩
        have h5 := H4.out.later d5
        clear d5
        have H5 : Hid (Wr w p v (0 + (p.us).size + 1 + (p.pw).size + 1) ((((([]) ++ p.us.data.toList) ++ [58]) ++ p.pw.data.toList) ++ [64]) W5) := h5
        clear k0 k1 k2 k3 k4 k5 k6 k7 k8 k9 k10 k11 k12
        obtain ⟨k0, k1, k2, k3, k4, k5, k6, k7, k8, k9, k10, k11, k12⟩ := h5.cells
        clear h5 H4
        go_wp2_with fail
        refine (H5.out.ws (mk (putT p.hk p.hn p.ha)) (by omega)).mono ?_
        rintro e W6 ⟨rfl, h6⟩
        have H6 : Hid (Wr w p v (0 + (p.us).size + 1 + (p.pw).size + 1 + ((mk (putT p.hk p.hn p.ha))).size) (((((([]) ++ p.us.data.toList) ++ [58]) ++ p.pw.data.toList) ++ [64]) ++ putT p.hk p.hn p.ha) W6) := h6
        clear k0 k1 k2 k3 k4 k5 k6 k7 k8 k9 k10 k11 k12
        obtain ⟨k0, k1, k2, k3, k4, k5, k6, k7, k8, k9, k10, k11, k12⟩ := h6.cells
        clear h6 H5
        go_wp2_with fail
        refine (H6.out.wb 58 _ rfl (by omega)).mono ?_
        rintro e W7 ⟨rfl, h7⟩
        have H7 : Hid (Wr w p v (0 + (p.us).size + 1 + (p.pw).size + 1 + ((mk (putT p.hk p.hn p.ha))).size + 1) ((((((([]) ++ p.us.data.toList) ++ [58]) ++ p.pw.data.toList) ++ [64]) ++ putT p.hk p.hn p.ha) ++ [58]) W7) := h7
        clear k0 k1 k2 k3 k4 k5 k6 k7 k8 k9 k10 k11 k12
        obtain ⟨k0, k1, k2, k3, k4, k5, k6, k7, k8, k9, k10, k11, k12⟩ := h7.cells
        clear h7 H6
        go_wp2_with fail
        refine (CIH.out _ H7.out.bw).mono ?_
        rintro e W8 ⟨rfl, d8⟩
        have h8 := H7.out.later d8
        clear d8
        have H8 : Hid (Wr w p v (0 + (p.us).size + 1 + (p.pw).size + 1 + ((mk (putT p.hk p.hn p.ha))).size + 1) ((((((([]) ++ p.us.data.toList) ++ [58]) ++ p.pw.data.toList) ++ [64]) ++ putT p.hk p.hn p.ha) ++ [58]) W8) := h8
        clear k0 k1 k2 k3 k4 k5 k6 k7 k8 k9 k10 k11 k12
        obtain ⟨k0, k1, k2, k3, k4, k5, k6, k7, k8, k9, k10, k11, k12⟩ := h8.cells
        clear h8 H7
        go_wp2_with fail
        refine (H8.out.ws (mk (dg p.po)) (by omega)).mono ?_
        rintro e W9 ⟨rfl, h9⟩
        have H9 : Hid (Wr w p v (0 + (p.us).size + 1 + (p.pw).size + 1 + ((mk (putT p.hk p.hn p.ha))).size + 1 + ((mk (dg p.po))).size) (((((((([]) ++ p.us.data.toList) ++ [58]) ++ p.pw.data.toList) ++ [64]) ++ putT p.hk p.hn p.ha) ++ [58]) ++ dg p.po) W9) := h9
        clear k0 k1 k2 k3 k4 k5 k6 k7 k8 k9 k10 k11 k12
        obtain ⟨k0, k1, k2, k3, k4, k5, k6, k7, k8, k9, k10, k11, k12⟩ := h9.cells
        clear h9 H8
        go_wp2_with fail
        refine H9.out.str.mono ?_
        rintro e W10 ⟨rfl, b⟩
        go_wp2
        go_ret
        refine ⟨?_, b⟩
        rw [HT.out, HW.out, HA.out, HP.out]
        simp [mk]
      · have HP : Hid (porL p = []) := by show _ = _; unfold porL; rw [if_neg (by omega)]
        clear CI HDG
        have HW : Hid (pwL p = 58 :: p.pw.data.toList) := by show _ = _; unfold pwL; rw [if_neg hpw]
        have HA : Hid (atL' p = [64]) := by show _ = _; unfold atL'; rw [if_neg (fun h => hpw h.2)]
        obtain ⟨hw1, hw2⟩ := text_full _ hpw
        clear hpw
        obtain ⟨hu1', hu2'⟩ := text_full _ hus
        clear hus
        go_enter Tryz.func33, Tryz.ntmps33
        go_wp2_with fail
        refine (H0.out.ws p.us (by omega)).mono ?_
        rintro e W1 ⟨rfl, h1⟩
        have H1 : Hid (Wr w p v (0 + (p.us).size) (([]) ++ p.us.data.toList) W1) := h1
        clear k0 k1 k2 k3 k4 k5 k6 k7 k8 k9 k10 k11 k12
        obtain ⟨k0, k1, k2, k3, k4, k5, k6, k7, k8, k9, k10, k11, k12⟩ := h1.cells
        clear h1 H0
        go_wp2_with fail
        refine (H1.out.wb 58 _ rfl (by omega)).mono ?_
        rintro e W2 ⟨rfl, h2⟩
        have H2 : Hid (Wr w p v (0 + (p.us).size + 1) ((([]) ++ p.us.data.toList) ++ [58]) W2) := h2
        clear k0 k1 k2 k3 k4 k5 k6 k7 k8 k9 k10 k11 k12
        obtain ⟨k0, k1, k2, k3, k4, k5, k6, k7, k8, k9, k10, k11, k12⟩ := h2.cells
        clear h2 H1
        go_wp2_with fail
        refine (H2.out.ws p.pw (by omega)).mono ?_
        rintro e W3 ⟨rfl, h3⟩
        have H3 : Hid (Wr w p v (0 + (p.us).size + 1 + (p.pw).size) (((([]) ++ p.us.data.toList) ++ [58]) ++ p.pw.data.toList) W3) := h3
        clear k0 k1 k2 k3 k4 k5 k6 k7 k8 k9 k10 k11 k12
        obtain ⟨k0, k1, k2, k3, k4, k5, k6, k7, k8, k9, k10, k11, k12⟩ := h3.cells
        clear h3 H2
        go_wp2_with fail
        refine (H3.out.wb 64 _ rfl (by omega)).mono ?_
        rintro e W4 ⟨rfl, h4⟩
        have H4 : Hid (Wr w p v (0 + (p.us).size + 1 + (p.pw).size + 1) ((((([]) ++ p.us.data.toList) ++ [58]) ++ p.pw.data.toList) ++ [64]) W4) := h4
        clear k0 k1 k2 k3 k4 k5 k6 k7 k8 k9 k10 k11 k12
        obtain ⟨k0, k1, k2, k3, k4, k5, k6, k7, k8, k9, k10, k11, k12⟩ := h4.cells
        clear h4 H3
        go_wp2_with fail
        refine (CH.out _ H4.out.bw).mono ?_
        rintro e W5 ⟨rfl, d5⟩
        have h5 := H4.out.later d5
        clear d5
        have H5 : Hid (Wr w p v (0 + (p.us).size + 1 + (p.pw).size + 1) ((((([]) ++ p.us.data.toList) ++ [58]) ++ p.pw.data.toList) ++ [64]) W5) := h5
        clear k0 k1 k2 k3 k4 k5 k6 k7 k8 k9 k10 k11 k12
        obtain ⟨k0, k1, k2, k3, k4, k5, k6, k7, k8, k9, k10, k11, k12⟩ := h5.cells
        clear h5 H4
        go_wp2_with fail
        refine (H5.out.ws (mk (putT p.hk p.hn p.ha)) (by omega)).mono ?_
        rintro e W6 ⟨rfl, h6⟩
        have H6 : Hid (Wr w p v (0 + (p.us).size + 1 + (p.pw).size + 1 + ((mk (putT p.hk p.hn p.ha))).size) (((((([]) ++ p.us.data.toList) ++ [58]) ++ p.pw.data.toList) ++ [64]) ++ putT p.hk p.hn p.ha) W6) := h6
        clear k0 k1 k2 k3 k4 k5 k6 k7 k8 k9 k10 k11 k12
        obtain ⟨k0, k1, k2, k3, k4, k5, k6, k7, k8, k9, k10, k11, k12⟩ := h6.cells
        clear h6 H5
        go_wp2_with fail
        refine H6.out.str.mono ?_
        rintro e W7 ⟨rfl, b⟩
        go_wp2
        go_ret
        refine ⟨?_, b⟩
        rw [HT.out, HW.out, HA.out, HP.out]
        simp [mk]
end Go.Proofs.YthjccpboecfdhabGreatDoor
end

section
set_option linter.unusedVariables false
set_option linter.unusedSimpArgs false
namespace Go.Proofs.YthjccpboecfdhabGreatDoor
open Go.RowKit Go.Shelf

theorem autL_len (p : P) (hpo : p.po ≤ 9223372036854775807) : (autL p).length ≤ p.us.size + p.pw.size + 100 := by
  have h1 := text_len p.us
  have h2 := text_len p.pw
  have h3 := putT_len p.hk p.hn p.ha
  have h4 : (pwL p).length ≤ p.pw.size + 1 := by unfold pwL; split <;> simp <;> omega
  have h5 : (atL' p).length ≤ 1 := by unfold atL'; split <;> simp
  have h6 : (porL p).length ≤ 21 := by
    unfold porL; split
    · rename_i h; have := dg_len20 p.po h hpo; simp; omega
    · simp
  unfold autL
  simp only [List.length_append]
  omega
theorem writL_len (p : P) (hpo : p.po ≤ 9223372036854775807) : (writL p).length ≤ p.tot + 200 := by
  have h1 := autL_len p hpo
  have h2 := tailL_len p
  have h3 := text_len p.sc
  have h4 := text_len p.op
  have h5 := putL_len p.ps
  unfold writL mainL
  simp only [List.length_append, List.length_cons, List.length_nil]
  unfold P.tot
  split
  · simp only [List.length_append, List.length_cons, List.length_nil]; omega
  · omega
set_option maxHeartbeats 4000000 in
set_option maxRecDepth 100000 in
theorem urlWrite (p : P) (a : Option Addr) (c : Nat) (w : World) (hL : Lean0 w) (hS : StrsOf a p.ps.length p.ps w) (hs : p.tot ≤ 1048576) (hpo : p.po ≤ 9223372036854775807) :
    Calls Tryz.prog 15 #[.agg (p.cells (.slice a p.ps.length c))] w fun e w' => e = .returned (.string (mk (writL p))) ∧ Below w.heap.size w w' := by
  have HT : Hid (writL p = p.sc.data.toList ++ ([58] ++ (mainL p ++ tailL p))) := rfl
  have hq1 : p.qu.size ≤ 1048576 := by unfold P.tot at hs; omega
  have hf1 : p.fr.size ≤ 1048576 := by unfold P.tot at hs; omega
  have hp1 : p.pw.size ≤ 1048576 := by unfold P.tot at hs; omega
  have hu1 : p.us.size ≤ 1048576 := by unfold P.tot at hs; omega
  have hs1 : p.sc.size ≤ 1048576 := by unfold P.tot at hs; omega
  have ho1 : p.op.size ≤ 1048576 := by unfold P.tot at hs; omega
  have hn1 : p.hn.size ≤ 1048576 := by unfold P.tot at hs; omega
  have hps : p.ps.length + Go.Proofs.YthjccpboecfdhabGreatDoor.tot p.ps ≤ 1048576 := by unfold P.tot at hs; omega
  have hat : (mk (autL p)).size ≤ 3000000 := by rw [mk_size]; have := autL_len p hpo; omega
  have htl : (mk (tailL p)).size ≤ 3000000 := by rw [mk_size]; have := tailL_len p; omega
  have hpl : (mk (putL p.ps)).size ≤ 3000000 := by rw [mk_size, putL_len]; omega
  obtain ⟨v, hv⟩ : ∃ v, v = Value.slice a p.ps.length c := ⟨_, rfl⟩
  have CT : Hid (∀ W, Calls Tryz.prog 35 #[.agg #[.string p.sc, .string p.us, .string p.pw, .int .i64 p.hk, .string p.hn, .int .i64 p.ha, .int .i64 p.po, v, .string p.op, .bool p.hq, .string p.qu, .bool p.hf, .string p.fr]] W fun e w' => e = .returned (.string (mk (tailL p))) ∧ Below W.heap.size W w') := fun W => tailWrite p v W hs
  have CA : Hid (∀ W, Below w.heap.size w W → Calls Tryz.prog 33 #[.agg #[.string p.sc, .string p.us, .string p.pw, .int .i64 p.hk, .string p.hn, .int .i64 p.ha, .int .i64 p.po, v, .string p.op, .bool p.hq, .string p.qu, .bool p.hf, .string p.fr]] W fun e w' => e = .returned (.string (mk (autL p))) ∧ Below W.heap.size W w') := fun W b => authorityWrite p v W (hL.below b) hs hpo
  have CP : Hid (∀ W, Below w.heap.size w W → Calls Tryz.prog 34 #[v] W fun e w' => e = .returned (.string (mk (putL p.ps))) ∧ Below W.heap.size W w') := fun W b => by rw [hv]; exact implPathPut a _ c p.ps W (hS.later b) (by omega)
  have CH : Hid (∀ W, Calls Tryz.prog 32 #[.agg #[.string p.sc, .string p.us, .string p.pw, .int .i64 p.hk, .string p.hn, .int .i64 p.ha, .int .i64 p.po, v, .string p.op, .bool p.hq, .string p.qu, .bool p.hf, .string p.fr]] W fun e w' => e = .returned (.bool (decide (0 ≤ ownZ p.sc))) ∧ Below W.heap.size W w') := fun W => hasHost (p.u v) W
  rw [← hv]
  have H0 : Hid (Wr w p v 0 [] ((w.alloc (.cells (p.cells v) 27)).alloc (.cells #[.pointer none, .slice none 0 0] 61))) := Wr.start w p v
  obtain ⟨k0, k1, k2, k3, k4, k5, k6, k7, k8, k9, k10, k11, k12⟩ := H0.out.cells
  unfold P.cells at H0 ⊢
  clear hs hL hpo hv hS
  by_cases ho : 0 ≤ ownZ p.sc
  · have HMN : Hid (mainL p = [47, 47] ++ (autL p ++ putL p.ps)) := by show _ = _; unfold mainL; rw [if_pos ho]
    rw [decide_eq_true ho] at CH
    clear ho
    go_enter Tryz.func15, Tryz.ntmps15
    go_wp2_with fail
    refine (H0.out.ws p.sc (by omega)).mono ?_
    rintro e W1 ⟨rfl, h1⟩
    have H1 : Hid (Wr w p v (0 + (p.sc).size) (([]) ++ p.sc.data.toList) W1) := h1
    clear k0 k1 k2 k3 k4 k5 k6 k7 k8 k9 k10 k11 k12
    obtain ⟨k0, k1, k2, k3, k4, k5, k6, k7, k8, k9, k10, k11, k12⟩ := h1.cells
    clear h1 H0
    go_wp2_with fail
    refine (H1.out.wb 58 _ rfl (by omega)).mono ?_
    rintro e W2 ⟨rfl, h2⟩
    have H2 : Hid (Wr w p v (0 + (p.sc).size + 1) ((([]) ++ p.sc.data.toList) ++ [58]) W2) := h2
    clear k0 k1 k2 k3 k4 k5 k6 k7 k8 k9 k10 k11 k12
    obtain ⟨k0, k1, k2, k3, k4, k5, k6, k7, k8, k9, k10, k11, k12⟩ := h2.cells
    clear h2 H1
    go_wp2_with fail
    refine (CH.out _).mono ?_
    rintro e W3 ⟨rfl, d3⟩
    have h3 := H2.out.later d3
    clear d3
    have H3 : Hid (Wr w p v (0 + (p.sc).size + 1) ((([]) ++ p.sc.data.toList) ++ [58]) W3) := h3
    clear k0 k1 k2 k3 k4 k5 k6 k7 k8 k9 k10 k11 k12
    obtain ⟨k0, k1, k2, k3, k4, k5, k6, k7, k8, k9, k10, k11, k12⟩ := h3.cells
    clear h3 H2
    go_wp2_with fail
    refine (H3.out.ws (ByteArray.mk #[47, 47]) (by show _ + 2 ≤ _; omega)).mono ?_
    rintro e W4 ⟨rfl, h4⟩
    have H4 : Hid (Wr w p v (0 + (p.sc).size + 1 + 2) (((([]) ++ p.sc.data.toList) ++ [58]) ++ [47, 47]) W4) := h4
    clear k0 k1 k2 k3 k4 k5 k6 k7 k8 k9 k10 k11 k12
    obtain ⟨k0, k1, k2, k3, k4, k5, k6, k7, k8, k9, k10, k11, k12⟩ := h4.cells
    clear h4 H3
    go_wp2_with fail
    refine (CA.out _ H4.out.bw).mono ?_
    rintro e W5 ⟨rfl, d5⟩
    have h5 := H4.out.later d5
    clear d5
    have H5 : Hid (Wr w p v (0 + (p.sc).size + 1 + 2) (((([]) ++ p.sc.data.toList) ++ [58]) ++ [47, 47]) W5) := h5
    clear k0 k1 k2 k3 k4 k5 k6 k7 k8 k9 k10 k11 k12
    obtain ⟨k0, k1, k2, k3, k4, k5, k6, k7, k8, k9, k10, k11, k12⟩ := h5.cells
    clear h5 H4
    go_wp2_with fail
    refine (H5.out.ws (mk (autL p)) (by omega)).mono ?_
    rintro e W6 ⟨rfl, h6⟩
    have H6 : Hid (Wr w p v (0 + (p.sc).size + 1 + 2 + ((mk (autL p))).size) ((((([]) ++ p.sc.data.toList) ++ [58]) ++ [47, 47]) ++ autL p) W6) := h6
    clear k0 k1 k2 k3 k4 k5 k6 k7 k8 k9 k10 k11 k12
    obtain ⟨k0, k1, k2, k3, k4, k5, k6, k7, k8, k9, k10, k11, k12⟩ := h6.cells
    clear h6 H5
    go_wp2_with fail
    refine (CP.out _ H6.out.bw).mono ?_
    rintro e W7 ⟨rfl, d7⟩
    have h7 := H6.out.later d7
    clear d7
    have H7 : Hid (Wr w p v (0 + (p.sc).size + 1 + 2 + ((mk (autL p))).size) ((((([]) ++ p.sc.data.toList) ++ [58]) ++ [47, 47]) ++ autL p) W7) := h7
    clear k0 k1 k2 k3 k4 k5 k6 k7 k8 k9 k10 k11 k12
    obtain ⟨k0, k1, k2, k3, k4, k5, k6, k7, k8, k9, k10, k11, k12⟩ := h7.cells
    clear h7 H6
    go_wp2_with fail
    refine (H7.out.ws (mk (putL p.ps)) (by omega)).mono ?_
    rintro e W8 ⟨rfl, h8⟩
    have H8 : Hid (Wr w p v (0 + (p.sc).size + 1 + 2 + ((mk (autL p))).size + ((mk (putL p.ps))).size) (((((([]) ++ p.sc.data.toList) ++ [58]) ++ [47, 47]) ++ autL p) ++ putL p.ps) W8) := h8
    clear k0 k1 k2 k3 k4 k5 k6 k7 k8 k9 k10 k11 k12
    obtain ⟨k0, k1, k2, k3, k4, k5, k6, k7, k8, k9, k10, k11, k12⟩ := h8.cells
    clear h8 H7
    go_wp2_with fail
    refine (CT.out _).mono ?_
    rintro e W9 ⟨rfl, d9⟩
    have h9 := H8.out.later d9
    clear d9
    have H9 : Hid (Wr w p v (0 + (p.sc).size + 1 + 2 + ((mk (autL p))).size + ((mk (putL p.ps))).size) (((((([]) ++ p.sc.data.toList) ++ [58]) ++ [47, 47]) ++ autL p) ++ putL p.ps) W9) := h9
    clear k0 k1 k2 k3 k4 k5 k6 k7 k8 k9 k10 k11 k12
    obtain ⟨k0, k1, k2, k3, k4, k5, k6, k7, k8, k9, k10, k11, k12⟩ := h9.cells
    clear h9 H8
    go_wp2_with fail
    refine (H9.out.ws (mk (tailL p)) (by omega)).mono ?_
    rintro e W10 ⟨rfl, h10⟩
    have H10 : Hid (Wr w p v (0 + (p.sc).size + 1 + 2 + ((mk (autL p))).size + ((mk (putL p.ps))).size + ((mk (tailL p))).size) ((((((([]) ++ p.sc.data.toList) ++ [58]) ++ [47, 47]) ++ autL p) ++ putL p.ps) ++ tailL p) W10) := h10
    clear k0 k1 k2 k3 k4 k5 k6 k7 k8 k9 k10 k11 k12
    obtain ⟨k0, k1, k2, k3, k4, k5, k6, k7, k8, k9, k10, k11, k12⟩ := h10.cells
    clear h10 H9
    go_wp2_with fail
    refine H10.out.str.mono ?_
    rintro e W11 ⟨rfl, b⟩
    go_wp2
    go_ret
    refine ⟨?_, b⟩
    rw [HT.out, HMN.out]
    simp
  · have HMN : Hid (mainL p = p.op.data.toList) := by show _ = _; unfold mainL; rw [if_neg ho]
    rw [decide_eq_false ho] at CH
    clear ho
    go_enter Tryz.func15, Tryz.ntmps15
    go_wp2_with fail
    refine (H0.out.ws p.sc (by omega)).mono ?_
    rintro e W1 ⟨rfl, h1⟩
    have H1 : Hid (Wr w p v (0 + (p.sc).size) (([]) ++ p.sc.data.toList) W1) := h1
    clear k0 k1 k2 k3 k4 k5 k6 k7 k8 k9 k10 k11 k12
    obtain ⟨k0, k1, k2, k3, k4, k5, k6, k7, k8, k9, k10, k11, k12⟩ := h1.cells
    clear h1 H0
    go_wp2_with fail
    refine (H1.out.wb 58 _ rfl (by omega)).mono ?_
    rintro e W2 ⟨rfl, h2⟩
    have H2 : Hid (Wr w p v (0 + (p.sc).size + 1) ((([]) ++ p.sc.data.toList) ++ [58]) W2) := h2
    clear k0 k1 k2 k3 k4 k5 k6 k7 k8 k9 k10 k11 k12
    obtain ⟨k0, k1, k2, k3, k4, k5, k6, k7, k8, k9, k10, k11, k12⟩ := h2.cells
    clear h2 H1
    go_wp2_with fail
    refine (CH.out _).mono ?_
    rintro e W3 ⟨rfl, d3⟩
    have h3 := H2.out.later d3
    clear d3
    have H3 : Hid (Wr w p v (0 + (p.sc).size + 1) ((([]) ++ p.sc.data.toList) ++ [58]) W3) := h3
    clear k0 k1 k2 k3 k4 k5 k6 k7 k8 k9 k10 k11 k12
    obtain ⟨k0, k1, k2, k3, k4, k5, k6, k7, k8, k9, k10, k11, k12⟩ := h3.cells
    clear h3 H2
    go_wp2_with fail
    refine (H3.out.ws p.op (by omega)).mono ?_
    rintro e W4 ⟨rfl, h4⟩
    have H4 : Hid (Wr w p v (0 + (p.sc).size + 1 + (p.op).size) (((([]) ++ p.sc.data.toList) ++ [58]) ++ p.op.data.toList) W4) := h4
    clear k0 k1 k2 k3 k4 k5 k6 k7 k8 k9 k10 k11 k12
    obtain ⟨k0, k1, k2, k3, k4, k5, k6, k7, k8, k9, k10, k11, k12⟩ := h4.cells
    clear h4 H3
    go_wp2_with fail
    refine (CT.out _).mono ?_
    rintro e W5 ⟨rfl, d5⟩
    have h5 := H4.out.later d5
    clear d5
    have H5 : Hid (Wr w p v (0 + (p.sc).size + 1 + (p.op).size) (((([]) ++ p.sc.data.toList) ++ [58]) ++ p.op.data.toList) W5) := h5
    clear k0 k1 k2 k3 k4 k5 k6 k7 k8 k9 k10 k11 k12
    obtain ⟨k0, k1, k2, k3, k4, k5, k6, k7, k8, k9, k10, k11, k12⟩ := h5.cells
    clear h5 H4
    go_wp2_with fail
    refine (H5.out.ws (mk (tailL p)) (by omega)).mono ?_
    rintro e W6 ⟨rfl, h6⟩
    have H6 : Hid (Wr w p v (0 + (p.sc).size + 1 + (p.op).size + ((mk (tailL p))).size) ((((([]) ++ p.sc.data.toList) ++ [58]) ++ p.op.data.toList) ++ tailL p) W6) := h6
    clear k0 k1 k2 k3 k4 k5 k6 k7 k8 k9 k10 k11 k12
    obtain ⟨k0, k1, k2, k3, k4, k5, k6, k7, k8, k9, k10, k11, k12⟩ := h6.cells
    clear h6 H5
    go_wp2_with fail
    refine H6.out.str.mono ?_
    rintro e W7 ⟨rfl, b⟩
    go_wp2
    go_ret
    refine ⟨?_, b⟩
    rw [HT.out, HMN.out]
    simp
end Go.Proofs.YthjccpboecfdhabGreatDoor
end

section
set_option linter.unusedVariables false
namespace Go.Proofs.YthjccpboecfdhabGreatDoor
open Go.RowKit

theorem hexV_fig (n : Nat) (h : n < 16) : hexV (fig n) = (n : Int) := by
  match n, h with
  | 0, _ => decide
  | 1, _ => decide
  | 2, _ => decide
  | 3, _ => decide
  | 4, _ => decide
  | 5, _ => decide
  | 6, _ => decide
  | 7, _ => decide
  | 8, _ => decide
  | 9, _ => decide
  | 10, _ => decide
  | 11, _ => decide
  | 12, _ => decide
  | 13, _ => decide
  | 14, _ => decide
  | 15, _ => decide
  | n + 16, h => exact absurd h (by omega)

theorem hexB_fig (c : UInt8) : hexB (fig (c.toNat / 16)) (fig (c.toNat % 16)) = c := by
  have hc := c.toNat_lt
  have h1 : c.toNat / 16 < 16 := by omega
  have h2 : c.toNat % 16 < 16 := by omega
  have e1 := hexV_fig _ h1
  have e2 := hexV_fig _ h2
  have := hexB_val (fig (c.toNat / 16)) (fig (c.toNat % 16)) (by omega) (by omega)
  rw [e1, e2] at this
  exact UInt8.toNat_inj.1 (by omega)

theorem esc_fig (c : UInt8) : esc 37 (fig (c.toNat / 16)) (fig (c.toNat % 16)) = true := by
  have hc := c.toNat_lt
  exact esc_yes _ _ _ rfl (by rw [hexV_fig _ (by omega)]; omega) (by rw [hexV_fig _ (by omega)]; omega)

/-- The list begins with two figures. -/
def two : List UInt8 → Bool
  | a :: b :: _ => decide (0 ≤ hexV a) && decide (0 ≤ hexV b)
  | _ => false

theorem dec_two (m : List UInt8) (h : two m = false) : dec (37 :: m) = 37 :: dec m := by
  match m, h with
  | [], _ => simp [dec]
  | [a], _ => simp [dec]
  | a :: b :: r, h =>
    refine dec_three 37 a b r ?_
    simp only [two] at h
    unfold esc
    simpa using h
theorem dec_ne (c : UInt8) (m : List UInt8) (h : c ≠ 37) : dec (c :: m) = c :: dec m := by
  match m with
  | [] => simp [dec]
  | [a] => simp [dec]
  | a :: b :: r => exact dec_three c a b r (esc_no0 c a b h)

theorem enc_cons (P : UInt8 → Bool) (c : UInt8) (l : List UInt8) : enc P (c :: l) = encB P c ++ enc P l := by simp [enc]
end Go.Proofs.YthjccpboecfdhabGreatDoor
end

section
set_option linter.unusedVariables false
namespace Go.Proofs.YthjccpboecfdhabGreatDoor
open Go.RowKit

theorem two_enc (P : UInt8 → Bool) (h37 : P 37 = false) (hhex : ∀ a, 0 ≤ hexV a → P a = false) (r : List UInt8) : two (enc P r) = two r := by
  have n37 : hexV 37 = -1 := by decide
  match r with
  | [] => rfl
  | a :: r1 =>
    rw [enc_cons P]
    cases ha : P a with
    | true =>
      have hneg : ¬ 0 ≤ hexV a := fun h => by rw [hhex a h] at ha; cases ha
      rw [encB_yes P a ha]
      match r1 with
      | [] => simp [two, n37]
      | b :: r2 => simp [two, n37, hneg]
    | false =>
      rw [encB_no P a ha]
      match r1 with
      | [] => simp [two, enc]
      | b :: r2 =>
        rw [enc_cons P]
        cases hb : P b with
        | true =>
          have hneg : ¬ 0 ≤ hexV b := fun h => by rw [hhex b h] at hb; cases hb
          rw [encB_yes P b hb]
          simp [two, n37, hneg]
        | false =>
          rw [encB_no P b hb]
          simp [two]

theorem dec_enc_n (P : UInt8 → Bool) (h37 : P 37 = false) (hhex : ∀ a, 0 ≤ hexV a → P a = false) : ∀ (n : Nat) (l : List UInt8), l.length ≤ n → dec (enc P l) = dec l
  | _, [], _ => rfl
  | 0, c :: r, h => by simp at h
  | n + 1, c :: r, h => by
    simp only [List.length_cons] at h
    have ih := dec_enc_n P h37 hhex n r (by omega)
    rw [enc_cons P]
    cases hc : P c with
    | true =>
      have hne : c ≠ 37 := fun e => by rw [e, h37] at hc; cases hc
      rw [encB_yes P c hc]
      show dec (37 :: fig (c.toNat / 16) :: fig (c.toNat % 16) :: enc P r) = _
      rw [dec_esc _ _ _ _ (esc_fig c), hexB_fig, ih, dec_ne c r hne]
    | false =>
      rw [encB_no P c hc]
      show dec (c :: enc P r) = _
      by_cases hne : c = 37
      · subst hne
        cases ht : two r with
        | false => rw [dec_two _ (by rw [two_enc P h37 hhex]; exact ht), dec_two r ht, ih]
        | true =>
          match r, ht with
          | a :: b :: r', ht =>
            simp only [two, Bool.and_eq_true, decide_eq_true_eq] at ht
            rw [enc_cons P, encB_no P a (hhex a ht.1), enc_cons P, encB_no P b (hhex b ht.2)]
            show dec (37 :: a :: b :: enc P r') = _
            rw [dec_esc _ _ _ _ (esc_yes 37 a b rfl ht.1 ht.2), dec_esc _ _ _ _ (esc_yes 37 a b rfl ht.1 ht.2)]
            rw [dec_enc_n P h37 hhex n r' (by simp only [List.length_cons] at h; omega)]
      · rw [dec_ne c _ hne, dec_ne c r hne, ih]
theorem dec_enc (P : UInt8 → Bool) (h37 : P 37 = false) (hhex : ∀ a, 0 ≤ hexV a → P a = false) (l : List UInt8) : dec (enc P l) = dec l := dec_enc_n P h37 hhex l.length l (Nat.le_refl _)

theorem encB_out (P : UInt8 → Bool) (h37 : P 37 = false) (hhex : ∀ a, 0 ≤ hexV a → P a = false) (c d : UInt8) (h : d ∈ encB P c) : P d = false := by
  cases hc : P c with
  | true =>
    rw [encB_yes P c hc] at h
    have hcl := c.toNat_lt
    simp only [List.mem_cons, List.not_mem_nil, or_false] at h
    rcases h with rfl | rfl | rfl
    · exact h37
    · exact hhex _ (by rw [hexV_fig _ (by omega)]; omega)
    · exact hhex _ (by rw [hexV_fig _ (by omega)]; omega)
  | false =>
    rw [encB_no P c hc] at h
    simp only [List.mem_cons, List.not_mem_nil, or_false] at h
    rw [h]; exact hc
theorem enc_out (P : UInt8 → Bool) (h37 : P 37 = false) (hhex : ∀ a, 0 ≤ hexV a → P a = false) (l : List UInt8) (d : UInt8) (h : d ∈ enc P l) : P d = false := by
  unfold enc at h
  rw [List.mem_flatMap] at h
  obtain ⟨c, _, hd⟩ := h
  exact encB_out P h37 hhex c d hd
theorem enc_same (P : UInt8 → Bool) (l : List UInt8) (h : ∀ d ∈ l, P d = false) : enc P l = l := by
  induction l with
  | nil => rfl
  | cons c r ih =>
    have e : enc P (c :: r) = encB P c ++ enc P r := by simp [enc]
    rw [e, encB_no P c (h c (by simp)), ih (fun d hd => h d (by simp [hd]))]; rfl
theorem enc_enc (P : UInt8 → Bool) (h37 : P 37 = false) (hhex : ∀ a, 0 ≤ hexV a → P a = false) (l : List UInt8) : enc P (enc P l) = enc P l := enc_same P _ (enc_out P h37 hhex l)
theorem enc_ge (P : UInt8 → Bool) (l : List UInt8) : l.length ≤ (enc P l).length := by
  induction l with
  | nil => simp
  | cons c r ih =>
    have e : enc P (c :: r) = encB P c ++ enc P r := by simp [enc]
    have : 1 ≤ (encB P c).length := by unfold encB; split <;> simp
    rw [e, List.length_append, List.length_cons]; omega

theorem set_hex (set : Int) (a : UInt8) (h : a ∈ setB set) : hexV a < 0 := by
  unfold setB at h
  (repeat' split at h) <;> simp only [List.mem_cons, List.not_mem_nil, or_false] at h
  · rcases h with rfl | rfl | rfl | rfl | rfl | rfl | rfl | rfl | rfl <;> decide
  · rcases h with rfl | rfl | rfl | rfl | rfl | rfl <;> decide
  · rcases h with rfl | rfl | rfl | rfl | rfl <;> decide
  · rcases h with rfl | rfl | rfl | rfl | rfl | rfl | rfl | rfl | rfl | rfl | rfl | rfl | rfl | rfl | rfl | rfl | rfl | rfl | rfl <;> decide
  · subst h; decide

theorem isIn_hex (set : Int) (a : UInt8) (h : 0 ≤ hexV a) : isIn set a = false := by
  have hr : 48 ≤ a.toNat ∧ a.toNat ≤ 102 := by
    unfold hexV at h
    (repeat' split at h) <;> omega
  rw [isIn_mid set a (by omega) (by omega)]
  unfold hasB
  rw [Bool.eq_false_iff]
  intro hc
  rw [List.contains_iff_mem] at hc
  have := set_hex set a hc
  omega
theorem isIn_sign (set : Int) : isIn set 37 = false := by
  rw [isIn_mid set 37 (by decide) (by decide)]
  unfold setB
  (repeat' split) <;> decide
theorem isIn_seen (set : Int) (c : UInt8) (h : isIn set c = false) : 32 ≤ c.toNat ∧ c.toNat ≤ 126 := by
  constructor
  · rcases Nat.lt_or_ge c.toNat 32 with h' | h'
    · rw [isIn_low set c (by omega)] at h; cases h
    · exact h'
  · rcases Nat.lt_or_ge 126 c.toNat with h' | h'
    · rw [isIn_high set c (by omega)] at h; cases h
    · exact h'
end Go.Proofs.YthjccpboecfdhabGreatDoor
end

/- szStringS: how many bytes a list of texts has. laws.szUrl: how many bytes an address has, as the laws count them. toStringS: a copy of a list of texts. laws.toHost, laws.szHost: a host as the laws hand it in. -/
import Derived.Test.YtnfhajhdpdidlaaGreatDoorB04
import Derived.Test.YtnfhajhdpdidlaaGreatDoorB12
import Derived.Test.YtnfhajhdpdidlaaGreatDoorB33
set_option linter.unusedVariables false
set_option linter.unusedSimpArgs false
set_option maxHeartbeats 4000000
set_option maxRecDepth 100000
section
namespace Go.Proofs.YtnfhajhdpdidlaaGreatDoor
open Go.RowKit Go.Shelf
theorem szStringS (a : Option Addr) (len cap : Nat) (ss : List (List UInt8)) (left : Int) (w : World) (h : StrsOf a len ss w) (hl : len ≤ maxLen) (hss : ∀ s ∈ ss, s.length ≤ maxLen) (h0 : 0 ≤ left) (h1 : left ≤ 1048576) :
  Calls Tryz.prog 33 #[.slice a len cap, .int .i64 left] w fun e w' => ∃ r : Int, e = .returned (.int .i64 r) ∧ w' = w ∧ (0 ≤ r → ((ss.length : Int) + (tot ss : Int)) ≤ left - r) ∧ r ≤ 1048576 := by
 unfold maxLen at hl hss
 have HLEN : Hid (len = ss.length) := h.1
 by_cases hn : left - (len : Int) < 0
 ·go_enter Tryz.func33, Tryz.ntmps33
  go_wp2
  go_ret
  exact ⟨-1, rfl, rfl, fun h => absurd h (by decide), by decide⟩
 ·go_enter Tryz.func33, Tryz.ntmps33
  go_wp2
  go_loop [1, 5] (fun l i => ∃ (k : Nat) (L : Int), k ≤ len ∧ i = .int .i64 k ∧ l = .int .i64 L ∧ 0 ≤ L ∧ Hid (L = left - (len : Int) - (tot (ss.take k) : Int)) ∧ L ≤ 1048576) (fun _ i => len - (intOf i).toNat)
  case atStart => exact ⟨0, left - (len : Int), Nat.zero_le _, rfl, rfl, by omega, by show _ = _; simp [tot], by omega⟩
  case round =>
   obtain ⟨k, L, hk, rfl, rfl, hL, HE, hL2⟩ := hrel
   by_cases hp : k < len
   ·have hki : (k : Int) < (len : Int) := by omega
    obtain ⟨b, off, z, rfl, hz, hzm, hzs⟩ := h.at k (by have := HLEN.out; omega)
    have hzb : z.size ≤ 9223372036854775807 := by rw [hzs]; exact hss _ (List.getElem_mem _)
    have HS : Hid (tot (ss.take (k + 1)) = tot (ss.take k) + z.size) := by rw [hzs]; exact tot_snoc ss k (by have := HLEN.out; omega)
    clear hzm hzs
    by_cases hc : L - (z.size : Int) < 0
    ·go_wp2
     go_ret
     exact ⟨-1, rfl, rfl, fun h => absurd h (by decide), by decide⟩
    ·go_wp2
     go_round
     case rel => exact ⟨k + 1, L - (z.size : Int), by omega, by go_num, rfl, by omega, by have h1 := HE.out; have h2 := HS.out; show _ = _; rw [h2, h1]; push_cast; omega, by omega⟩
     case measure => simp [intOf]; omega
   ·have hkk : k = len := by omega
    subst hkk
    go_wp2
    go_ret
    refine ⟨L, rfl, rfl, fun _ => ?_, hL2⟩
    have := HE.out
    have h3 := HLEN.out
    rw [List.take_of_length_le (by omega)] at this
    omega
end Go.Proofs.YtnfhajhdpdidlaaGreatDoor
end
section
namespace Go.Proofs.YtnfhajhdpdidlaaGreatDoor
open Go.RowKit Go.Shelf
theorem szHostU (k : Int) (s : ByteArray) (a L : Int) (w : World) (hs : s.size ≤ maxLen) (h0 : 0 ≤ L) (h1 : L ≤ 1048576) :
  Calls Tryz.prog 32 #[.agg #[.int .i64 k, .string s, .int .i64 a], .int .i64 L] w fun e w' => e = .returned (.int .i64 (if L < (s.size : Int) then -1 else L - (s.size : Int))) ∧ Below w.heap.size w w' := by
 have hmx : (s.size : Int) ≤ 9223372036854775807 := by unfold maxLen at hs; omega
 by_cases h : L < (s.size : Int)
 ·rw [if_pos h]
  have h2 : L - (s.size : Int) < 0 := by omega
  go_enter Tryz.func32, Tryz.ntmps32
  go_wp2
  go_ret
  exact ⟨rfl, (Below.refl _ w).alloc (Nat.le_refl _) _⟩
 ·rw [if_neg h]
  have h2 : ¬ (L - (s.size : Int) < 0) := by omega
  go_enter Tryz.func32, Tryz.ntmps32
  go_wp2
  go_ret
  exact ⟨rfl, (Below.refl _ w).alloc (Nat.le_refl _) _⟩
structure Sz (q : P) : Prop where
 make ::
 sc : q.sc.size ≤ maxLen
 us : q.us.size ≤ maxLen
 pw : q.pw.size ≤ maxLen
 hn : q.hn.size ≤ maxLen
 op : q.op.size ≤ maxLen
 qu : q.qu.size ≤ maxLen
 fr : q.fr.size ≤ maxLen
 pl : q.ps.length ≤ maxLen
 pa : ∀ s ∈ q.ps, s.length ≤ maxLen
structure La (w : World) (q : P) (v : Value) (W : World) : Prop where
 make ::
 bx : Blk w.heap.size (q.cells v) 26 W
 bw : Below w.heap.size w W
theorem La.start (w : World) (q : P) (v : Value) : La w q v (w.alloc (.cells (q.cells v) 26)) := ⟨Blk.new w _ _, (Below.refl _ w).alloc (Nat.le_refl _) _⟩
theorem La.later {w W W' : World} {q : P} {v : Value} (h : La w q v W) (b : Below W.heap.size W W') : La w q v W' := ⟨h.bx.below b h.bx.lt, h.bw.trans (b.mono h.bw.size)⟩
theorem La.cells {w W : World} {q : P} {v : Value} (h : La w q v W) :
  W.cell? ⟨w.heap.size, 0, none⟩ = some (.string q.sc) ∧ W.cell? ⟨w.heap.size, 1, none⟩ = some (.string q.us) ∧ W.cell? ⟨w.heap.size, 2, none⟩ = some (.string q.pw) ∧ W.cell? ⟨w.heap.size, 3, none⟩ = some (.int .i64 q.hk) ∧ W.cell? ⟨w.heap.size, 4, none⟩ = some (.string q.hn) ∧ W.cell? ⟨w.heap.size, 5, none⟩ = some (.int .i64 q.ha) ∧ W.cell? ⟨w.heap.size, 6, none⟩ = some (.int .i64 q.po) ∧ W.cell? ⟨w.heap.size, 7, none⟩ = some v ∧ W.cell? ⟨w.heap.size, 8, none⟩ = some (.string q.op) ∧ W.cell? ⟨w.heap.size, 9, none⟩ = some (.bool q.hq) ∧ W.cell? ⟨w.heap.size, 10, none⟩ = some (.string q.qu) ∧ W.cell? ⟨w.heap.size, 11, none⟩ = some (.bool q.hf) ∧ W.cell? ⟨w.heap.size, 12, none⟩ = some (.string q.fr) :=
 ⟨h.bx.cell 0, h.bx.cell 1, h.bx.cell 2, h.bx.cell 3, h.bx.cell 4, h.bx.cell 5, h.bx.cell 6, h.bx.cell 7, h.bx.cell 8, h.bx.cell 9, h.bx.cell 10, h.bx.cell 11, h.bx.cell 12⟩
theorem szUrl (q : P) (a : Option Addr) (n c : Nat) (L : Int) (w : World) (hS : StrsOf a n q.ps w) (hz : Sz q) (h0 : 0 ≤ L) (h1 : L ≤ 1048576) :
  Calls Tryz.prog 9 #[.agg (q.cells (.slice a n c)), .int .i64 L] w fun e w' => ∃ r : Int, e = .returned (.int .i64 r) ∧ Below w.heap.size w w' ∧ r ≤ 1048576 ∧ (0 ≤ r → (q.tot : Int) ≤ L - r) := by
 have HT : Hid (q.tot = q.sc.size + q.us.size + q.pw.size + q.hn.size + q.op.size + q.qu.size + q.fr.size + q.ps.length + tot q.ps) := rfl
 have H0 : Hid (La w q (.slice a n c) (w.alloc (.cells (q.cells (.slice a n c)) 26))) := La.start w q _
 have b0 : (q.sc.size : Int) ≤ 9223372036854775807 := by have := hz.sc; unfold maxLen at this; omega
 have b1 : (q.us.size : Int) ≤ 9223372036854775807 := by have := hz.us; unfold maxLen at this; omega
 have b2 : (q.pw.size : Int) ≤ 9223372036854775807 := by have := hz.pw; unfold maxLen at this; omega
 have b4 : (q.op.size : Int) ≤ 9223372036854775807 := by have := hz.op; unfold maxLen at this; omega
 have b5 : (q.qu.size : Int) ≤ 9223372036854775807 := by have := hz.qu; unfold maxLen at this; omega
 have b6 : (q.fr.size : Int) ≤ 9223372036854775807 := by have := hz.fr; unfold maxLen at this; omega
 have CH : Hid (∀ L W, 0 ≤ L → L ≤ 1048576 → Calls Tryz.prog 32 #[.agg #[.int .i64 q.hk, .string q.hn, .int .i64 q.ha], .int .i64 L] W fun e w' => e = .returned (.int .i64 (if L < (q.hn.size : Int) then -1 else L - (q.hn.size : Int))) ∧ Below W.heap.size W w') := fun L W h0 h1 => szHostU _ _ _ L W hz.hn h0 h1
 have CS : Hid (∀ L W, Below w.heap.size w W → 0 ≤ L → L ≤ 1048576 → Calls Tryz.prog 33 #[.slice a n c, .int .i64 L] W fun e w' => ∃ r : Int, e = .returned (.int .i64 r) ∧ w' = W ∧ (0 ≤ r → ((q.ps.length : Int) + (tot q.ps : Int)) ≤ L - r) ∧ r ≤ 1048576) := fun L W b h0 h1 => by
  have hn : n = q.ps.length := hS.1
  exact szStringS a n c q.ps L W (hS.later b) (by rw [hn]; exact hz.pl) hz.pa h0 h1
 clear hS hz
 unfold P.cells at H0 ⊢
 by_cases g0 : L - (q.sc.size : Int) < 0
 ·go_enter Tryz.func9, Tryz.ntmps9
  go_wp2
  go_ret
  exact ⟨-1, rfl, H0.out.bw, by decide, fun h => absurd h (by decide)⟩
 by_cases g1 : L - (q.sc.size : Int) - (q.us.size : Int) < 0
 ·go_enter Tryz.func9, Tryz.ntmps9
  go_wp2
  go_ret
  exact ⟨-1, rfl, H0.out.bw, by decide, fun h => absurd h (by decide)⟩
 by_cases g2 : L - (q.sc.size : Int) - (q.us.size : Int) - (q.pw.size : Int) < 0
 ·go_enter Tryz.func9, Tryz.ntmps9
  go_wp2
  go_ret
  exact ⟨-1, rfl, H0.out.bw, by decide, fun h => absurd h (by decide)⟩
 obtain ⟨M, hM⟩ : ∃ M : Int, M = L - (q.sc.size : Int) - (q.us.size : Int) - (q.pw.size : Int) := ⟨_, rfl⟩
 have CH2 : Hid (∀ W, Calls Tryz.prog 32 #[.agg #[.int .i64 q.hk, .string q.hn, .int .i64 q.ha], .int .i64 (L - (q.sc.size : Int) - (q.us.size : Int) - (q.pw.size : Int))] W fun e w' => e = .returned (.int .i64 (if L - (q.sc.size : Int) - (q.us.size : Int) - (q.pw.size : Int) < (q.hn.size : Int) then -1 else L - (q.sc.size : Int) - (q.us.size : Int) - (q.pw.size : Int) - (q.hn.size : Int))) ∧ Below W.heap.size W w') := fun W => CH.out _ W (by omega) (by omega)
 rw [← hM] at CH2
 have HM : Hid (M = L - (q.sc.size : Int) - (q.us.size : Int) - (q.pw.size : Int)) := hM
 have hM0 : 0 ≤ M := by omega
 have hM1 : M ≤ 1048576 := by omega
 by_cases g3 : M < (q.hn.size : Int)
 ·rw [if_pos g3] at CH2
  clear CH
  go_enter Tryz.func9, Tryz.ntmps9
  go_wp2_with fail
  rw [← hM]
  refine (CH2.out _).mono ?_
  rintro e W1 ⟨rfl, d1⟩
  have HX1 : Hid (La w q (.slice a n c) W1) := H0.out.later d1
  clear d1 H0 CH2 hM
  go_wp2
  go_ret
  exact ⟨-1, rfl, HX1.out.bw, by decide, fun h => absurd h (by decide)⟩
 ·rw [if_neg g3] at CH2
  obtain ⟨K, hK⟩ : ∃ K : Int, K = M - (q.hn.size : Int) := ⟨_, rfl⟩
  rw [← hK] at CH2
  have HK : Hid (K = M - (q.hn.size : Int)) := hK
  have hK0 : 0 ≤ K := by omega
  have hK1 : K ≤ 1048576 := by omega
  have hK2 : ¬ (K < 0) := by omega
  clear hK g3
  clear CH
  go_enter Tryz.func9, Tryz.ntmps9
  go_wp2_with fail
  rw [← hM]
  refine (CH2.out _).mono ?_
  rintro e W1 ⟨rfl, d1⟩
  have HX1 : Hid (La w q (.slice a n c) W1) := H0.out.later d1
  clear d1 H0 CH2 hM
  obtain ⟨k0, k1, k2, k3, k4, k5, k6, k7, k8, k9, k10, k11, k12⟩ := HX1.out.cells
  go_wp2_with fail
  refine (CS.out K _ HX1.out.bw hK0 hK1).mono ?_
  rintro e W2 ⟨r, rfl, hW2, hr, hr1⟩
  have HR : Hid (0 ≤ r → ((q.ps.length : Int) + (tot q.ps : Int)) ≤ K - r) := hr
  subst hW2
  clear hr CS
  by_cases g4 : r < 0
  ·go_wp2
   go_ret
   exact ⟨-1, rfl, HX1.out.bw, by decide, fun h => absurd h (by decide)⟩
  have hr0 : 0 ≤ r := by omega
  by_cases g5 : r - (q.op.size : Int) < 0
  ·go_wp2
   go_ret
   exact ⟨-1, rfl, HX1.out.bw, by decide, fun h => absurd h (by decide)⟩
  by_cases g6 : r - (q.op.size : Int) - (q.qu.size : Int) < 0
  ·go_wp2
   go_ret
   exact ⟨-1, rfl, HX1.out.bw, by decide, fun h => absurd h (by decide)⟩
  by_cases g7 : r - (q.op.size : Int) - (q.qu.size : Int) - (q.fr.size : Int) < 0
  ·go_wp2
   go_ret
   exact ⟨-1, rfl, HX1.out.bw, by decide, fun h => absurd h (by decide)⟩
  go_wp2
  go_ret
  refine ⟨_, rfl, HX1.out.bw, by omega, fun _ => ?_⟩
  have e1 := HM.out
  have e2 := HK.out
  have e3 := HR.out hr0
  have e4 := HT.out
  rw [e4]; push_cast; omega
end Go.Proofs.YtnfhajhdpdidlaaGreatDoor
end
section
namespace Go.Proofs.YtnfhajhdpdidlaaGreatDoor
open Go.RowKit Go.Shelf
def Part (g : Nat) (ss : List (List UInt8)) (k : Nat) (w : World) : Prop :=
 ∃ A : Array Value, w.heap[g]? = some (.cells A 9 (0, 0)) ∧ A.size = ss.length ∧ ∀ j (h : j < ss.length), j < k → A[j]? = some (.string (mk ss[j]))
theorem Part.strs {g : Nat} {ss : List (List UInt8)} {w : World} (h : Part g ss ss.length w) : StrsOf (some ⟨g, 0, none⟩) ss.length ss w := by
 obtain ⟨A, hg, _, hc⟩ := h
 refine ⟨rfl, .inr ⟨g, 0, rfl, fun j hj => ?_⟩⟩
 rw [Nat.zero_add, Lib.cell_of_heap hg]; exact hc j hj hj
theorem Part.cell {g : Nat} {ss : List (List UInt8)} {k : Nat} {w : World} (h : Part g ss k w) (hk : k < ss.length) : ∃ v, w.cell? ⟨g, k, none⟩ = some v := by
 obtain ⟨A, hg, hs, _⟩ := h
 rw [Lib.cell_of_heap hg]
 exact ⟨A[k]'(by omega), by rw [Array.getElem?_eq_getElem]⟩
theorem Part.free {g : Nat} {ss : List (List UInt8)} {k : Nat} {w : World} (h : Part g ss k w) (j : Nat) : w.frozen? ⟨g, j, none⟩ = false := by
 obtain ⟨A, hg, hs, _⟩ := h
 exact Lib.frozen_of_heap hg j
theorem Part.put {g : Nat} {ss : List (List UInt8)} {k : Nat} {w : World} (h : Part g ss k w) (hk : k < ss.length) : Part g ss (k + 1) (w.setCell ⟨g, k, none⟩ (.string (mk ss[k]))) := by
 obtain ⟨A, hg, hs, hc⟩ := h
 refine ⟨A.set k (.string (mk ss[k])) (by omega), ?_, by simp [hs], ?_⟩
 ·simp [World.setCell, Array.getElem?_modify, hg]
  rw [Array.setIfInBounds_def]
  simp [hs, hk]
 ·intro j hj hjk
  rw [Array.getElem?_set]
  split
  ·rename_i e; subst e; rfl
  ·exact hc j hj (by omega)
theorem part_new (ss : List (List UInt8)) (w : World) (z : Array Value) : Part w.heap.size ss 0 (w.alloc (.cells (madeCells z (ss.length * 1)) 9)) := by
 refine ⟨_, heap_alloc_new w _, by rw [size_madeCells]; simp, fun j hj h => absurd h (by omega)⟩
theorem toStringP (a : Option Addr) (len cap : Nat) (ss : List (List UInt8)) (w : World) (h : StrsOf a len ss w) (hl : len ≤ 1000000000) :
  Calls Tryz.prog 36 #[.slice a len cap] w fun e w' => e = .returned (.slice (some ⟨w.heap.size, 0, none⟩) len len) ∧ Part w.heap.size ss ss.length w' ∧ Below w.heap.size w w' := by
 have HLEN : Hid (len = ss.length) := h.1
 have HM : ∃ W, (Instr.makeSlice 24 (.int .i64 (len : Int)) (.int .i64 (len : Int))).run Tryz.prog w = .ok (.slice (some ⟨w.heap.size, 0, none⟩) len len) W ∧ Part w.heap.size ss 0 W ∧ Below w.heap.size w W := by
  obtain ⟨i0, hi, hz0, hz1, hz2⟩ := info_parts infoStr
  have := run_make (P := Tryz.prog) w 24 9 i0 (.string ⟨#[]⟩) Tryz.underlying24 hi hz0 .i64 .i64 (len : Int) (len : Int) (by omega) (by omega) (by rw [hz2]; omega) (by omega)
  rw [hz1] at this
  simp only [Int.toNat_natCast] at this
  refine ⟨_, this, ?_, (Below.refl _ w).alloc (Nat.le_refl _) _⟩
  rw [HLEN.out]; exact part_new ss w _
 obtain ⟨W, hmk, hP, hbW⟩ := HM
 go_enter Tryz.func36, Tryz.ntmps36
 go_wp2
 go_loopw [4] (fun i wr => ∃ k : Nat, k ≤ len ∧ i = .int .i64 k ∧ Part w.heap.size ss k wr ∧ Below w.heap.size w wr) (fun i wr => len - (intOf i).toNat)
 case atStart => exact ⟨0, Nat.zero_le _, rfl, hP, hbW⟩
 case round =>
  clear hmk hP hbW
  obtain ⟨k, hk, rfl, hI, hbw⟩ := hrel
  by_cases hp : k < len
  ·have hki : (k : Int) < (len : Int) := by omega
   have hkl : k < ss.length := by have := HLEN.out; omega
   obtain ⟨b, off, z, rfl, hz, hzm, hzs⟩ := (h.later hbw).at k hkl
   obtain ⟨u, hu⟩ := hI.cell hkl
   have hf := hI.free k
   have HP : Hid (Part w.heap.size ss (k + 1) (wr.setCell ⟨w.heap.size, k, none⟩ (.string z))) := by rw [hzm]; exact hI.put hkl
   clear hzm hzs hI
   go_wp2
   go_roundw
   case rel => exact ⟨k + 1, by omega, by go_num, HP.out, hbw.setCell (p := ⟨w.heap.size, k, none⟩) (Nat.le_refl _) _⟩
   case measure => simp [intOf]; omega
  ·have hkk : k = len := by omega
   subst hkk
   go_wp2
   go_ret
   refine ⟨rfl, ?_, hbw⟩
   have := HLEN.out
   subst this
   exact hI
theorem toStringS (a : Option Addr) (len cap : Nat) (ss : List (List UInt8)) (w : World) (h : StrsOf a len ss w) (hl : len ≤ 1000000000) :
  Calls Tryz.prog 36 #[.slice a len cap] w fun e w' => e = .returned (.slice (some ⟨w.heap.size, 0, none⟩) len len) ∧ StrsOf (some ⟨w.heap.size, 0, none⟩) len ss w' ∧ Below w.heap.size w w' :=
 (toStringP a len cap ss w h hl).mono fun e w' ⟨he, hp, hb⟩ => ⟨he, by rw [h.1]; exact hp.strs, hb⟩
end Go.Proofs.YtnfhajhdpdidlaaGreatDoor
end
section
namespace Go.Proofs.YtnfhajhdpdidlaaGreatDoor
open Go.RowKit Go.Shelf
theorem szHost (k : Int) (s : ByteArray) (a : Int) (w : World) (hs : s.size ≤ maxLen) :
  Calls Tryz.prog 32 #[.agg #[.int .i64 k, .string s, .int .i64 a], .int .i64 1048576] w fun e w' => e = .returned (.int .i64 (if (1048576 : Int) < (s.size : Int) then -1 else 1048576 - (s.size : Int))) ∧ Below w.heap.size w w' := by
 have hmx : (s.size : Int) ≤ 9223372036854775807 := by unfold maxLen at hs; omega
 by_cases h : (1048576 : Int) < (s.size : Int)
 ·rw [if_pos h]
  have h2 : (1048576 : Int) - (s.size : Int) < 0 := by omega
  go_enter Tryz.func32, Tryz.ntmps32
  go_wp2
  go_ret
  exact ⟨rfl, (Below.refl _ w).alloc (Nat.le_refl _) _⟩
 ·rw [if_neg h]
  have h2 : ¬ ((1048576 : Int) - (s.size : Int) < 0) := by omega
  go_enter Tryz.func32, Tryz.ntmps32
  go_wp2
  go_ret
  exact ⟨rfl, (Below.refl _ w).alloc (Nat.le_refl _) _⟩
theorem below3 (w : World) (a b c : Obj) : Below w.heap.size w (((w.alloc a).alloc b).alloc c) :=
 have h1 := (Below.refl w.heap.size w).alloc (Nat.le_refl _) a
 have h2 := h1.alloc h1.size b
 h2.alloc h2.size c
theorem toHost (k : Int) (s : ByteArray) (a : Int) (w : World) :
  Calls Tryz.prog 35 #[.agg #[.int .i64 k, .string s, .int .i64 a]] w fun e w' => e = .returned (.agg #[.int .i64 k, .string s, .int .i64 a]) ∧ Below w.heap.size w w' := by
 go_enter Tryz.func35, Tryz.ntmps35
 go_wp2
 refine bodyPost_ret (v := .agg #[.int .i64 k, .string s, .int .i64 a]) ?_ rfl ⟨rfl, below3 w _ _ _⟩
 have hres : Tryz.f35.results = #[.cell 2 29] := by kernel_rfl
 simp only [results, hres]
 go_simp
end Go.Proofs.YtnfhajhdpdidlaaGreatDoor
end

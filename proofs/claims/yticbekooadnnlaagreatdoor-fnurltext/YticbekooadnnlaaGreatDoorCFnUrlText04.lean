/- spec.UrlPut, impl.UrlPut, spec.PortOf, impl.PortOf: an address that is ok, written, and its port. The reader's pick answers a number from 0 on, below what it is asked for, and turns nothing but the reader's place. The reader's choice out of a list: one of the list's own, and nothing turns but the reader's place. A reader behind what leaves it. -/
import Derived.Test.YticbekooadnnlaaGreatDoorB31
import Derived.Test.YticbekooadnnlaaGreatDoorCFnUrlText01
section
set_option linter.unusedVariables false
set_option linter.unusedSimpArgs false
namespace Go.Proofs.YticbekooadnnlaaGreatDoor
open Go.RowKit Go.Shelf

set_option maxHeartbeats 4000000 in
set_option maxRecDepth 100000 in
theorem specUrlPut (q : P) (a : Option Addr) (n c : Nat) (w : World) (hS : StrsOf a n q.ps w) (hs : q.tot ≤ 1048576) (hpo : q.po ≤ 9223372036854775807) (b : Bool) (hb : b = true ↔ okP q) :
    Calls Tryz.prog 12 #[.agg (q.cells (.slice a n c))] w fun e w' => e = .returned (.string (if b = true then mk (writL q) else ⟨#[]⟩)) ∧ Below w.heap.size w w' := by
  have hn : n = q.ps.length := hS.1
  have H0 : Hid (Wp w q (.slice a n c) (w.alloc (.cells #[(.string q.sc), (.string q.us), (.string q.pw), (.int .i64 q.hk), (.string q.hn), (.int .i64 q.ha), (.int .i64 q.po), (.slice a n c), (.string q.op), (.bool q.hq), (.string q.qu), (.bool q.hf), (.string q.fr)] 27))) := Wp.start w q _
  have CO : Hid (∀ W, Below w.heap.size w W → Calls Tryz.prog 14 #[.agg #[(.string q.sc), (.string q.us), (.string q.pw), (.int .i64 q.hk), (.string q.hn), (.int .i64 q.ha), (.int .i64 q.po), (.slice a n c), (.string q.op), (.bool q.hq), (.string q.qu), (.bool q.hf), (.string q.fr)]] W fun e w' => e = .returned (.bool b) ∧ Below W.heap.size W w') := fun W d => specUrlOk q a n c W (hS.later d) hs hpo b hb
  have CP : Hid (∀ W, Below w.heap.size w W → Calls Tryz.prog 34 #[.agg #[(.string q.sc), (.string q.us), (.string q.pw), (.int .i64 q.hk), (.string q.hn), (.int .i64 q.ha), (.int .i64 q.po), (.slice a n c), (.string q.op), (.bool q.hq), (.string q.qu), (.bool q.hf), (.string q.fr)]] W fun e w' => e = .returned (.string (mk (writL q))) ∧ Below W.heap.size W w') := fun W d => by
    rw [hn]
    exact l3Put q a c W (by rw [← hn]; exact hS.later d) (by omega) hpo (fun h W => l1DecL q.po W h hpo)
  clear hS hs hpo hb hn
  unfold P.cells
  cases b with
  | false =>
    rw [if_neg (by decide)]
    go_enter Tryz.func12, Tryz.ntmps12
    go_wp2_with fail
    refine (CO.out _ H0.out.bw).mono ?_
    rintro e W1 ⟨rfl, d1⟩
    have HX1 : Hid (Wp w q (.slice a n c) W1) := H0.out.later d1
    go_wp2
    go_ret
    exact ⟨rfl, HX1.out.bw⟩
  | true =>
    rw [if_pos rfl]
    go_enter Tryz.func12, Tryz.ntmps12
    go_wp2_with fail
    refine (CO.out _ H0.out.bw).mono ?_
    rintro e W1 ⟨rfl, d1⟩
    have HX1 : Hid (Wp w q (.slice a n c) W1) := H0.out.later d1
    clear d1 H0 CO
    obtain ⟨k0, k1, k2, k3, k4, k5, k6, k7, k8, k9, k10, k11, k12⟩ := Blk.cells13 (q := q) HX1.out.bx
    go_wp2_with fail
    refine (CP.out _ HX1.out.bw).mono ?_
    rintro e W2 ⟨rfl, d2⟩
    have HX2 : Hid (Below w.heap.size w W2) := HX1.out.bw.trans (d2.mono HX1.out.bw.size)
    go_wp2
    go_ret
    exact ⟨rfl, HX2.out⟩
set_option maxHeartbeats 4000000 in
set_option maxRecDepth 100000 in
theorem implUrlPut (q : P) (a : Option Addr) (n c : Nat) (w : World) (hL : Lean1 w) (hS : StrsOf a n q.ps w) (hs : q.tot ≤ 1048576) (hpo : q.po ≤ 9223372036854775807) (b : Bool) (hb : b = true ↔ okP q) :
    Calls Tryz.prog 10 #[.agg (q.cells (.slice a n c))] w fun e w' => e = .returned (.string (if b = true then mk (writL q) else ⟨#[]⟩)) ∧ Below w.heap.size w w' := by
  have hn : n = q.ps.length := hS.1
  have H0 : Hid (Wp w q (.slice a n c) (w.alloc (.cells #[(.string q.sc), (.string q.us), (.string q.pw), (.int .i64 q.hk), (.string q.hn), (.int .i64 q.ha), (.int .i64 q.po), (.slice a n c), (.string q.op), (.bool q.hq), (.string q.qu), (.bool q.hf), (.string q.fr)] 27))) := Wp.start w q _
  have CO : Hid (∀ W, Below w.heap.size w W → Calls Tryz.prog 13 #[.agg #[(.string q.sc), (.string q.us), (.string q.pw), (.int .i64 q.hk), (.string q.hn), (.int .i64 q.ha), (.int .i64 q.po), (.slice a n c), (.string q.op), (.bool q.hq), (.string q.qu), (.bool q.hf), (.string q.fr)]] W fun e w' => e = .returned (.bool b) ∧ Below W.heap.size W w') := fun W d => implUrlOk q a n c W (hL.below d) (hS.later d) hs hpo b hb
  have CP : Hid (∀ W, Below w.heap.size w W → Calls Tryz.prog 29 #[.agg #[(.string q.sc), (.string q.us), (.string q.pw), (.int .i64 q.hk), (.string q.hn), (.int .i64 q.ha), (.int .i64 q.po), (.slice a n c), (.string q.op), (.bool q.hq), (.string q.qu), (.bool q.hf), (.string q.fr)]] W fun e w' => e = .returned (.string (mk (writL q))) ∧ Below W.heap.size W w') := fun W d => by
    rw [hn]
    exact urlWrite q a c W (hL.below d).base (by rw [← hn]; exact hS.later d) (by omega) hpo
  clear hS hs hpo hb hn hL
  unfold P.cells
  cases b with
  | false =>
    rw [if_neg (by decide)]
    go_enter Tryz.func10, Tryz.ntmps10
    go_wp2_with fail
    refine (CO.out _ H0.out.bw).mono ?_
    rintro e W1 ⟨rfl, d1⟩
    have HX1 : Hid (Wp w q (.slice a n c) W1) := H0.out.later d1
    go_wp2
    go_ret
    exact ⟨rfl, HX1.out.bw⟩
  | true =>
    rw [if_pos rfl]
    go_enter Tryz.func10, Tryz.ntmps10
    go_wp2_with fail
    refine (CO.out _ H0.out.bw).mono ?_
    rintro e W1 ⟨rfl, d1⟩
    have HX1 : Hid (Wp w q (.slice a n c) W1) := H0.out.later d1
    clear d1 H0 CO
    obtain ⟨k0, k1, k2, k3, k4, k5, k6, k7, k8, k9, k10, k11, k12⟩ := Blk.cells13 (q := q) HX1.out.bx
    go_wp2_with fail
    refine (CP.out _ HX1.out.bw).mono ?_
    rintro e W2 ⟨rfl, d2⟩
    have HX2 : Hid (Below w.heap.size w W2) := HX1.out.bw.trans (d2.mono HX1.out.bw.size)
    go_wp2
    go_ret
    exact ⟨rfl, HX2.out⟩
set_option maxHeartbeats 4000000 in
set_option maxRecDepth 100000 in
theorem implPortOf (q : P) (a : Option Addr) (n c : Nat) (w : World) (hL : Lean1 w) (hS : StrsOf a n q.ps w) (hs : q.tot ≤ 1048576) (hpo : q.po ≤ 9223372036854775807) (b : Bool) (hb : b = true ↔ okP q) :
    Calls Tryz.prog 25 #[.agg (q.cells (.slice a n c))] w fun e w' => e = .returned (.int .i64 (if b = true then (if q.po < 0 then ownZ q.sc else q.po) else -1)) ∧ Below w.heap.size w w' := by
  have hn : n = q.ps.length := hS.1
  have H0 : Hid (Wp w q (.slice a n c) (w.alloc (.cells #[(.string q.sc), (.string q.us), (.string q.pw), (.int .i64 q.hk), (.string q.hn), (.int .i64 q.ha), (.int .i64 q.po), (.slice a n c), (.string q.op), (.bool q.hq), (.string q.qu), (.bool q.hf), (.string q.fr)] 27))) := Wp.start w q _
  have CO : Hid (∀ W, Below w.heap.size w W → Calls Tryz.prog 13 #[.agg #[(.string q.sc), (.string q.us), (.string q.pw), (.int .i64 q.hk), (.string q.hn), (.int .i64 q.ha), (.int .i64 q.po), (.slice a n c), (.string q.op), (.bool q.hq), (.string q.qu), (.bool q.hf), (.string q.fr)]] W fun e w' => e = .returned (.bool b) ∧ Below W.heap.size W w') := fun W d => implUrlOk q a n c W (hL.below d) (hS.later d) hs hpo b hb
  have CP : Hid (∀ W, Calls Tryz.prog 50 #[.string q.sc] W fun e w' => e = .returned (.int .i64 (ownZ q.sc)) ∧ w' = W) := fun W => schemePort q.sc W
  clear hS hs hpo hb hn hL
  unfold P.cells
  cases b with
  | false =>
    rw [if_neg (by decide)]
    go_enter Tryz.func25, Tryz.ntmps25
    go_wp2_with fail
    refine (CO.out _ H0.out.bw).mono ?_
    rintro e W1 ⟨rfl, d1⟩
    have HX1 : Hid (Wp w q (.slice a n c) W1) := H0.out.later d1
    go_wp2
    go_ret
    exact ⟨rfl, HX1.out.bw⟩
  | true =>
    rw [if_pos rfl]
    by_cases hp : q.po < 0
    · rw [if_pos hp]
      go_enter Tryz.func25, Tryz.ntmps25
      go_wp2_with fail
      refine (CO.out _ H0.out.bw).mono ?_
      rintro e W1 ⟨rfl, d1⟩
      have HX1 : Hid (Wp w q (.slice a n c) W1) := H0.out.later d1
      clear d1 H0 CO
      obtain ⟨k0, k1, k2, k3, k4, k5, k6, k7, k8, k9, k10, k11, k12⟩ := Blk.cells13 (q := q) HX1.out.bx
      go_wp2_with fail
      refine (CP.out _).mono ?_
      rintro e W2 ⟨rfl, hW⟩
      have hW2 := hW.symm
      subst hW2
      go_wp2
      go_ret
      exact ⟨rfl, HX1.out.bw⟩
    · rw [if_neg hp]
      go_enter Tryz.func25, Tryz.ntmps25
      go_wp2_with fail
      refine (CO.out _ H0.out.bw).mono ?_
      rintro e W1 ⟨rfl, d1⟩
      have HX1 : Hid (Wp w q (.slice a n c) W1) := H0.out.later d1
      clear d1 H0 CO
      obtain ⟨k0, k1, k2, k3, k4, k5, k6, k7, k8, k9, k10, k11, k12⟩ := Blk.cells13 (q := q) HX1.out.bx
      go_wp2
      go_ret
      exact ⟨rfl, HX1.out.bw⟩
end Go.Proofs.YticbekooadnnlaaGreatDoor
end

section
set_option linter.unusedVariables false
namespace Go.Proofs.YticbekooadnnlaaGreatDoor
open Go.RowKit Go.Shelf

set_option maxHeartbeats 2000000 in
set_option maxRecDepth 100000 in
theorem pick (B r p : Nat) (n : Int) (w : World) (hn : 1 ≤ n) (hn2 : n ≤ 1000000) (hp : p ≤ 1000000) (h : Rd B r p w) :
    Calls Tryz.prog 38 #[.pointer (some ⟨r, 0, none⟩), .int .i64 n] w fun e w' => ∃ v : Int, e = .returned (.int .i64 v) ∧ 0 ≤ v ∧ v < n ∧ Rd B r (p + 1) w' ∧ w.grownBy w' (some r) := by
  have hput := h.put (p + 1)
  have hgr := setCell_grown w r 1 (.int .i64 ((p + 1 : Nat) : Int))
  rw [show ((p + 1 : Nat) : Int) = (p : Int) + 1 from by omega] at hput hgr
  have HP : Hid (Rd B r (p + 1) (w.setCell ⟨r, 1, none⟩ (.int .i64 ((p : Int) + 1)))) := hput
  have HG : Hid (w.grownBy (w.setCell ⟨r, 1, none⟩ (.int .i64 ((p : Int) + 1))) (some r)) := hgr
  clear hput hgr
  obtain ⟨hB, a, len, cap, z, hr, hl, hc⟩ := h
  have c0 : w.cell? ⟨r, 0, none⟩ = some (.slice a len cap) := by rw [Lib.cell_of_heap hr]; rfl
  have c1 : w.cell? ⟨r, 1, none⟩ = some (.int .i64 (p : Int)) := by rw [Lib.cell_of_heap hr]; rfl
  have f1 : w.frozen? ⟨r, 1, none⟩ = false := Lib.frozen_of_heap hr 1
  have hk1 : (p : Int) + 1 - 1 = (p : Int) := by omega
  have hpi : (p : Int) ≤ 1000000 := by omega
  clear hr
  by_cases h0 : len = 0
  · subst h0
    go_enter Tryz.func38, Tryz.ntmps38
    go_wp2
    go_ret
    exact ⟨0, rfl, by omega, by omega, HP.out, HG.out⟩
  · rcases hc with hc | ⟨b, off, rfl, hbB, hc⟩
    · exact absurd hc h0
    have hbr : b ≠ r := by omega
    have hl0 : (0 : Int) < (len : Int) := by omega
    have hl1 : ((len : Int) == 0) = false := by rw [beq_eq_false_iff_ne]; omega
    by_cases hlt : p < len
    · have hlti : (p : Int) < (len : Int) := by omega
      obtain ⟨hcell, hz0, hz1⟩ := hc p hlt
      clear hc
      go_enter Tryz.func38, Tryz.ntmps38
      go_wp2
      go_ret
      exact ⟨z p % n, rfl, Int.emod_nonneg _ (by omega), Int.emod_lt_of_pos _ (by omega), HP.out, HG.out⟩
    · have hlti : ¬ ((p : Int) < (len : Int)) := by omega
      have hlne : ¬ ((len : Int) = 0) := by omega
      obtain ⟨q1, hq1, hq1l⟩ : ∃ q : Nat, (p : Int) % (len : Int) = (q : Int) ∧ q < len := ⟨p % len, by omega, Nat.mod_lt _ (by omega)⟩
      obtain ⟨q2, hq2, hq2l⟩ : ∃ q : Nat, ((p : Int) * 7 + 3) % (len : Int) = (q : Int) ∧ q < len := ⟨(p * 7 + 3) % len, by simp, Nat.mod_lt _ (by omega)⟩
      obtain ⟨hcell1, hz0, hz1⟩ := hc q1 hq1l
      obtain ⟨hcell2, hy0, hy1⟩ := hc q2 hq2l
      have hw7 : IntKind.i64.wrap ((p : Int) * 7) = (p : Int) * 7 := by rw [IntKind.wrap_i64]; omega
      have hw73 : IntKind.i64.wrap ((p : Int) * 7 + 3) = (p : Int) * 7 + 3 := by rw [IntKind.wrap_i64]; omega
      obtain ⟨q3, hq3, hq3l⟩ : ∃ q : Nat, (p : Int) / (len : Int) = (q : Int) ∧ (q : Int) ≤ 1000000 := ⟨p / len, by simp, by have := Nat.div_le_self p len; omega⟩
      obtain ⟨x, hx, hxl⟩ := i64_xor_range (z q1 * 131 + z q2 * 1117 + (p : Int) * 29 + (q3 : Int) * 53) ((z q1 * 131 + z q2 * 1117 + (p : Int) * 29 + (q3 : Int) * 53) / 64) (by omega) (by omega) (by omega) (by omega)
      have hq1i : (q1 : Int) < (len : Int) := by omega
      have hq2i : (q2 : Int) < (len : Int) := by omega
      clear hc
      go_enter Tryz.func38, Tryz.ntmps38
      go_wp2
      go_quiet (fail)
      go_wp2
      go_ret
      exact ⟨(x : Int) % n, rfl, Int.emod_nonneg _ (by omega), Int.emod_lt_of_pos _ (by omega), HP.out, grown_drewN HG.out _⟩
end Go.Proofs.YticbekooadnnlaaGreatDoor
end

section
set_option linter.unusedVariables false
namespace Go.Proofs.YticbekooadnnlaaGreatDoor
open Go.RowKit Go.Shelf

set_option maxHeartbeats 1000000 in
set_option maxRecDepth 100000 in
theorem rdOf (B r p g c : Nat) (xs : List ByteArray) (t : TypeId) (fr : Nat × Nat) (A : Array Value) (w : World) (hA : A.toList = xs.map Value.string) (hg : w.heap[g]? = some (.cells A t fr)) (hgr : g ≠ r) (h1 : 1 ≤ xs.length) (hx : xs.length ≤ 1000000) (hp : p ≤ 1000000) (h : Rd B r p w) :
    Calls Tryz.prog 40 #[.pointer (some ⟨r, 0, none⟩), .slice (some ⟨g, 0, none⟩) xs.length c] w fun e w' => ∃ x, x ∈ xs ∧ e = .returned (Value.string x) ∧ Rd B r (p + 1) w' ∧ w.grownBy w' (some r) := by
  go_enter Tryz.func40, Tryz.ntmps40
  go_wp2_with fail
  refine (pick B r p _ _ (by omega) (by omega) hp h).mono ?_
  rintro e w1 ⟨v, rfl, hv0, hv1, hr1, hg1⟩
  obtain ⟨j, rfl⟩ := Int.eq_ofNat_of_zero_le hv0
  have hj : j < xs.length := by omega
  have hcell : w1.cell? ⟨g, j, none⟩ = some (Value.string xs[j]) := by
    have hh : w1.heap[g]? = some (.cells A t fr) := (hg1.block g (Array.getElem?_eq_some_iff.1 hg).1 (by simp [hgr])).trans hg
    rw [Lib.cell_of_heap hh, ← Array.getElem?_toList, hA]
    simp [hj]
  go_wp2
  go_ret
  exact ⟨xs[j], List.getElem_mem hj, rfl, hr1, hg1⟩

end Go.Proofs.YticbekooadnnlaaGreatDoor
end

section
set_option linter.unusedVariables false
namespace Go.Proofs.YticbekooadnnlaaGreatDoor
open Go.RowKit Go.Shelf

theorem grown_below {a b c : World} {row : Option Nat} (h : a.grownBy b row) (k : Below a.heap.size b c) : a.grownBy c row :=
  ⟨k.os.trans h.os, k.tape.trans h.tape, k.output.trans h.output, Nat.le_trans h.size k.size, fun j hj hn => (k.block j hj).trans (h.block j hj hn)⟩

theorem Rd.below {B r p N : Nat} {w w' : World} (h : Rd B r p w) (k : Below N w w') (hr : r < N) : Rd B r p w' :=
  h.stays (k.block r hr) (fun j hj => k.block j (by have := h.1; omega))
end Go.Proofs.YticbekooadnnlaaGreatDoor
end

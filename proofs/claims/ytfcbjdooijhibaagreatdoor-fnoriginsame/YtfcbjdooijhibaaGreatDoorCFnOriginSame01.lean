/- laws.guTexts of two lists of the same texts. laws.guUrl of an address and itself. The reader of a code: pick answers a number below what it is asked for, and turns nothing but the reader's place. A code that came in, and the reader that l1Open lays over it. -/
import Derived.Test.YtfcbjdooijhibaaGreatDoorD04
import Derived.Test.YtfcbjdooijhibaaGreatDoorD32
import Derived.Test.YtfcbjdooijhibaaGreatDoorD01
import Derived.BigQuiet
import Derived.Deep.QuietTactic
import Derived.WalkSmall
import Derived.OpenShut
set_option linter.unusedVariables false
set_option linter.unusedSimpArgs false
set_option maxHeartbeats 4000000
set_option maxRecDepth 100000
section
namespace Go.Proofs.YtfcbjdooijhibaaGreatDoor
open Go.RowKit Go.Shelf
theorem guTexts (a a' : Option Addr) (len cap len' cap' : Nat) (ss : List (List UInt8)) (w : World) (h : StrsOf a len ss w) (h' : StrsOf a' len' ss w) (hl : len ≤ 1000000000) :
  Calls Tryz.prog 37 #[.slice a len cap, .slice a' len' cap'] w fun e w' => e = .returned (.bool true) ∧ ∃ n, w' = w.drewN n := by
 have hll : len' = len := by rw [h.1, h'.1]
 subst hll
 have HLEN : Hid (len' = ss.length) := h.1
 go_enter Tryz.func37, Tryz.ntmps37
 go_wp2
 go_loopw [5] (fun i wr => ∃ k : Nat, k ≤ len' ∧ i = .int .i64 k ∧ ∃ n, wr = w.drewN n) (fun i wr => len' - (intOf i).toNat)
 case atStart => exact ⟨0, Nat.zero_le _, rfl, 0, rfl⟩
 case round =>
  obtain ⟨k, hk, rfl, n, rfl⟩ := hrel
  by_cases hp : k < len'
  ·have hki : (k : Int) < (len' : Int) := by omega
   obtain ⟨b, off, z, rfl, hz, hzm, hzs⟩ := h.at k (by have := HLEN.out; omega)
   obtain ⟨b', off', z', rfl, hz', hzm', hzs'⟩ := h'.at k (by have := HLEN.out; omega)
   have : z' = z := by rw [hzm, hzm']
   subst this
   clear hzm hzm' hzs hzs'
   go_wp2
   go_quiet (fail)
   go_wp2
   go_roundw
   case rel => exact ⟨k + 1, by omega, by go_num, _, rfl⟩
   case measure => simp [intOf]; omega
  ·have hkk : k = len' := by omega
   subst hkk
   go_wp2
   go_ret
   exact ⟨rfl, n, rfl⟩
end Go.Proofs.YtfcbjdooijhibaaGreatDoor
end
section
namespace Go.Proofs.YtfcbjdooijhibaaGreatDoor
open Go.RowKit Go.Shelf
structure TB (w : World) (q : P) (v v' : Value) (W : World) : Prop where
 make ::
 b1 : Blk w.heap.size (q.cells v) 27 W
 b2 : Blk (w.heap.size + 1) (q.cells v') 27 W
 bw : Below w.heap.size w W
theorem TB.start (w : World) (q : P) (v v' : Value) : TB w q v v' ((w.alloc (.cells (q.cells v) 27)).alloc (.cells (q.cells v') 27)) where
 b1 := Blk.alloc (Blk.new w _ _) _
 b2 := by
  have := Blk.new (w.alloc (.cells (q.cells v) 27)) (q.cells v') 27
  rw [show (w.alloc (Obj.cells (q.cells v) 27)).heap.size = w.heap.size + 1 by simp] at this
  exact this
 bw := ((Below.refl _ w).alloc (Nat.le_refl _) _).alloc (by simp) _
theorem TB.later {w W W' : World} {q : P} {v v' : Value} (h : TB w q v v' W) (b : Below W.heap.size W W') : TB w q v v' W' := ⟨h.b1.below b h.b1.lt, h.b2.below b h.b2.lt, h.bw.trans (b.mono h.bw.size)⟩
theorem guUrl (q : P) (a a' : Option Addr) (n c n' c' : Nat) (w : World) (h : StrsOf a n q.ps w) (h' : StrsOf a' n' q.ps w) (hl : q.ps.length ≤ 1100000) :
  Calls Tryz.prog 13 #[.agg (q.cells (.slice a n c)), .agg (q.cells (.slice a' n' c'))] w fun e w' => e = .returned (.bool true) ∧ Below w.heap.size w w' := by
 have en : n' = n := by rw [h.1, h'.1]
 subst en
 have H0 : Hid (TB w q (.slice a n' c) (.slice a' n' c') ((w.alloc (.cells (q.cells (.slice a n' c)) 27)).alloc (.cells (q.cells (.slice a' n' c')) 27))) := TB.start w q _ _
 have CS : Hid (∀ W, Below w.heap.size w W → Calls Tryz.prog 37 #[.slice a n' c, .slice a' n' c'] W fun e w' => e = .returned (.bool true) ∧ ∃ n, w' = W.drewN n) := fun W b => guTexts _ _ _ _ _ _ q.ps W (h.later b) (h'.later b) (by rw [h.1]; omega)
 clear h h' hl
 unfold P.cells at H0 ⊢
 obtain ⟨k0, k1, k2, k3, k4, k5, k6, k7, k8, k9, k10, k11, k12⟩ := Blk.cells13 (q := q) H0.out.b1
 obtain ⟨j0, j1, j2, j3, j4, j5, j6, j7, j8, j9, j10, j11, j12⟩ := Blk.cells13 (q := q) H0.out.b2
 clear k0 k1 k2 k3 k4 k5 k6 k7 k8 k9 k10 k11 k12 j0 j1 j2 j3 j4 j5 j6 j7 j8 j9 j10 j11 j12
 go_enter Tryz.func13, Tryz.ntmps13
 go_wp2_with fail
 refine (CS.out _ H0.out.bw).mono ?_
 rintro e W2 ⟨rfl, n2, hW2⟩
 have HB : Hid (Below w.heap.size w W2) := by
  show Below _ _ _
  rw [hW2]; exact below_drewN H0.out.bw n2
 clear hW2 H0 CS
 go_wp2
 go_ret
 exact ⟨rfl, HB.out⟩
end Go.Proofs.YtfcbjdooijhibaaGreatDoor
end
section
namespace Go.Proofs.YtfcbjdooijhibaaGreatDoor
open Go.RowKit Go.Shelf
theorem i64_xor_nat (a b : Nat) (ha : a < 9223372036854775808) (hb : b < 9223372036854775808) : bits .xor .i64 (a : Int) (b : Int) = ((a ^^^ b : Nat) : Int) := by
 have hx : a ^^^ b < 2 ^ 63 := Nat.xor_lt_two_pow (by omega) (by omega)
 show IntKind.i64.wrap ((BitVec.ofInt 64 (a : Int) ^^^ BitVec.ofInt 64 (b : Int)).toNat : Int) = _
 have e1 : (BitVec.ofInt 64 (a : Int)).toNat = a := by rw [BitVec.toNat_ofInt]; omega
 have e2 : (BitVec.ofInt 64 (b : Int)).toNat = b := by rw [BitVec.toNat_ofInt]; omega
 rw [BitVec.toNat_xor, e1, e2, IntKind.wrap_i64]
 omega
theorem i64_xor_range (a b : Int) (h1 : 0 ≤ a) (h2 : a < 9223372036854775808) (h3 : 0 ≤ b) (h4 : b < 9223372036854775808) : ∃ n : Nat, bits .xor .i64 a b = (n : Int) ∧ n < 9223372036854775808 := by
 obtain ⟨A, rfl⟩ := Int.eq_ofNat_of_zero_le h1
 obtain ⟨C, rfl⟩ := Int.eq_ofNat_of_zero_le h3
 exact ⟨A ^^^ C, i64_xor_nat A C (by omega) (by omega), by have : A ^^^ C < 2 ^ 63 := Nat.xor_lt_two_pow (by omega) (by omega); omega⟩
def Rd (B r p : Nat) (w : World) : Prop :=
 B ≤ r ∧ ∃ a len cap, ∃ z : Nat → Int, w.heap[r]? = some (.cells #[.slice a len cap, .int .i64 (p : Int)] 68 (0, 0)) ∧ len ≤ 2000 ∧
  (len = 0 ∨ ∃ b off, a = some ⟨b, off, none⟩ ∧ b < B ∧ ∀ i, i < len → w.cell? ⟨b, off + i, none⟩ = some (.int .u8 (z i)) ∧ 0 ≤ z i ∧ z i ≤ 255)
theorem Rd.lt {B r p : Nat} {w : World} (h : Rd B r p w) : r < w.heap.size := by
 obtain ⟨_, a, len, cap, z, hr, _⟩ := h
 exact (Array.getElem?_eq_some_iff.1 hr).1
theorem Rd.stays {B r p : Nat} {w w' : World} (h : Rd B r p w) (hr' : w'.heap[r]? = w.heap[r]?) (hb : ∀ k, k < B → w'.heap[k]? = w.heap[k]?) : Rd B r p w' := by
 obtain ⟨hB, a, len, cap, z, hr, hl, hc⟩ := h
 refine ⟨hB, a, len, cap, z, hr'.trans hr, hl, ?_⟩
 rcases hc with hc | ⟨b, off, ha, hbB, hc⟩
 ·exact .inl hc
 ·refine .inr ⟨b, off, ha, hbB, fun i hi => ⟨?_, (hc i hi).2⟩⟩
  have : w'.cell? ⟨b, off + i, none⟩ = w.cell? ⟨b, off + i, none⟩ := by unfold World.cell?; rw [hb b hbB]
  rw [this]; exact (hc i hi).1
theorem Rd.put {B r p : Nat} {w : World} (h : Rd B r p w) (q : Nat) : Rd B r q (w.setCell ⟨r, 1, none⟩ (.int .i64 (q : Int))) := by
 obtain ⟨hB, a, len, cap, z, hr, hl, hc⟩ := h
 refine ⟨hB, a, len, cap, z, ?_, hl, ?_⟩
 ·simp [World.setCell, Array.getElem?_modify, hr]
 ·rcases hc with hc | ⟨b, off, ha, hbB, hc⟩
  ·exact .inl hc
  ·refine .inr ⟨b, off, ha, hbB, fun i hi => ⟨?_, (hc i hi).2⟩⟩
   have : (w.setCell ⟨r, 1, none⟩ (.int .i64 (q : Int))).cell? ⟨b, off + i, none⟩ = w.cell? ⟨b, off + i, none⟩ := by
    unfold World.cell?; rw [Below.heap_setCell _ _ _ _ (by show b ≠ r; omega)]
   rw [this]; exact (hc i hi).1
theorem setCell_grown (w : World) (r j : Nat) (v : Value) : w.grownBy (w.setCell ⟨r, j, none⟩ v) (some r) :=
 ⟨rfl, rfl, rfl, by simp [World.setCell], fun k _ hk => Below.heap_setCell _ _ _ _ (fun e => hk (by simp [e]))⟩
theorem grown_drewN {w w' : World} {row : Option Nat} (h : w.grownBy w' row) (n : Nat) : w.grownBy (w'.drewN n) row := ⟨h.os, h.tape, h.output, h.size, h.block⟩
theorem grown_drew {w w' : World} {row : Option Nat} (h : w.grownBy w' row) : w.grownBy w'.drew row := ⟨h.os, h.tape, h.output, h.size, h.block⟩
theorem grown_trans {a b c : World} {row : Option Nat} (h : a.grownBy b row) (k : b.grownBy c row) : a.grownBy c row :=
 ⟨k.os.trans h.os, k.tape.trans h.tape, k.output.trans h.output, Nat.le_trans h.size k.size, fun j hj hn => (k.block j (Nat.lt_of_lt_of_le hj h.size) hn).trans (h.block j hj hn)⟩
theorem grown_alloc {a b : World} {row : Option Nat} (h : a.grownBy b row) (o : Obj) : a.grownBy (b.alloc o) row := grown_trans h (World.grownBy_alloc b o row)
theorem below_grown {B r : Nat} {w w' : World} (h : w.grownBy w' (some r)) (hr : B ≤ r) (hB : B ≤ w.heap.size) : Below B w w' :=
 (Below.refl B w).grown h hB (fun k hk => by simp at hk; omega)
theorem OwnB.keptRd {B0 B r p : Nat} {v : Value} {l : List UInt8} {w w' : World} (h : OwnB B0 v l w) (hr : Rd B r p w) (hg : w.grownBy w' (some r)) : OwnB B0 v l w' := by
 obtain ⟨_, a, len, cap, z, hh, _⟩ := hr
 exact World.ownsRow.kept h hg (.inr (Lib.ownBlock_ne h hh (by decide)))
end Go.Proofs.YtfcbjdooijhibaaGreatDoor
end
section
namespace Go.Proofs.YtfcbjdooijhibaaGreatDoor
open Go.RowKit Go.Shelf
def IsRow (k : IntKind) (w : World) (a : Option Addr) (len cap : Nat) (zs : List Int) : Prop :=
 (a = none ∧ len = 0 ∧ cap = 0 ∧ zs = []) ∨
 ∃ x, a = some x ∧ len ≤ cap ∧ cap ≤ maxLen ∧ zs.length = cap ∧ (∀ i, i < zs.length → w.cell? (x.add i) = some (.int k (zs.getD i 0))) ∧ ∀ n ∈ zs, (Lit.int k n).wf = true
def Code (B : Nat) (w : World) (a : Option Addr) (len cap : Nat) : Prop :=
 len ≤ cap ∧ cap ≤ maxLen ∧ (len = 0 ∨ ∃ b off, a = some ⟨b, off, none⟩ ∧ b < B ∧ ∃ z : Nat → Int, ∀ i, i < len → w.cell? ⟨b, off + i, none⟩ = some (.int .u8 (z i)) ∧ 0 ≤ z i ∧ z i ≤ 255)
theorem addr_add_off (b off i : Nat) : (⟨b, off, none⟩ : Addr).add i = ⟨b, off + i, none⟩ := by unfold Addr.add; split <;> simp_all
theorem cellP_lt {w : World} {p : Addr} {v : Value} (h : w.cell? p = some v) : p.block < w.heap.size := by
 rcases Nat.lt_or_ge p.block w.heap.size with h' | h'
 ·exact h'
 ·simp [World.cell?, Array.getElem?_eq_none h'] at h
theorem code_of_row {w : World} {a : Option Addr} {len cap : Nat} {zs : List Int} (h : IsRow .u8 w a len cap zs) : Code w.heap.size w a len cap := by
 rcases h with ⟨rfl, rfl, rfl, rfl⟩ | ⟨x, rfl, hl, hm, hz, hc, hw⟩
 ·exact ⟨Nat.le_refl _, Nat.zero_le _, .inl rfl⟩
 ·refine ⟨hl, hm, ?_⟩
  by_cases h0 : len = 0
  ·exact .inl h0
  ·obtain ⟨b, off, spot⟩ := x
   have h1 := hc 0 (by omega)
   have hs : spot = none := by simpa [Addr.add] using World.cell?_spot h1
   subst hs
   have hlt : b < w.heap.size := by
    have := cellP_lt h1
    simpa [Addr.add] using this
   refine .inr ⟨b, off, rfl, hlt, fun i => zs.getD i 0, fun i hi => ⟨?_, ?_⟩⟩
   ·have := hc i (by omega)
    rwa [addr_add_off] at this
   ·have hwi := hw (zs.getD i 0) (by
     rw [List.getD_eq_getElem?_getD, List.getElem?_eq_getElem (by omega)]
     exact List.getElem_mem _)
    exact bounds_u8 hwi
theorem rd_new (B : Nat) (w : World) (a : Option Addr) (len cap : Nat) (hB : B ≤ w.heap.size) (hl : len ≤ 2000)
  (hc : len = 0 ∨ ∃ b off, a = some ⟨b, off, none⟩ ∧ b < B ∧ ∃ z : Nat → Int, ∀ i, i < len → w.cell? ⟨b, off + i, none⟩ = some (.int .u8 (z i)) ∧ 0 ≤ z i ∧ z i ≤ 255) :
  Rd B w.heap.size 0 (w.alloc (.cells #[.slice a len cap, .int .i64 0] 68)) := by
 rcases hc with hc | ⟨b, off, ha, hb, z, hc⟩
 ·exact ⟨hB, a, len, cap, fun _ => 0, heap_alloc_new w _, hl, .inl hc⟩
 ·refine ⟨hB, a, len, cap, z, heap_alloc_new w _, hl, .inr ⟨b, off, ha, hb, fun i hi => ⟨?_, (hc i hi).2⟩⟩⟩
  have : (w.alloc (.cells #[.slice a len cap, .int .i64 0] 68)).cell? ⟨b, off + i, none⟩ = w.cell? ⟨b, off + i, none⟩ := by
   unfold World.cell?; rw [Lib.alloc_old w _ b (by omega)]
  rw [this]; exact (hc i hi).1
theorem l1Open (B : Nat) (a : Option Addr) (len cap : Nat) (w : World) (hB : B ≤ w.heap.size) (h : Code B w a len cap) :
  Calls Tryz.prog 31 #[.slice a len cap] w fun e w' => e = .returned (.pointer (some ⟨w.heap.size, 0, none⟩)) ∧ Rd B w.heap.size 0 w' ∧ Below w.heap.size w w' := by
 obtain ⟨hl, hm, hc⟩ := h
 unfold maxLen at hm
 by_cases hg : len ≤ 2000
 ·have hgi : ¬ ((2000 : Int) < (len : Int)) := by omega
  have HR := rd_new B w a len cap hB hg hc
  have HR2 : Hid (Rd B w.heap.size 0 (w.alloc (.cells #[.slice a len cap, .int .i64 0] 68))) := HR
  clear HR hc
  go_enter Tryz.func31, Tryz.ntmps31
  go_wp2
  go_ret
  exact ⟨rfl, HR2.out, (Below.refl _ w).alloc (Nat.le_refl _) _⟩
 ·have hgi : (2000 : Int) < (len : Int) := by omega
  rcases hc with hc | ⟨b, off, rfl, hb, z, hc⟩
  ·omega
  have HR := rd_new B w (some ⟨b, off, none⟩) 2000 cap hB (Nat.le_refl _) (.inr ⟨b, off, rfl, hb, z, fun i hi => hc i (by omega)⟩)
  have HR2 : Hid (Rd B w.heap.size 0 (w.alloc (.cells #[.slice (some ⟨b, off, none⟩) 2000 cap, .int .i64 0] 68))) := HR
  clear HR hc
  have h1 : (2000 : Int) ≤ (cap : Int) := by omega
  have h2 : (2000 : Int) < (cap : Int) := by omega
  have h3 : 2000 ≤ cap := by omega
  go_enter Tryz.func31, Tryz.ntmps31
  go_wp2
  go_ret
  exact ⟨rfl, HR2.out, (Below.refl _ w).alloc (Nat.le_refl _) _⟩
end Go.Proofs.YtfcbjdooijhibaaGreatDoor
end

/- The reader of a code: pick answers a number below what it is asked for, and turns nothing but the reader's place. A code that came in, and the reader that l1Open lays over it. An address in a variable; UrlGet and guUrl as the laws on addresses meet them. spec.OriginOf, impl.OriginOf: the origin of an address; laws.eqOrigin. -/
import Derived.Test.YtnfhajhdpdidlaaGreatDoorB01
import Derived.BigQuiet
import Derived.Deep.QuietTactic
import Derived.WalkSmall
import Derived.OpenShut
import Derived.Test.YtnfhajhdpdidlaaGreatDoorB36
import Derived.Test.YtnfhajhdpdidlaaGreatDoorB41
import Derived.Test.YtnfhajhdpdidlaaGreatDoorB22
import Derived.Test.YtnfhajhdpdidlaaGreatDoorB42
import Derived.Test.YtnfhajhdpdidlaaGreatDoorB09
set_option linter.unusedVariables false
set_option linter.unusedSimpArgs false
set_option maxHeartbeats 4000000
set_option maxRecDepth 100000
section
namespace Go.Proofs.YtnfhajhdpdidlaaGreatDoor
open Go.RowKit Go.Shelf
theorem i64_xor_nat (a b : Nat) (ha : a < 9223372036854775808) (hb : b < 9223372036854775808) : bits .xor .i64 (a : Int) (b : Int) = ((a ^^^ b : Nat) : Int) := by
 have hx : a ^^^ b < 2 ^ 63 := Nat.xor_lt_two_pow (by omega) (by omega)
 show IntKind.i64.wrap ((BitVec.ofInt 64 (a : Int) ^^^ BitVec.ofInt 64 (b : Int)).toNat : Int) = _
 have e1 : (BitVec.ofInt 64 (a : Int)).toNat = a := by rw [BitVec.toNat_ofInt]; omega
 have e2 : (BitVec.ofInt 64 (b : Int)).toNat = b := by rw [BitVec.toNat_ofInt]; omega
 rw [BitVec.toNat_xor, e1, e2, IntKind.wrap_i64]
 omega
theorem i64_xor_range (a b : Int) (h1 : 0 ≤ a) (h2 : a < 9223372036854775808) (h3 : 0 ≤ b) (h4 : b < 9223372036854775808) : ∃ n : Nat, bits .xor .i64 a b = (n : Int) ∧ n < 9223372036854775808 := by
 obtain ⟨A, rfl⟩ := Int.eq_ofNat_of_zero_le h1
 obtain ⟨C, rfl⟩ := Int.eq_ofNat_of_zero_le h3
 exact ⟨A ^^^ C, i64_xor_nat A C (by omega) (by omega), by have : A ^^^ C < 2 ^ 63 := Nat.xor_lt_two_pow (by omega) (by omega); omega⟩
def Rd (B r p : Nat) (w : World) : Prop :=
 B ≤ r ∧ ∃ a len cap, ∃ z : Nat → Int, w.heap[r]? = some (.cells #[.slice a len cap, .int .i64 (p : Int)] 97 (0, 0)) ∧ len ≤ 2000 ∧
  (len = 0 ∨ ∃ b off, a = some ⟨b, off, none⟩ ∧ b < B ∧ ∀ i, i < len → w.cell? ⟨b, off + i, none⟩ = some (.int .u8 (z i)) ∧ 0 ≤ z i ∧ z i ≤ 255)
theorem Rd.lt {B r p : Nat} {w : World} (h : Rd B r p w) : r < w.heap.size := by
 obtain ⟨_, a, len, cap, z, hr, _⟩ := h
 exact (Array.getElem?_eq_some_iff.1 hr).1
theorem Rd.stays {B r p : Nat} {w w' : World} (h : Rd B r p w) (hr' : w'.heap[r]? = w.heap[r]?) (hb : ∀ k, k < B → w'.heap[k]? = w.heap[k]?) : Rd B r p w' := by
 obtain ⟨hB, a, len, cap, z, hr, hl, hc⟩ := h
 refine ⟨hB, a, len, cap, z, hr'.trans hr, hl, ?_⟩
 rcases hc with hc | ⟨b, off, ha, hbB, hc⟩
 ·exact .inl hc
 ·refine .inr ⟨b, off, ha, hbB, fun i hi => ⟨?_, (hc i hi).2⟩⟩
  have : w'.cell? ⟨b, off + i, none⟩ = w.cell? ⟨b, off + i, none⟩ := by unfold World.cell?; rw [hb b hbB]
  rw [this]; exact (hc i hi).1
theorem Rd.put {B r p : Nat} {w : World} (h : Rd B r p w) (q : Nat) : Rd B r q (w.setCell ⟨r, 1, none⟩ (.int .i64 (q : Int))) := by
 obtain ⟨hB, a, len, cap, z, hr, hl, hc⟩ := h
 refine ⟨hB, a, len, cap, z, ?_, hl, ?_⟩
 ·simp [World.setCell, Array.getElem?_modify, hr]
 ·rcases hc with hc | ⟨b, off, ha, hbB, hc⟩
  ·exact .inl hc
  ·refine .inr ⟨b, off, ha, hbB, fun i hi => ⟨?_, (hc i hi).2⟩⟩
   have : (w.setCell ⟨r, 1, none⟩ (.int .i64 (q : Int))).cell? ⟨b, off + i, none⟩ = w.cell? ⟨b, off + i, none⟩ := by
    unfold World.cell?; rw [Below.heap_setCell _ _ _ _ (by show b ≠ r; omega)]
   rw [this]; exact (hc i hi).1
theorem setCell_grown (w : World) (r j : Nat) (v : Value) : w.grownBy (w.setCell ⟨r, j, none⟩ v) (some r) :=
 ⟨rfl, rfl, rfl, by simp [World.setCell], fun k _ hk => Below.heap_setCell _ _ _ _ (fun e => hk (by simp [e]))⟩
theorem grown_drewN {w w' : World} {row : Option Nat} (h : w.grownBy w' row) (n : Nat) : w.grownBy (w'.drewN n) row := ⟨h.os, h.tape, h.output, h.size, h.block⟩
theorem grown_drew {w w' : World} {row : Option Nat} (h : w.grownBy w' row) : w.grownBy w'.drew row := ⟨h.os, h.tape, h.output, h.size, h.block⟩
theorem grown_trans {a b c : World} {row : Option Nat} (h : a.grownBy b row) (k : b.grownBy c row) : a.grownBy c row :=
 ⟨k.os.trans h.os, k.tape.trans h.tape, k.output.trans h.output, Nat.le_trans h.size k.size, fun j hj hn => (k.block j (Nat.lt_of_lt_of_le hj h.size) hn).trans (h.block j hj hn)⟩
theorem grown_alloc {a b : World} {row : Option Nat} (h : a.grownBy b row) (o : Obj) : a.grownBy (b.alloc o) row := grown_trans h (World.grownBy_alloc b o row)
theorem below_grown {B r : Nat} {w w' : World} (h : w.grownBy w' (some r)) (hr : B ≤ r) (hB : B ≤ w.heap.size) : Below B w w' :=
 (Below.refl B w).grown h hB (fun k hk => by simp at hk; omega)
theorem OwnB.keptRd {B0 B r p : Nat} {v : Value} {l : List UInt8} {w w' : World} (h : OwnB B0 v l w) (hr : Rd B r p w) (hg : w.grownBy w' (some r)) : OwnB B0 v l w' := by
 obtain ⟨_, a, len, cap, z, hh, _⟩ := hr
 exact World.ownsRow.kept h hg (.inr (Lib.ownBlock_ne h hh (by decide)))
end Go.Proofs.YtnfhajhdpdidlaaGreatDoor
end
section
namespace Go.Proofs.YtnfhajhdpdidlaaGreatDoor
open Go.RowKit Go.Shelf
def IsRow (k : IntKind) (w : World) (a : Option Addr) (len cap : Nat) (zs : List Int) : Prop :=
 (a = none ∧ len = 0 ∧ cap = 0 ∧ zs = []) ∨
 ∃ x, a = some x ∧ len ≤ cap ∧ cap ≤ maxLen ∧ zs.length = cap ∧ (∀ i, i < zs.length → w.cell? (x.add i) = some (.int k (zs.getD i 0))) ∧ ∀ n ∈ zs, (Lit.int k n).wf = true
def Code (B : Nat) (w : World) (a : Option Addr) (len cap : Nat) : Prop :=
 len ≤ cap ∧ cap ≤ maxLen ∧ (len = 0 ∨ ∃ b off, a = some ⟨b, off, none⟩ ∧ b < B ∧ ∃ z : Nat → Int, ∀ i, i < len → w.cell? ⟨b, off + i, none⟩ = some (.int .u8 (z i)) ∧ 0 ≤ z i ∧ z i ≤ 255)
theorem addr_add_off (b off i : Nat) : (⟨b, off, none⟩ : Addr).add i = ⟨b, off + i, none⟩ := by unfold Addr.add; split <;> simp_all
theorem cellP_lt {w : World} {p : Addr} {v : Value} (h : w.cell? p = some v) : p.block < w.heap.size := by
 rcases Nat.lt_or_ge p.block w.heap.size with h' | h'
 ·exact h'
 ·simp [World.cell?, Array.getElem?_eq_none h'] at h
theorem code_of_row {w : World} {a : Option Addr} {len cap : Nat} {zs : List Int} (h : IsRow .u8 w a len cap zs) : Code w.heap.size w a len cap := by
 rcases h with ⟨rfl, rfl, rfl, rfl⟩ | ⟨x, rfl, hl, hm, hz, hc, hw⟩
 ·exact ⟨Nat.le_refl _, Nat.zero_le _, .inl rfl⟩
 ·refine ⟨hl, hm, ?_⟩
  by_cases h0 : len = 0
  ·exact .inl h0
  ·obtain ⟨b, off, spot⟩ := x
   have h1 := hc 0 (by omega)
   have hs : spot = none := by simpa [Addr.add] using World.cell?_spot h1
   subst hs
   have hlt : b < w.heap.size := by
    have := cellP_lt h1
    simpa [Addr.add] using this
   refine .inr ⟨b, off, rfl, hlt, fun i => zs.getD i 0, fun i hi => ⟨?_, ?_⟩⟩
   ·have := hc i (by omega)
    rwa [addr_add_off] at this
   ·have hwi := hw (zs.getD i 0) (by
     rw [List.getD_eq_getElem?_getD, List.getElem?_eq_getElem (by omega)]
     exact List.getElem_mem _)
    exact bounds_u8 hwi
theorem rd_new (B : Nat) (w : World) (a : Option Addr) (len cap : Nat) (hB : B ≤ w.heap.size) (hl : len ≤ 2000)
  (hc : len = 0 ∨ ∃ b off, a = some ⟨b, off, none⟩ ∧ b < B ∧ ∃ z : Nat → Int, ∀ i, i < len → w.cell? ⟨b, off + i, none⟩ = some (.int .u8 (z i)) ∧ 0 ≤ z i ∧ z i ≤ 255) :
  Rd B w.heap.size 0 (w.alloc (.cells #[.slice a len cap, .int .i64 0] 97)) := by
 rcases hc with hc | ⟨b, off, ha, hb, z, hc⟩
 ·exact ⟨hB, a, len, cap, fun _ => 0, heap_alloc_new w _, hl, .inl hc⟩
 ·refine ⟨hB, a, len, cap, z, heap_alloc_new w _, hl, .inr ⟨b, off, ha, hb, fun i hi => ⟨?_, (hc i hi).2⟩⟩⟩
  have : (w.alloc (.cells #[.slice a len cap, .int .i64 0] 97)).cell? ⟨b, off + i, none⟩ = w.cell? ⟨b, off + i, none⟩ := by
   unfold World.cell?; rw [Lib.alloc_old w _ b (by omega)]
  rw [this]; exact (hc i hi).1
theorem l1Open (B : Nat) (a : Option Addr) (len cap : Nat) (w : World) (hB : B ≤ w.heap.size) (h : Code B w a len cap) :
  Calls Tryz.prog 42 #[.slice a len cap] w fun e w' => e = .returned (.pointer (some ⟨w.heap.size, 0, none⟩)) ∧ Rd B w.heap.size 0 w' ∧ Below w.heap.size w w' := by
 obtain ⟨hl, hm, hc⟩ := h
 unfold maxLen at hm
 by_cases hg : len ≤ 2000
 ·have hgi : ¬ ((2000 : Int) < (len : Int)) := by omega
  have HR := rd_new B w a len cap hB hg hc
  have HR2 : Hid (Rd B w.heap.size 0 (w.alloc (.cells #[.slice a len cap, .int .i64 0] 97))) := HR
  clear HR hc
  go_enter Tryz.func42, Tryz.ntmps42
  go_wp2
  go_ret
  exact ⟨rfl, HR2.out, (Below.refl _ w).alloc (Nat.le_refl _) _⟩
 ·have hgi : (2000 : Int) < (len : Int) := by omega
  rcases hc with hc | ⟨b, off, rfl, hb, z, hc⟩
  ·omega
  have HR := rd_new B w (some ⟨b, off, none⟩) 2000 cap hB (Nat.le_refl _) (.inr ⟨b, off, rfl, hb, z, fun i hi => hc i (by omega)⟩)
  have HR2 : Hid (Rd B w.heap.size 0 (w.alloc (.cells #[.slice (some ⟨b, off, none⟩) 2000 cap, .int .i64 0] 97))) := HR
  clear HR hc
  have h1 : (2000 : Int) ≤ (cap : Int) := by omega
  have h2 : (2000 : Int) < (cap : Int) := by omega
  have h3 : 2000 ≤ cap := by omega
  go_enter Tryz.func42, Tryz.ntmps42
  go_wp2
  go_ret
  exact ⟨rfl, HR2.out, (Below.refl _ w).alloc (Nat.le_refl _) _⟩
end Go.Proofs.YtnfhajhdpdidlaaGreatDoor
end
section
namespace Go.Proofs.YtnfhajhdpdidlaaGreatDoor
open Go.RowKit Go.Shelf
structure Va (b : Nat) (q : P) (a : Option Addr) (n c : Nat) (W : World) : Prop where
 make ::
 bk : Blk b #[(.string q.sc), (.string q.us), (.string q.pw), (.int .i64 q.hk), (.string q.hn), (.int .i64 q.ha), (.int .i64 q.po), (.slice a n c), (.string q.op), (.bool q.hq), (.string q.qu), (.bool q.hf), (.string q.fr)] 31 W
 st : StrsOf a n q.ps W
theorem Va.later {b n c : Nat} {q : P} {a : Option Addr} {W W' : World} (h : Va b q a n c W) (d : Below W.heap.size W W') : Va b q a n c W' := ⟨h.bk.below d h.bk.lt, h.st.later d⟩
theorem Va.new {n c : Nat} {q : P} {a : Option Addr} (W : World) (s : StrsOf a n q.ps W) : Va W.heap.size q a n c (W.alloc (.cells #[(.string q.sc), (.string q.us), (.string q.pw), (.int .i64 q.hk), (.string q.hn), (.int .i64 q.ha), (.int .i64 q.po), (.slice a n c), (.string q.op), (.bool q.hq), (.string q.qu), (.bool q.hf), (.string q.fr)] 31)) := ⟨Blk.new W _ _, s.later ((Below.refl _ W).alloc (Nat.le_refl _) _)⟩
structure Wat (w W : World) : Prop where
 make ::
 le : Lean1 W
 bw : Below w.heap.size w W
theorem Wat.start {w : World} (h : Lean1 w) : Wat w w := ⟨h, Below.refl _ w⟩
theorem Wat.step {w W W' : World} (h : Wat w W) (d : Below W.heap.size W W') : Wat w W' := ⟨h.le.below d, h.bw.trans (d.mono h.bw.size)⟩
theorem below_new (W : World) (o : Obj) : Below W.heap.size W (W.alloc o) := (Below.refl _ W).alloc (Nat.le_refl _) _
theorem getI3 (s : ByteArray) (q : P) (ok : Bool) (n : Nat) (hq : q = getP s.data.toList) (hok : ok = getB s.data.toList) (hn : n = q.ps.length) (hs : s.size ≤ 1000000000) (W : World) (hW : Lean1 W) :
  Calls Tryz.prog 21 #[.string s] W fun e w' => ∃ a c, e = .returned (.tuple #[.agg #[(.string q.sc), (.string q.us), (.string q.pw), (.int .i64 q.hk), (.string q.hn), (.int .i64 q.ha), (.int .i64 q.po), (.slice a n c), (.string q.op), (.bool q.hq), (.string q.qu), (.bool q.hf), (.string q.fr)], .bool ok]) ∧ StrsOf a n q.ps w' ∧ Below W.heap.size W w' := by
 subst hq hok
 refine (implUrlGetL s W hW hs).mono ?_
 rintro e w' ⟨v, rfl, o, d⟩
 obtain ⟨a, c, hv, hc, s1⟩ := o.strs
 subst hv
 rw [hn]
 exact ⟨a, c, rfl, s1, d⟩
theorem OwnS.strsN {B n c : Nat} {a : Option Addr} {ps : List (List UInt8)} {w : World} (h : OwnS B (.slice a n c) ps w) (hn : n = ps.length) : StrsOf a n ps w := by
 obtain ⟨a1, c1, h1, h2, s1⟩ := h.strs
 rw [← hn] at h1 s1
 injection h1 with e1 e2 e3
 rw [← e1] at s1
 exact s1
theorem Va.put {B g n c : Nat} {q : P} {a : Option Addr} {W : World} {x0 x1 x2 x3 x4 x5 x6 x7 x8 x9 x10 x11 x12 : Value} (hz : Blk g #[x0, x1, x2, x3, x4, x5, x6, x7, x8, x9, x10, x11, x12] 31 W) (o : OwnS B (.slice a n c) q.ps W) (hB : g < B) (hn : n = q.ps.length) :
  Va g q a n c (((((((((((((W.setCell ⟨g, 0, none⟩ (.string q.sc)).setCell ⟨g, 1, none⟩ (.string q.us)).setCell ⟨g, 2, none⟩ (.string q.pw)).setCell ⟨g, 3, none⟩ (.int .i64 q.hk)).setCell ⟨g, 4, none⟩ (.string q.hn)).setCell ⟨g, 5, none⟩ (.int .i64 q.ha)).setCell ⟨g, 6, none⟩ (.int .i64 q.po)).setCell ⟨g, 7, none⟩ (.slice a n c)).setCell ⟨g, 8, none⟩ (.string q.op)).setCell ⟨g, 9, none⟩ (.bool q.hq)).setCell ⟨g, 10, none⟩ (.string q.qu)).setCell ⟨g, 11, none⟩ (.bool q.hf)).setCell ⟨g, 12, none⟩ (.string q.fr)) := ⟨Blk.put13 hz _ _ _ _ _ _ _ _ _ _ _ _ _, (OwnS.put13 o hB).strsN hn⟩
end Go.Proofs.YtnfhajhdpdidlaaGreatDoor
end
section
namespace Go.Proofs.YtnfhajhdpdidlaaGreatDoor
open Go.RowKit Go.Shelf
def orgV (q : P) : Array Value := if ownZ q.sc < 0 then #[.string ⟨#[]⟩, .int .i64 0, .string ⟨#[]⟩, .int .i64 0, .int .i64 0] else #[.string q.sc, .int .i64 q.hk, .string q.hn, .int .i64 q.ha, .int .i64 (if q.po < 0 then ownZ q.sc else q.po)]
def orgB (b : Bool) (q : P) : Array Value := if b = true then orgV q else #[.string ⟨#[]⟩, .int .i64 0, .string ⟨#[]⟩, .int .i64 0, .int .i64 0]
structure To (w : World) (A C : Array Value) (W : World) : Prop where
 make ::
 b1 : Blk w.heap.size A 31 W
 b2 : Blk (w.heap.size + 1) C 48 W
 bw : Below w.heap.size w W
theorem To.start (w : World) (A C : Array Value) : To w A C ((w.alloc (.cells A 31)).alloc (.cells C 48)) where
 b1 := Blk.alloc (Blk.new w _ _) _
 b2 := by
  have := Blk.new (w.alloc (.cells A 31)) C 48
  rw [show (w.alloc (Obj.cells A 31)).heap.size = w.heap.size + 1 by simp] at this
  exact this
 bw := ((Below.refl _ w).alloc (Nat.le_refl _) _).alloc (by simp) _
theorem To.later {w W W' : World} {A C : Array Value} (h : To w A C W) (b : Below W.heap.size W W') : To w A C W' := ⟨h.b1.below b h.b1.lt, h.b2.below b h.b2.lt, h.bw.trans (b.mono h.bw.size)⟩
theorem Blk.cells5 {g : Nat} {x0 x1 x2 x3 x4 : Value} {t : TypeId} {W : World} (h : Blk g #[x0, x1, x2, x3, x4] t W) :
  W.cell? ⟨g, 0, none⟩ = some x0 ∧ W.cell? ⟨g, 1, none⟩ = some x1 ∧ W.cell? ⟨g, 2, none⟩ = some x2 ∧ W.cell? ⟨g, 3, none⟩ = some x3 ∧ W.cell? ⟨g, 4, none⟩ = some x4 := ⟨h.cell 0, h.cell 1, h.cell 2, h.cell 3, h.cell 4⟩
theorem below_put5 {B g : Nat} {w W : World} (b : Below B w W) (hB : B ≤ g) (v0 v1 v2 v3 v4 : Value) : Below B w (((((W.setCell ⟨g, 0, none⟩ v0).setCell ⟨g, 1, none⟩ v1).setCell ⟨g, 2, none⟩ v2).setCell ⟨g, 3, none⟩ v3).setCell ⟨g, 4, none⟩ v4) :=
 ((((b.setCell (p := ⟨g, 0, none⟩) hB v0).setCell (p := ⟨g, 1, none⟩) hB v1).setCell (p := ⟨g, 2, none⟩) hB v2).setCell (p := ⟨g, 3, none⟩) hB v3).setCell (p := ⟨g, 4, none⟩) hB v4
theorem blk_put5 {k g : Nat} {A : Array Value} {t : TypeId} {W : World} (h : Blk k A t W) (hk : k ≠ g) (v0 v1 v2 v3 v4 : Value) : Blk k A t (((((W.setCell ⟨g, 0, none⟩ v0).setCell ⟨g, 1, none⟩ v1).setCell ⟨g, 2, none⟩ v2).setCell ⟨g, 3, none⟩ v3).setCell ⟨g, 4, none⟩ v4) :=
 ((((h.other g 0 v0 hk).other g 1 v1 hk).other g 2 v2 hk).other g 3 v3 hk).other g 4 v4 hk
def Sc (g : Nat) (q : P) (a : Option Addr) (n c : Nat) (W : World) : Prop := W.cell? ⟨g, 0, none⟩ = some (.string q.sc) ∧ W.cell? ⟨g, 1, none⟩ = some (.string q.us) ∧ W.cell? ⟨g, 2, none⟩ = some (.string q.pw) ∧ W.cell? ⟨g, 3, none⟩ = some (.int .i64 q.hk) ∧ W.cell? ⟨g, 4, none⟩ = some (.string q.hn) ∧ W.cell? ⟨g, 5, none⟩ = some (.int .i64 q.ha) ∧ W.cell? ⟨g, 6, none⟩ = some (.int .i64 q.po) ∧ W.cell? ⟨g, 7, none⟩ = some (.slice a n c) ∧ W.cell? ⟨g, 8, none⟩ = some (.string q.op) ∧ W.cell? ⟨g, 9, none⟩ = some (.bool q.hq) ∧ W.cell? ⟨g, 10, none⟩ = some (.string q.qu) ∧ W.cell? ⟨g, 11, none⟩ = some (.bool q.hf) ∧ W.cell? ⟨g, 12, none⟩ = some (.string q.fr)
theorem Sc.of {g n c : Nat} {q : P} {a : Option Addr} {W : World} {t : TypeId} (h : Blk g (q.cells (.slice a n c)) t W) : Sc g q a n c W := Blk.cells13a h
theorem x1 {α : Type} {l : List α} {i : Nat} (h : i < l.toArray.size) : l.toArray[i] = l[i]'(by simpa using h) := List.getElem_toArray h
theorem x2 {α : Type} {a : α} {l : List α} : (a :: l)[0] = a := rfl
theorem x3 {α : Type} {a : α} {l : List α} {i : Nat} (h : i + 1 < (a :: l).length) : (a :: l)[i + 1] = l[i]'(by simpa using h) := rfl
theorem x4 {α : Type} (l : List α) (i : Nat) (a : α) : l.toArray.setIfInBounds i a = (l.set i a).toArray := List.setIfInBounds_toArray ..
theorem x5 {α : Type} {x a : α} {l : List α} : (x :: l).set 0 a = a :: l := rfl
theorem x6 {α : Type} {x a : α} {l : List α} {n : Nat} : (x :: l).set (n + 1) a = x :: l.set n a := rfl
theorem tk {P : Program} {ops : Array Oper} {Q : Exit → Act → World → Prop} {md : Region.Mode} {S : World → Prop} (i : Nat) {oi : Oper} {v : Value} {fuel : Nat} {listed : Array Bool} {a : Act} {w : World} (hi : ops[i]? = some oi) (h3 : (Region.noSelect ops && Region.free md ops listed i && (Region.ready md ops listed).contains i) = true) (hQ : ∀ c a w, Q (.panic c) (a.put oi.dst v) w → Q (.panic c) a w) (hw : Region.wanted oi (yielded ops a.tmps) = true) (hy : ∀ w, S w → (execOp a.eval oi).run P w = .ok (.value v) w) (hS : S w) (h : wpAnyH P md ops Q S fuel (listed.setIfInBounds i true) (a.put oi.dst v) w) : wpAnyH P md ops Q S (fuel + 1) listed a w := by
 rw [Bool.and_eq_true, Bool.and_eq_true] at h3
 exact wpAnyH_take hi h3.1.1 h3.1.2 h3.2 hQ (Or.inl ⟨hw, hy⟩) hS h
theorem l4OriginNone (q : P) (a : Option Addr) (n c : Nat) (w : World) (ho : ownZ q.sc < 0) :
  Calls Tryz.prog 82 #[.agg (q.cells (.slice a n c))] w fun e w' => e = .returned (.agg #[.string ⟨#[]⟩, .int .i64 0, .string ⟨#[]⟩, .int .i64 0, .int .i64 0]) ∧ Below w.heap.size w w' := by
 have CO : Hid (∀ W, Calls Tryz.prog 62 #[.string q.sc] W fun e w' => e = .returned (.int .i64 (ownZ q.sc)) ∧ w' = W) := fun W => l3Own q.sc W
 obtain ⟨V, hV⟩ : ∃ V, V = (w.alloc (.cells (q.cells (.slice a n c)) 31)).alloc (.cells #[.string ⟨#[]⟩, .int .i64 0, .string ⟨#[]⟩, .int .i64 0, .int .i64 0] 48) := ⟨_, rfl⟩
 have H0 : Hid (To w (q.cells (.slice a n c)) #[.string ⟨#[]⟩, .int .i64 0, .string ⟨#[]⟩, .int .i64 0, .int .i64 0] V) := by show To _ _ _ _; rw [hV]; exact To.start w _ _
 unfold P.cells at *
 go_enter Tryz.func82, Tryz.ntmps82
 go_upto_region 1 with fail
 rw [← hV]
 clear hV
 have H1 := H0
 clear H0
 obtain ⟨k0, k1, k2, k3, k4, k5, k6, k7, k8, k9, k10, k11, k12⟩ := Blk.cells13a H1.out.b1
 obtain ⟨e0, e1, e2, e3, e4⟩ := Blk.cells5 H1.out.b2
 have fr := H1.out.b2.free
 go_wp2_with fail
 refine (CO.out _).mono ?_
 rintro e W9 ⟨rfl, hW⟩
 have hW2 := hW.symm
 subst hW2
 clear hW
 have HFIN : Hid (Below w.heap.size w (((((V.setCell ⟨w.heap.size + 1, 0, none⟩ (.string ⟨#[]⟩)).setCell ⟨w.heap.size + 1, 1, none⟩ (.int .i64 0)).setCell ⟨w.heap.size + 1, 2, none⟩ (.string ⟨#[]⟩)).setCell ⟨w.heap.size + 1, 3, none⟩ (.int .i64 0)).setCell ⟨w.heap.size + 1, 4, none⟩ (.int .i64 0))) := below_put5 H1.out.bw (by omega) _ _ _ _ _
 clear H1
 go_wp2
 exact bodyPost_ret (v := .agg #[.string ⟨#[]⟩, .int .i64 0, .string ⟨#[]⟩, .int .i64 0, .int .i64 0]) (by simp [results, Tryz.results82, go_sem, e0, e1, e2, e3, e4]) rfl ⟨rfl, HFIN.out⟩
theorem l4OriginOwn (q : P) (a : Option Addr) (n c : Nat) (w : World) (ho : ¬ ownZ q.sc < 0) (hp : q.po < 0) :
  Calls Tryz.prog 82 #[.agg (q.cells (.slice a n c))] w fun e w' => e = .returned (.agg #[.string q.sc, .int .i64 q.hk, .string q.hn, .int .i64 q.ha, .int .i64 (ownZ q.sc)]) ∧ Below w.heap.size w w' := by
 have CO : Hid (∀ W, Calls Tryz.prog 62 #[.string q.sc] W fun e w' => e = .returned (.int .i64 (ownZ q.sc)) ∧ w' = W) := fun W => l3Own q.sc W
 obtain ⟨V, hV⟩ : ∃ V, V = (w.alloc (.cells (q.cells (.slice a n c)) 31)).alloc (.cells #[.string ⟨#[]⟩, .int .i64 0, .string ⟨#[]⟩, .int .i64 0, .int .i64 0] 48) := ⟨_, rfl⟩
 have H0 : Hid (To w (q.cells (.slice a n c)) #[.string ⟨#[]⟩, .int .i64 0, .string ⟨#[]⟩, .int .i64 0, .int .i64 0] V) := by show To _ _ _ _; rw [hV]; exact To.start w _ _
 unfold P.cells at *
 go_enter Tryz.func82, Tryz.ntmps82
 go_upto_region 1 with fail
 rw [← hV]
 clear hV
 have H1 := H0
 clear H0
 obtain ⟨k0, k1, k2, k3, k4, k5, k6, k7, k8, k9, k10, k11, k12⟩ := Blk.cells13a H1.out.b1
 obtain ⟨e0, e1, e2, e3, e4⟩ := Blk.cells5 H1.out.b2
 have fr := H1.out.b2.free
 go_wp2_with fail
 refine (CO.out _).mono ?_
 rintro e W9 ⟨rfl, hW⟩
 have hW2 := hW.symm
 subst hW2
 clear hW
 go_wp2_with fail
 refine (CO.out _).mono ?_
 rintro e W9 ⟨rfl, hW⟩
 have hW2 := hW.symm
 subst hW2
 clear hW
 have HFIN : Hid (Below w.heap.size w (((((V.setCell ⟨w.heap.size + 1, 0, none⟩ (.string q.sc)).setCell ⟨w.heap.size + 1, 1, none⟩ (.int .i64 q.hk)).setCell ⟨w.heap.size + 1, 2, none⟩ (.string q.hn)).setCell ⟨w.heap.size + 1, 3, none⟩ (.int .i64 q.ha)).setCell ⟨w.heap.size + 1, 4, none⟩ (.int .i64 (ownZ q.sc)))) := below_put5 H1.out.bw (by omega) _ _ _ _ _
 clear H1
 go_wp2
 exact bodyPost_ret (v := .agg #[.string q.sc, .int .i64 q.hk, .string q.hn, .int .i64 q.ha, .int .i64 (ownZ q.sc)]) (by simp [results, Tryz.results82, go_sem, e0, e1, e2, e3, e4]) rfl ⟨rfl, HFIN.out⟩
theorem l4OriginPort (q : P) (a : Option Addr) (n c : Nat) (w : World) (ho : ¬ ownZ q.sc < 0) (hp : ¬ q.po < 0) :
  Calls Tryz.prog 82 #[.agg (q.cells (.slice a n c))] w fun e w' => e = .returned (.agg #[.string q.sc, .int .i64 q.hk, .string q.hn, .int .i64 q.ha, .int .i64 (q.po)]) ∧ Below w.heap.size w w' := by
 have CO : Hid (∀ W, Calls Tryz.prog 62 #[.string q.sc] W fun e w' => e = .returned (.int .i64 (ownZ q.sc)) ∧ w' = W) := fun W => l3Own q.sc W
 obtain ⟨V, hV⟩ : ∃ V, V = (w.alloc (.cells (q.cells (.slice a n c)) 31)).alloc (.cells #[.string ⟨#[]⟩, .int .i64 0, .string ⟨#[]⟩, .int .i64 0, .int .i64 0] 48) := ⟨_, rfl⟩
 have H0 : Hid (To w (q.cells (.slice a n c)) #[.string ⟨#[]⟩, .int .i64 0, .string ⟨#[]⟩, .int .i64 0, .int .i64 0] V) := by show To _ _ _ _; rw [hV]; exact To.start w _ _
 unfold P.cells at *
 go_enter Tryz.func82, Tryz.ntmps82
 go_upto_region 1 with fail
 rw [← hV]
 clear hV
 have H1 := H0
 clear H0
 obtain ⟨k0, k1, k2, k3, k4, k5, k6, k7, k8, k9, k10, k11, k12⟩ := Blk.cells13a H1.out.b1
 obtain ⟨e0, e1, e2, e3, e4⟩ := Blk.cells5 H1.out.b2
 have fr := H1.out.b2.free
 go_wp2_with fail
 refine (CO.out _).mono ?_
 rintro e W9 ⟨rfl, hW⟩
 have hW2 := hW.symm
 subst hW2
 clear hW
 have HFIN : Hid (Below w.heap.size w (((((V.setCell ⟨w.heap.size + 1, 0, none⟩ (.string q.sc)).setCell ⟨w.heap.size + 1, 1, none⟩ (.int .i64 q.hk)).setCell ⟨w.heap.size + 1, 2, none⟩ (.string q.hn)).setCell ⟨w.heap.size + 1, 3, none⟩ (.int .i64 q.ha)).setCell ⟨w.heap.size + 1, 4, none⟩ (.int .i64 (q.po)))) := below_put5 H1.out.bw (by omega) _ _ _ _ _
 clear H1
 go_wp2
 exact bodyPost_ret (v := .agg #[.string q.sc, .int .i64 q.hk, .string q.hn, .int .i64 q.ha, .int .i64 (q.po)]) (by simp [results, Tryz.results82, go_sem, e0, e1, e2, e3, e4]) rfl ⟨rfl, HFIN.out⟩
theorem l4Origin (q : P) (a : Option Addr) (n c : Nat) (w : World) :
  Calls Tryz.prog 82 #[.agg (q.cells (.slice a n c))] w fun e w' => e = .returned (.agg (orgV q)) ∧ Below w.heap.size w w' := by
 unfold orgV
 by_cases ho : ownZ q.sc < 0
 ·rw [if_pos ho]; exact l4OriginNone q a n c w ho
 ·rw [if_neg ho]
  by_cases hp : q.po < 0
  ·rw [if_pos hp]; exact l4OriginOwn q a n c w ho hp
  ·rw [if_neg hp]; exact l4OriginPort q a n c w ho hp
theorem orgV_shape (q : P) : ∃ s k t x p, orgV q = #[.string s, .int .i64 k, .string t, .int .i64 x, .int .i64 p] := by
 unfold orgV
 split <;> exact ⟨_, _, _, _, _, rfl⟩
theorem specOriginOf (q : P) (a : Option Addr) (n c : Nat) (w : World) (hS : StrsOf a n q.ps w) (hs : q.tot ≤ 1048576) (hpo : q.po ≤ 9223372036854775807) (b : Bool) (hb : b = true ↔ okP q) :
  Calls Tryz.prog 30 #[.agg (q.cells (.slice a n c))] w fun e w' => e = .returned (.agg (orgB b q)) ∧ Below w.heap.size w w' := by
 have CK : Hid (∀ W, Below w.heap.size w W → Calls Tryz.prog 31 #[.agg (q.cells (.slice a n c))] W fun e w' => e = .returned (.bool b) ∧ Below W.heap.size W w') := fun W d => specUrlOk q a n c W (hS.later d) hs hpo b hb
 obtain ⟨s, k, t, x, p, hv⟩ := orgV_shape q
 have CL : Hid (∀ W, Calls Tryz.prog 82 #[.agg (q.cells (.slice a n c))] W fun e w' => e = .returned (.agg #[.string s, .int .i64 k, .string t, .int .i64 x, .int .i64 p]) ∧ Below W.heap.size W w') := fun W => by rw [← hv]; exact l4Origin q a n c W
 unfold orgB
 rw [hv]
 clear hv
 cases b with
 | false =>
  rw [if_neg (by decide)]
  obtain ⟨V, hV⟩ : ∃ V, V = (w.alloc (.cells (q.cells (.slice a n c)) 31)).alloc (.cells #[.string ⟨#[]⟩, .int .i64 0, .string ⟨#[]⟩, .int .i64 0, .int .i64 0] 48) := ⟨_, rfl⟩
  have H0 : Hid (To w (q.cells (.slice a n c)) #[.string ⟨#[]⟩, .int .i64 0, .string ⟨#[]⟩, .int .i64 0, .int .i64 0] V) := by show To _ _ _ _; rw [hV]; exact To.start w _ _
  clear hS hs hpo hb CL
  unfold P.cells at *
  go_enter Tryz.func30, Tryz.ntmps30
  go_upto_region 1 with fail
  rw [← hV]
  clear hV
  obtain ⟨k0, k1, k2, k3, k4, k5, k6, k7, k8, k9, k10, k11, k12⟩ := Blk.cells13a H0.out.b1
  go_wp2_with fail
  refine (CK.out _ H0.out.bw).mono ?_
  rintro e W1 ⟨rfl, d1⟩
  have H1 : Hid (To w (q.cells (.slice a n c)) #[.string ⟨#[]⟩, .int .i64 0, .string ⟨#[]⟩, .int .i64 0, .int .i64 0] W1) := H0.out.later d1
  clear d1 H0 CK k0 k1 k2 k3 k4 k5 k6 k7 k8 k9 k10 k11 k12
  obtain ⟨e0, e1, e2, e3, e4⟩ := Blk.cells5 H1.out.b2
  have fr := H1.out.b2.free
  have HFIN : Hid (Below w.heap.size w (((((W1.setCell ⟨w.heap.size + 1, 0, none⟩ (.string ⟨#[]⟩)).setCell ⟨w.heap.size + 1, 1, none⟩ (.int .i64 0)).setCell ⟨w.heap.size + 1, 2, none⟩ (.string ⟨#[]⟩)).setCell ⟨w.heap.size + 1, 3, none⟩ (.int .i64 0)).setCell ⟨w.heap.size + 1, 4, none⟩ (.int .i64 0))) := below_put5 H1.out.bw (by omega) _ _ _ _ _
  clear H1
  go_wp2
  exact bodyPost_ret (v := .agg #[.string ⟨#[]⟩, .int .i64 0, .string ⟨#[]⟩, .int .i64 0, .int .i64 0]) (by simp [results, Tryz.results30, go_sem, e0, e1, e2, e3, e4]) rfl ⟨rfl, HFIN.out⟩
 | true =>
  rw [if_pos rfl]
  obtain ⟨V, hV⟩ : ∃ V, V = (w.alloc (.cells (q.cells (.slice a n c)) 31)).alloc (.cells #[.string ⟨#[]⟩, .int .i64 0, .string ⟨#[]⟩, .int .i64 0, .int .i64 0] 48) := ⟨_, rfl⟩
  have H0 : Hid (To w (q.cells (.slice a n c)) #[.string ⟨#[]⟩, .int .i64 0, .string ⟨#[]⟩, .int .i64 0, .int .i64 0] V) := by show To _ _ _ _; rw [hV]; exact To.start w _ _
  clear hS hs hpo hb
  unfold P.cells at *
  go_enter Tryz.func30, Tryz.ntmps30
  go_upto_region 1 with fail
  rw [← hV]
  clear hV
  obtain ⟨k0, k1, k2, k3, k4, k5, k6, k7, k8, k9, k10, k11, k12⟩ := Blk.cells13a H0.out.b1
  go_wp2_with fail
  refine (CK.out _ H0.out.bw).mono ?_
  rintro e W1 ⟨rfl, d1⟩
  have H1 : Hid (To w (q.cells (.slice a n c)) #[.string ⟨#[]⟩, .int .i64 0, .string ⟨#[]⟩, .int .i64 0, .int .i64 0] W1) := H0.out.later d1
  clear d1 H0 CK k0 k1 k2 k3 k4 k5 k6 k7 k8 k9 k10 k11 k12
  obtain ⟨k0, k1, k2, k3, k4, k5, k6, k7, k8, k9, k10, k11, k12⟩ := Blk.cells13a H1.out.b1
  go_wp2_with fail
  refine (CL.out _).mono ?_
  rintro e W2 ⟨rfl, d2⟩
  have H2 : Hid (To w (q.cells (.slice a n c)) #[.string ⟨#[]⟩, .int .i64 0, .string ⟨#[]⟩, .int .i64 0, .int .i64 0] W2) := H1.out.later d2
  clear d2 H1 CL k0 k1 k2 k3 k4 k5 k6 k7 k8 k9 k10 k11 k12
  have H1 := H2
  clear H2
  obtain ⟨e0, e1, e2, e3, e4⟩ := Blk.cells5 H1.out.b2
  have fr := H1.out.b2.free
  have HFIN : Hid (Below w.heap.size w (((((W2.setCell ⟨w.heap.size + 1, 0, none⟩ (.string s)).setCell ⟨w.heap.size + 1, 1, none⟩ (.int .i64 k)).setCell ⟨w.heap.size + 1, 2, none⟩ (.string t)).setCell ⟨w.heap.size + 1, 3, none⟩ (.int .i64 x)).setCell ⟨w.heap.size + 1, 4, none⟩ (.int .i64 p))) := below_put5 H1.out.bw (by omega) _ _ _ _ _
  clear H1
  go_wp2
  exact bodyPost_ret (v := .agg #[.string s, .int .i64 k, .string t, .int .i64 x, .int .i64 p]) (by simp [results, Tryz.results30, go_sem, e0, e1, e2, e3, e4]) rfl ⟨rfl, HFIN.out⟩
theorem implOriginNo (q : P) (a : Option Addr) (n c : Nat) (w : World) (hL : Lean1 w) (hS : StrsOf a n q.ps w) (hs : q.tot ≤ 1048576) (hpo : q.po ≤ 9223372036854775807) (hok : ¬ okP q) :
  Calls Tryz.prog 29 #[.agg (q.cells (.slice a n c))] w fun e w' => e = .returned (.agg #[.string ⟨#[]⟩, .int .i64 0, .string ⟨#[]⟩, .int .i64 0, .int .i64 0]) ∧ Below w.heap.size w w' := by
 obtain ⟨r, hr⟩ : ∃ r, r = getP (writL q) := ⟨_, rfl⟩
 have CA : Hid (∀ W, Below w.heap.size w W → Calls Tryz.prog 81 #[.agg (q.cells (.slice a n c))] W fun e w' => ∃ a2 n2 c2, e = .returned (.tuple #[.agg (r.cells (.slice a2 n2 c2)), .bool false]) ∧ Below W.heap.size W w') := fun W d => by
  refine (urlAgain q a n c W (hL.below d) (hS.later d) hs hpo false (by simp [hok])).mono ?_
  rintro e w' ⟨v, rfl, o, d2⟩
  rw [← hr] at o ⊢
  obtain ⟨a2, c2, hv, hc, s2⟩ := o.strs
  subst hv
  exact ⟨a2, _, c2, rfl, d2⟩
 obtain ⟨V, hV⟩ : ∃ V, V = (w.alloc (.cells (q.cells (.slice a n c)) 31)).alloc (.cells #[.string ⟨#[]⟩, .int .i64 0, .string ⟨#[]⟩, .int .i64 0, .int .i64 0] 48) := ⟨_, rfl⟩
 have H0 : Hid (To w (q.cells (.slice a n c)) #[.string ⟨#[]⟩, .int .i64 0, .string ⟨#[]⟩, .int .i64 0, .int .i64 0] V) := by show To _ _ _ _; rw [hV]; exact To.start w _ _
 clear hS hs hpo hok hL hr
 unfold P.cells at *
 go_enter Tryz.func29, Tryz.ntmps29
 go_upto_region 1 with fail
 rw [← hV]
 clear hV
 obtain ⟨k0, k1, k2, k3, k4, k5, k6, k7, k8, k9, k10, k11, k12⟩ := Blk.cells13a H0.out.b1
 go_wp2_with fail
 refine (CA.out _ H0.out.bw).mono ?_
 rintro e W1 ⟨a2, n2, c2, rfl, d1⟩
 have H2 : Hid (To w (q.cells (.slice a n c)) #[.string ⟨#[]⟩, .int .i64 0, .string ⟨#[]⟩, .int .i64 0, .int .i64 0] W1) := H0.out.later d1
 clear d1 H0 CA k0 k1 k2 k3 k4 k5 k6 k7 k8 k9 k10 k11 k12
 obtain ⟨V1, hV1⟩ : ∃ V, V = W1.alloc (.cells #[(.string r.sc), (.string r.us), (.string r.pw), (.int .i64 r.hk), (.string r.hn), (.int .i64 r.ha), (.int .i64 r.po), (.slice a2 n2 c2), (.string r.op), (.bool r.hq), (.string r.qu), (.bool r.hf), (.string r.fr)] 31) := ⟨_, rfl⟩
 have H1 : Hid (To w (q.cells (.slice a n c)) #[.string ⟨#[]⟩, .int .i64 0, .string ⟨#[]⟩, .int .i64 0, .int .i64 0] V1) := by show To _ _ _ _; rw [hV1]; exact H2.out.later ((Below.refl _ W1).alloc (Nat.le_refl _) _)
 clear H2
 go_upto_region 2 with fail
 rw [← hV1]
 clear hV1
 obtain ⟨e0, e1, e2, e3, e4⟩ := Blk.cells5 H1.out.b2
 have fr := H1.out.b2.free
 have HFIN : Hid (Below w.heap.size w (((((V1.setCell ⟨w.heap.size + 1, 0, none⟩ (.string ⟨#[]⟩)).setCell ⟨w.heap.size + 1, 1, none⟩ (.int .i64 0)).setCell ⟨w.heap.size + 1, 2, none⟩ (.string ⟨#[]⟩)).setCell ⟨w.heap.size + 1, 3, none⟩ (.int .i64 0)).setCell ⟨w.heap.size + 1, 4, none⟩ (.int .i64 0))) := below_put5 H1.out.bw (by omega) _ _ _ _ _
 clear H1
 go_wp2
 exact bodyPost_ret (v := .agg #[.string ⟨#[]⟩, .int .i64 0, .string ⟨#[]⟩, .int .i64 0, .int .i64 0]) (by simp [results, Tryz.results29, go_sem, e0, e1, e2, e3, e4]) rfl ⟨rfl, HFIN.out⟩
theorem implOriginNone (q : P) (a : Option Addr) (n c : Nat) (w : World) (hL : Lean1 w) (hS : StrsOf a n q.ps w) (hs : q.tot ≤ 1048576) (hpo : q.po ≤ 9223372036854775807) (hok : okP q) (ho : ownZ q.sc < 0) :
  Calls Tryz.prog 29 #[.agg (q.cells (.slice a n c))] w fun e w' => e = .returned (.agg #[.string ⟨#[]⟩, .int .i64 0, .string ⟨#[]⟩, .int .i64 0, .int .i64 0]) ∧ Below w.heap.size w w' := by
 have CA : Hid (∀ W, Below w.heap.size w W → Calls Tryz.prog 81 #[.agg (q.cells (.slice a n c))] W fun e w' => ∃ a2 c2, e = .returned (.tuple #[.agg (q.cells (.slice a2 n c2)), .bool true]) ∧ StrsOf a2 n q.ps w' ∧ Below W.heap.size W w') := fun W d => by
  refine (urlAgain q a n c W (hL.below d) (hS.later d) hs hpo true (by simp [hok])).mono ?_
  rintro e w' ⟨v, rfl, o, d2⟩
  rw [hok.2] at o ⊢
  obtain ⟨a2, c2, hv, hc, s2⟩ := o.strs
  rw [← hS.1] at hv s2
  subst hv
  exact ⟨a2, c2, rfl, s2, d2⟩
 have CH : Hid (∀ a2 c2 W, Calls Tryz.prog 67 #[.agg (q.cells (.slice a2 n c2))] W fun e w' => e = .returned (.bool false) ∧ Below W.heap.size W w') := fun a2 c2 W => by
  have := hasHost (q.u (.slice a2 n c2)) W
  rw [show decide (0 ≤ ownZ (q.u (.slice a2 n c2)).sc) = false from decide_eq_false (by show ¬ 0 ≤ ownZ q.sc; omega)] at this
  exact this
 obtain ⟨V, hV⟩ : ∃ V, V = (w.alloc (.cells (q.cells (.slice a n c)) 31)).alloc (.cells #[.string ⟨#[]⟩, .int .i64 0, .string ⟨#[]⟩, .int .i64 0, .int .i64 0] 48) := ⟨_, rfl⟩
 have H0 : Hid (To w (q.cells (.slice a n c)) #[.string ⟨#[]⟩, .int .i64 0, .string ⟨#[]⟩, .int .i64 0, .int .i64 0] V) := by show To _ _ _ _; rw [hV]; exact To.start w _ _
 clear hS hs hpo hok hL ho
 unfold P.cells at *
 go_enter Tryz.func29, Tryz.ntmps29
 go_upto_region 1 with fail
 rw [← hV]
 clear hV
 obtain ⟨k0, k1, k2, k3, k4, k5, k6, k7, k8, k9, k10, k11, k12⟩ := Blk.cells13a H0.out.b1
 go_wp2_with fail
 refine (CA.out _ H0.out.bw).mono ?_
 rintro e W1 ⟨a2, c2, rfl, s2, d1⟩
 have H2 : Hid (To w (q.cells (.slice a n c)) #[.string ⟨#[]⟩, .int .i64 0, .string ⟨#[]⟩, .int .i64 0, .int .i64 0] W1) := H0.out.later d1
 clear d1 H0 CA k0 k1 k2 k3 k4 k5 k6 k7 k8 k9 k10 k11 k12
 obtain ⟨V1, hV1⟩ : ∃ V, V = W1.alloc (.cells #[(.string q.sc), (.string q.us), (.string q.pw), (.int .i64 q.hk), (.string q.hn), (.int .i64 q.ha), (.int .i64 q.po), (.slice a2 n c2), (.string q.op), (.bool q.hq), (.string q.qu), (.bool q.hf), (.string q.fr)] 31) := ⟨_, rfl⟩
 have DV : Hid (Below W1.heap.size W1 V1) := by show Below _ _ _; rw [hV1]; exact (Below.refl _ W1).alloc (Nat.le_refl _) _
 have H1 : Hid (To w (q.cells (.slice a n c)) #[.string ⟨#[]⟩, .int .i64 0, .string ⟨#[]⟩, .int .i64 0, .int .i64 0] V1) := H2.out.later DV.out
 have HG : Hid (Blk W1.heap.size (q.cells (.slice a2 n c2)) 31 V1) := by show Blk _ _ _ _; rw [hV1]; exact Blk.new W1 _ _
 have HS1 : Hid (StrsOf a2 n q.ps V1) := s2.later DV.out
 have HGL : Hid (w.heap.size + 1 < W1.heap.size) := H2.out.b2.lt
 clear H2 s2 DV
 go_upto_region 2 with fail
 rw [← hV1]
 clear hV1
 generalize W1.heap.size = g at *
 obtain ⟨k0, k1, k2, k3, k4, k5, k6, k7, k8, k9, k10, k11, k12⟩ := Blk.cells13a HG.out
 go_wp2_with fail
 refine (CH.out a2 c2 _).mono ?_
 rintro e W3 ⟨rfl, d3⟩
 have H3 : Hid (To w (q.cells (.slice a n c)) #[.string ⟨#[]⟩, .int .i64 0, .string ⟨#[]⟩, .int .i64 0, .int .i64 0] W3) := H1.out.later d3
 have HG3 : Hid (Blk g (q.cells (.slice a2 n c2)) 31 W3) := HG.out.below d3 HG.out.lt
 have HS3 : Hid (StrsOf a2 n q.ps W3) := HS1.out.later d3
 clear d3 H1 HG HS1 CH k0 k1 k2 k3 k4 k5 k6 k7 k8 k9 k10 k11 k12
 have H1 := H3
 clear H3 HG3 HS3
 obtain ⟨e0, e1, e2, e3, e4⟩ := Blk.cells5 H1.out.b2
 have fr := H1.out.b2.free
 have HFIN : Hid (Below w.heap.size w (((((W3.setCell ⟨w.heap.size + 1, 0, none⟩ (.string ⟨#[]⟩)).setCell ⟨w.heap.size + 1, 1, none⟩ (.int .i64 0)).setCell ⟨w.heap.size + 1, 2, none⟩ (.string ⟨#[]⟩)).setCell ⟨w.heap.size + 1, 3, none⟩ (.int .i64 0)).setCell ⟨w.heap.size + 1, 4, none⟩ (.int .i64 0))) := below_put5 H1.out.bw (by omega) _ _ _ _ _
 clear H1
 go_wp2
 exact bodyPost_ret (v := .agg #[.string ⟨#[]⟩, .int .i64 0, .string ⟨#[]⟩, .int .i64 0, .int .i64 0]) (by simp [results, Tryz.results29, go_sem, e0, e1, e2, e3, e4]) rfl ⟨rfl, HFIN.out⟩
theorem implOriginYes (q : P) (a : Option Addr) (n c : Nat) (w : World) (hL : Lean1 w) (hS : StrsOf a n q.ps w) (hs : q.tot ≤ 1048576) (hpo : q.po ≤ 9223372036854775807) (hok : okP q) (ho : ¬ ownZ q.sc < 0) (t : Int) (ht : t = if q.po < 0 then ownZ q.sc else q.po) :
  Calls Tryz.prog 29 #[.agg (q.cells (.slice a n c))] w fun e w' => e = .returned (.agg #[.string q.sc, .int .i64 q.hk, .string q.hn, .int .i64 q.ha, .int .i64 t]) ∧ Below w.heap.size w w' := by
 have CA : Hid (∀ W, Below w.heap.size w W → Calls Tryz.prog 81 #[.agg (q.cells (.slice a n c))] W fun e w' => ∃ a2 c2, e = .returned (.tuple #[.agg (q.cells (.slice a2 n c2)), .bool true]) ∧ StrsOf a2 n q.ps w' ∧ Below W.heap.size W w') := fun W d => by
  refine (urlAgain q a n c W (hL.below d) (hS.later d) hs hpo true (by simp [hok])).mono ?_
  rintro e w' ⟨v, rfl, o, d2⟩
  rw [hok.2] at o ⊢
  obtain ⟨a2, c2, hv, hc, s2⟩ := o.strs
  rw [← hS.1] at hv s2
  subst hv
  exact ⟨a2, c2, rfl, s2, d2⟩
 have CH : Hid (∀ a2 c2 W, Calls Tryz.prog 67 #[.agg (q.cells (.slice a2 n c2))] W fun e w' => e = .returned (.bool true) ∧ Below W.heap.size W w') := fun a2 c2 W => by
  have := hasHost (q.u (.slice a2 n c2)) W
  rw [show decide (0 ≤ ownZ (q.u (.slice a2 n c2)).sc) = true from decide_eq_true (by show 0 ≤ ownZ q.sc; omega)] at this
  exact this
 have CP : Hid (∀ a2 c2 W, Below w.heap.size w W → StrsOf a2 n q.ps W → Calls Tryz.prog 15 #[.agg (q.cells (.slice a2 n c2))] W fun e w' => e = .returned (.int .i64 t) ∧ Below W.heap.size W w') := fun a2 c2 W d s => by
  have := implPortOf q a2 n c2 W (hL.below d) s hs hpo true (by simp [hok])
  rw [if_pos rfl, ← ht] at this
  exact this
 obtain ⟨V, hV⟩ : ∃ V, V = (w.alloc (.cells (q.cells (.slice a n c)) 31)).alloc (.cells #[.string ⟨#[]⟩, .int .i64 0, .string ⟨#[]⟩, .int .i64 0, .int .i64 0] 48) := ⟨_, rfl⟩
 have H0 : Hid (To w (q.cells (.slice a n c)) #[.string ⟨#[]⟩, .int .i64 0, .string ⟨#[]⟩, .int .i64 0, .int .i64 0] V) := by show To _ _ _ _; rw [hV]; exact To.start w _ _
 clear hS hs hpo hok hL ho ht
 unfold P.cells at *
 go_enter Tryz.func29, Tryz.ntmps29
 go_upto_region 1 with fail
 rw [← hV]
 clear hV
 obtain ⟨k0, k1, k2, k3, k4, k5, k6, k7, k8, k9, k10, k11, k12⟩ := Blk.cells13a H0.out.b1
 go_wp2_with fail
 refine (CA.out _ H0.out.bw).mono ?_
 rintro e W1 ⟨a2, c2, rfl, s2, d1⟩
 have H2 : Hid (To w (q.cells (.slice a n c)) #[.string ⟨#[]⟩, .int .i64 0, .string ⟨#[]⟩, .int .i64 0, .int .i64 0] W1) := H0.out.later d1
 clear d1 H0 CA k0 k1 k2 k3 k4 k5 k6 k7 k8 k9 k10 k11 k12
 obtain ⟨V1, hV1⟩ : ∃ V, V = W1.alloc (.cells #[(.string q.sc), (.string q.us), (.string q.pw), (.int .i64 q.hk), (.string q.hn), (.int .i64 q.ha), (.int .i64 q.po), (.slice a2 n c2), (.string q.op), (.bool q.hq), (.string q.qu), (.bool q.hf), (.string q.fr)] 31) := ⟨_, rfl⟩
 have DV : Hid (Below W1.heap.size W1 V1) := by show Below _ _ _; rw [hV1]; exact (Below.refl _ W1).alloc (Nat.le_refl _) _
 have H1 : Hid (To w (q.cells (.slice a n c)) #[.string ⟨#[]⟩, .int .i64 0, .string ⟨#[]⟩, .int .i64 0, .int .i64 0] V1) := H2.out.later DV.out
 have HG : Hid (Blk W1.heap.size (q.cells (.slice a2 n c2)) 31 V1) := by show Blk _ _ _ _; rw [hV1]; exact Blk.new W1 _ _
 have HS1 : Hid (StrsOf a2 n q.ps V1) := s2.later DV.out
 have HGL : Hid (w.heap.size + 1 < W1.heap.size) := H2.out.b2.lt
 clear H2 s2 DV
 go_upto_region 2 with fail
 rw [← hV1]
 clear hV1
 generalize W1.heap.size = g at *
 obtain ⟨k0, k1, k2, k3, k4, k5, k6, k7, k8, k9, k10, k11, k12⟩ := Blk.cells13a HG.out
 go_wp2_with fail
 refine (CH.out a2 c2 _).mono ?_
 rintro e W3 ⟨rfl, d3⟩
 have H3 : Hid (To w (q.cells (.slice a n c)) #[.string ⟨#[]⟩, .int .i64 0, .string ⟨#[]⟩, .int .i64 0, .int .i64 0] W3) := H1.out.later d3
 have HG3 : Hid (Blk g (q.cells (.slice a2 n c2)) 31 W3) := HG.out.below d3 HG.out.lt
 have HS3 : Hid (StrsOf a2 n q.ps W3) := HS1.out.later d3
 clear d3 H1 HG HS1 CH k0 k1 k2 k3 k4 k5 k6 k7 k8 k9 k10 k11 k12
 obtain ⟨k0, k1, k2, k3, k4, k5, k6, k7, k8, k9, k10, k11, k12⟩ := Blk.cells13a HG3.out
 obtain ⟨e0, e1, e2, e3, e4⟩ := Blk.cells5 H3.out.b2
 have fr := H3.out.b2.free
 have HGW : Hid (∀ W, Below W3.heap.size W3 W → Blk g (q.cells (.slice a2 n c2)) 31 W ∧ To w (q.cells (.slice a n c)) #[.string ⟨#[]⟩, .int .i64 0, .string ⟨#[]⟩, .int .i64 0, .int .i64 0] W) := fun W d => ⟨HG3.out.below d HG3.out.lt, H3.out.later d⟩
 have CP3 : Hid (∀ W, Below W3.heap.size W3 W → Calls Tryz.prog 15 #[.agg #[(.string q.sc), (.string q.us), (.string q.pw), (.int .i64 q.hk), (.string q.hn), (.int .i64 q.ha), (.int .i64 q.po), (.slice a2 n c2), (.string q.op), (.bool q.hq), (.string q.qu), (.bool q.hf), (.string q.fr)]] W fun e w' => e = .returned (.int .i64 t) ∧ Below W.heap.size W w') := fun W d => CP.out a2 c2 W (H3.out.later d).bw (HS3.out.later d)
 clear H3 HG3 HS3 CP k0 k1 k2 k3 k4 k5 k6 k7 k8 k9 k10 k11 k12 e0 e1 e2 e3 e4 fr
 go_wp2
 refine wp_region_held_drew (S := (fun W => Below w.heap.size w W ∧ Sc g q a2 n c2 W)) (by kernel_rfl) (⟨(HGW.out _ (Below.refl _ _).drew).2.bw, Sc.of (HGW.out _ (Below.refl _ _).drew).1⟩) (fun hHeld => ?_)
 refine tk 0 rfl (by kernel_rfl) (fun _ _ _ h => h) (by rfl) (fun w hSw => by (try dsimp only [Sc] at hSw); go_simp; try (with_reducible rfl)) (by assumption) ?_
 simp only [Act.put, x1, x2, x3, x4, x5, x6]
 refine tk 1 rfl (by kernel_rfl) (fun _ _ _ h => h) (by rfl) (fun w hSw => by (try dsimp only [Sc] at hSw); go_simp; try (with_reducible rfl)) (by assumption) ?_
 simp only [Act.put, x1, x2, x3, x4, x5, x6]
 refine tk 2 rfl (by kernel_rfl) (fun _ _ _ h => h) (by rfl) (fun w hSw => by (try dsimp only [Sc] at hSw); go_simp; try (with_reducible rfl)) (by assumption) ?_
 simp only [Act.put, x1, x2, x3, x4, x5, x6]
 refine tk 3 rfl (by kernel_rfl) (fun _ _ _ h => h) (by rfl) (fun w hSw => by (try dsimp only [Sc] at hSw); go_simp; try (with_reducible rfl)) (by assumption) ?_
 simp only [Act.put, x1, x2, x3, x4, x5, x6]
 refine tk 4 rfl (by kernel_rfl) (fun _ _ _ h => h) (by rfl) (fun w hSw => by (try dsimp only [Sc] at hSw); go_simp; try (with_reducible rfl)) (by assumption) ?_
 simp only [Act.put, x1, x2, x3, x4, x5, x6]
 refine wpAnyH_ready (rs := [5]) (by kernel_rfl) (by simp) ?_
 refine AllReadyH.cons (o := _) rfl (fun K hK => ?_) AllReadyH.nil
 go_simp
 refine (CP3.out _ ((Below.refl _ _).drew)).mono ?_
 rintro e W5 ⟨rfl, d5⟩
 have D5 : Hid (Below W3.heap.size W3 W5) := ((Below.refl _ W3).drew).trans d5
 have H5 := HGW.out _ D5.out
 obtain ⟨e0, e1, e2, e3, e4⟩ := Blk.cells5 H5.2.b2
 have fr := H5.2.b2.free
 refine hK.out _ _ (⟨H5.2.bw, Sc.of H5.1⟩) (fun hHeld => ?_)
 clear hK K
 try simp only [Act.put, x1, x2, x3, x4, x5, x6]
 refine tk 6 rfl (by kernel_rfl) (fun _ _ _ h => h) (by rfl) (fun w hSw => by (try dsimp only [Sc] at hSw); go_simp; try (with_reducible rfl)) (by assumption) ?_
 simp only [Act.put, x1, x2, x3, x4, x5, x6]
 refine wpAnyH_ready (rs := [7]) (by kernel_rfl) (by simp) ?_
 refine AllReadyH.cons (o := _) rfl (fun K hK => ?_) AllReadyH.nil
 go_simp
 skip
 refine hK.out _ _ (⟨below_put5 H5.2.bw (by omega) _ _ _ _ _, Sc.of (blk_put5 H5.1 (by have := HGL.out; omega) _ _ _ _ _)⟩) (fun hHeld => ?_)
 clear hK K
 try simp only [Act.put, x1, x2, x3, x4, x5, x6]
 refine wpAnyH_done (by kernel_rfl) ?_ _
 have HFIN : Hid (Below w.heap.size w (((((W5.setCell ⟨w.heap.size + 1, 0, none⟩ (.string q.sc)).setCell ⟨w.heap.size + 1, 1, none⟩ (.int .i64 q.hk)).setCell ⟨w.heap.size + 1, 2, none⟩ (.string q.hn)).setCell ⟨w.heap.size + 1, 3, none⟩ (.int .i64 q.ha)).setCell ⟨w.heap.size + 1, 4, none⟩ (.int .i64 t))) := below_put5 H5.2.bw (by omega) _ _ _ _ _
 clear H5 D5 hHeld HGW CP3
 go_wp2
 exact bodyPost_ret (v := .agg #[.string q.sc, .int .i64 q.hk, .string q.hn, .int .i64 q.ha, .int .i64 t]) (by simp [results, Tryz.results29, go_sem, e0, e1, e2, e3, e4]) rfl ⟨rfl, HFIN.out⟩
theorem implOriginOf (q : P) (a : Option Addr) (n c : Nat) (w : World) (hL : Lean1 w) (hS : StrsOf a n q.ps w) (hs : q.tot ≤ 1048576) (hpo : q.po ≤ 9223372036854775807) (b : Bool) (hb : b = true ↔ okP q) :
  Calls Tryz.prog 29 #[.agg (q.cells (.slice a n c))] w fun e w' => e = .returned (.agg (orgB b q)) ∧ Below w.heap.size w w' := by
 unfold orgB orgV
 by_cases hok : okP q
 ·rw [if_pos (hb.2 hok)]
  by_cases ho : ownZ q.sc < 0
  ·rw [if_pos ho]; exact implOriginNone q a n c w hL hS hs hpo hok ho
  ·rw [if_neg ho]; exact implOriginYes q a n c w hL hS hs hpo hok ho _ rfl
 ·rw [if_neg (fun h => hok (hb.1 h))]
  exact implOriginNo q a n c w hL hS hs hpo hok
end Go.Proofs.YtnfhajhdpdidlaaGreatDoor
end

/- The reader of a code: pick answers a number below what it is asked for, and turns nothing but the reader's place. A code that came in, and the reader that l1Open lays over it. An address in a variable; UrlGet and guUrl as the laws on addresses meet them. Plain facts: texts that no set changes; numbers and hosts that are written are read as themselves. -/
import Derived.Test.YtnfhajhdpdidlaaGreatDoorB01
import Derived.BigQuiet
import Derived.Deep.QuietTactic
import Derived.WalkSmall
import Derived.OpenShut
import Derived.Test.YtnfhajhdpdidlaaGreatDoorB36
import Derived.Test.YtnfhajhdpdidlaaGreatDoorB41
import Derived.Test.YtnfhajhdpdidlaaGreatDoorB22
import Derived.Test.YtnfhajhdpdidlaaGreatDoorB14
import Derived.Test.YtnfhajhdpdidlaaGreatDoorB13
set_option linter.unusedVariables false
set_option linter.unusedSimpArgs false
set_option maxHeartbeats 1000000
set_option maxRecDepth 100000
section
namespace Go.Proofs.YtnfhajhdpdidlaaGreatDoor
open Go.RowKit Go.Shelf
theorem i64_xor_nat (a b : Nat) (ha : a < 9223372036854775808) (hb : b < 9223372036854775808) : bits .xor .i64 (a : Int) (b : Int) = ((a ^^^ b : Nat) : Int) := by
 have hx : a ^^^ b < 2 ^ 63 := Nat.xor_lt_two_pow (by omega) (by omega)
 show IntKind.i64.wrap ((BitVec.ofInt 64 (a : Int) ^^^ BitVec.ofInt 64 (b : Int)).toNat : Int) = _
 have e1 : (BitVec.ofInt 64 (a : Int)).toNat = a := by rw [BitVec.toNat_ofInt]; omega
 have e2 : (BitVec.ofInt 64 (b : Int)).toNat = b := by rw [BitVec.toNat_ofInt]; omega
 rw [BitVec.toNat_xor, e1, e2, IntKind.wrap_i64]
 omega
theorem i64_xor_range (a b : Int) (h1 : 0 ≤ a) (h2 : a < 9223372036854775808) (h3 : 0 ≤ b) (h4 : b < 9223372036854775808) : ∃ n : Nat, bits .xor .i64 a b = (n : Int) ∧ n < 9223372036854775808 := by
 obtain ⟨A, rfl⟩ := Int.eq_ofNat_of_zero_le h1
 obtain ⟨C, rfl⟩ := Int.eq_ofNat_of_zero_le h3
 exact ⟨A ^^^ C, i64_xor_nat A C (by omega) (by omega), by have : A ^^^ C < 2 ^ 63 := Nat.xor_lt_two_pow (by omega) (by omega); omega⟩
def Rd (B r p : Nat) (w : World) : Prop :=
 B ≤ r ∧ ∃ a len cap, ∃ z : Nat → Int, w.heap[r]? = some (.cells #[.slice a len cap, .int .i64 (p : Int)] 97 (0, 0)) ∧ len ≤ 2000 ∧
  (len = 0 ∨ ∃ b off, a = some ⟨b, off, none⟩ ∧ b < B ∧ ∀ i, i < len → w.cell? ⟨b, off + i, none⟩ = some (.int .u8 (z i)) ∧ 0 ≤ z i ∧ z i ≤ 255)
theorem Rd.lt {B r p : Nat} {w : World} (h : Rd B r p w) : r < w.heap.size := by
 obtain ⟨_, a, len, cap, z, hr, _⟩ := h
 exact (Array.getElem?_eq_some_iff.1 hr).1
theorem Rd.stays {B r p : Nat} {w w' : World} (h : Rd B r p w) (hr' : w'.heap[r]? = w.heap[r]?) (hb : ∀ k, k < B → w'.heap[k]? = w.heap[k]?) : Rd B r p w' := by
 obtain ⟨hB, a, len, cap, z, hr, hl, hc⟩ := h
 refine ⟨hB, a, len, cap, z, hr'.trans hr, hl, ?_⟩
 rcases hc with hc | ⟨b, off, ha, hbB, hc⟩
 ·exact .inl hc
 ·refine .inr ⟨b, off, ha, hbB, fun i hi => ⟨?_, (hc i hi).2⟩⟩
  have : w'.cell? ⟨b, off + i, none⟩ = w.cell? ⟨b, off + i, none⟩ := by unfold World.cell?; rw [hb b hbB]
  rw [this]; exact (hc i hi).1
theorem Rd.put {B r p : Nat} {w : World} (h : Rd B r p w) (q : Nat) : Rd B r q (w.setCell ⟨r, 1, none⟩ (.int .i64 (q : Int))) := by
 obtain ⟨hB, a, len, cap, z, hr, hl, hc⟩ := h
 refine ⟨hB, a, len, cap, z, ?_, hl, ?_⟩
 ·simp [World.setCell, Array.getElem?_modify, hr]
 ·rcases hc with hc | ⟨b, off, ha, hbB, hc⟩
  ·exact .inl hc
  ·refine .inr ⟨b, off, ha, hbB, fun i hi => ⟨?_, (hc i hi).2⟩⟩
   have : (w.setCell ⟨r, 1, none⟩ (.int .i64 (q : Int))).cell? ⟨b, off + i, none⟩ = w.cell? ⟨b, off + i, none⟩ := by
    unfold World.cell?; rw [Below.heap_setCell _ _ _ _ (by show b ≠ r; omega)]
   rw [this]; exact (hc i hi).1
theorem setCell_grown (w : World) (r j : Nat) (v : Value) : w.grownBy (w.setCell ⟨r, j, none⟩ v) (some r) :=
 ⟨rfl, rfl, rfl, by simp [World.setCell], fun k _ hk => Below.heap_setCell _ _ _ _ (fun e => hk (by simp [e]))⟩
theorem grown_drewN {w w' : World} {row : Option Nat} (h : w.grownBy w' row) (n : Nat) : w.grownBy (w'.drewN n) row := ⟨h.os, h.tape, h.output, h.size, h.block⟩
theorem grown_drew {w w' : World} {row : Option Nat} (h : w.grownBy w' row) : w.grownBy w'.drew row := ⟨h.os, h.tape, h.output, h.size, h.block⟩
theorem grown_trans {a b c : World} {row : Option Nat} (h : a.grownBy b row) (k : b.grownBy c row) : a.grownBy c row :=
 ⟨k.os.trans h.os, k.tape.trans h.tape, k.output.trans h.output, Nat.le_trans h.size k.size, fun j hj hn => (k.block j (Nat.lt_of_lt_of_le hj h.size) hn).trans (h.block j hj hn)⟩
theorem grown_alloc {a b : World} {row : Option Nat} (h : a.grownBy b row) (o : Obj) : a.grownBy (b.alloc o) row := grown_trans h (World.grownBy_alloc b o row)
theorem below_grown {B r : Nat} {w w' : World} (h : w.grownBy w' (some r)) (hr : B ≤ r) (hB : B ≤ w.heap.size) : Below B w w' :=
 (Below.refl B w).grown h hB (fun k hk => by simp at hk; omega)
theorem OwnB.keptRd {B0 B r p : Nat} {v : Value} {l : List UInt8} {w w' : World} (h : OwnB B0 v l w) (hr : Rd B r p w) (hg : w.grownBy w' (some r)) : OwnB B0 v l w' := by
 obtain ⟨_, a, len, cap, z, hh, _⟩ := hr
 exact World.ownsRow.kept h hg (.inr (Lib.ownBlock_ne h hh (by decide)))
end Go.Proofs.YtnfhajhdpdidlaaGreatDoor
end
section
namespace Go.Proofs.YtnfhajhdpdidlaaGreatDoor
open Go.RowKit Go.Shelf
def IsRow (k : IntKind) (w : World) (a : Option Addr) (len cap : Nat) (zs : List Int) : Prop :=
 (a = none ∧ len = 0 ∧ cap = 0 ∧ zs = []) ∨
 ∃ x, a = some x ∧ len ≤ cap ∧ cap ≤ maxLen ∧ zs.length = cap ∧ (∀ i, i < zs.length → w.cell? (x.add i) = some (.int k (zs.getD i 0))) ∧ ∀ n ∈ zs, (Lit.int k n).wf = true
def Code (B : Nat) (w : World) (a : Option Addr) (len cap : Nat) : Prop :=
 len ≤ cap ∧ cap ≤ maxLen ∧ (len = 0 ∨ ∃ b off, a = some ⟨b, off, none⟩ ∧ b < B ∧ ∃ z : Nat → Int, ∀ i, i < len → w.cell? ⟨b, off + i, none⟩ = some (.int .u8 (z i)) ∧ 0 ≤ z i ∧ z i ≤ 255)
theorem addr_add_off (b off i : Nat) : (⟨b, off, none⟩ : Addr).add i = ⟨b, off + i, none⟩ := by unfold Addr.add; split <;> simp_all
theorem cellP_lt {w : World} {p : Addr} {v : Value} (h : w.cell? p = some v) : p.block < w.heap.size := by
 rcases Nat.lt_or_ge p.block w.heap.size with h' | h'
 ·exact h'
 ·simp [World.cell?, Array.getElem?_eq_none h'] at h
theorem code_of_row {w : World} {a : Option Addr} {len cap : Nat} {zs : List Int} (h : IsRow .u8 w a len cap zs) : Code w.heap.size w a len cap := by
 rcases h with ⟨rfl, rfl, rfl, rfl⟩ | ⟨x, rfl, hl, hm, hz, hc, hw⟩
 ·exact ⟨Nat.le_refl _, Nat.zero_le _, .inl rfl⟩
 ·refine ⟨hl, hm, ?_⟩
  by_cases h0 : len = 0
  ·exact .inl h0
  ·obtain ⟨b, off, spot⟩ := x
   have h1 := hc 0 (by omega)
   have hs : spot = none := by simpa [Addr.add] using World.cell?_spot h1
   subst hs
   have hlt : b < w.heap.size := by
    have := cellP_lt h1
    simpa [Addr.add] using this
   refine .inr ⟨b, off, rfl, hlt, fun i => zs.getD i 0, fun i hi => ⟨?_, ?_⟩⟩
   ·have := hc i (by omega)
    rwa [addr_add_off] at this
   ·have hwi := hw (zs.getD i 0) (by
     rw [List.getD_eq_getElem?_getD, List.getElem?_eq_getElem (by omega)]
     exact List.getElem_mem _)
    exact bounds_u8 hwi
theorem rd_new (B : Nat) (w : World) (a : Option Addr) (len cap : Nat) (hB : B ≤ w.heap.size) (hl : len ≤ 2000)
  (hc : len = 0 ∨ ∃ b off, a = some ⟨b, off, none⟩ ∧ b < B ∧ ∃ z : Nat → Int, ∀ i, i < len → w.cell? ⟨b, off + i, none⟩ = some (.int .u8 (z i)) ∧ 0 ≤ z i ∧ z i ≤ 255) :
  Rd B w.heap.size 0 (w.alloc (.cells #[.slice a len cap, .int .i64 0] 97)) := by
 rcases hc with hc | ⟨b, off, ha, hb, z, hc⟩
 ·exact ⟨hB, a, len, cap, fun _ => 0, heap_alloc_new w _, hl, .inl hc⟩
 ·refine ⟨hB, a, len, cap, z, heap_alloc_new w _, hl, .inr ⟨b, off, ha, hb, fun i hi => ⟨?_, (hc i hi).2⟩⟩⟩
  have : (w.alloc (.cells #[.slice a len cap, .int .i64 0] 97)).cell? ⟨b, off + i, none⟩ = w.cell? ⟨b, off + i, none⟩ := by
   unfold World.cell?; rw [Lib.alloc_old w _ b (by omega)]
  rw [this]; exact (hc i hi).1
theorem l1Open (B : Nat) (a : Option Addr) (len cap : Nat) (w : World) (hB : B ≤ w.heap.size) (h : Code B w a len cap) :
  Calls Tryz.prog 42 #[.slice a len cap] w fun e w' => e = .returned (.pointer (some ⟨w.heap.size, 0, none⟩)) ∧ Rd B w.heap.size 0 w' ∧ Below w.heap.size w w' := by
 obtain ⟨hl, hm, hc⟩ := h
 unfold maxLen at hm
 by_cases hg : len ≤ 2000
 ·have hgi : ¬ ((2000 : Int) < (len : Int)) := by omega
  have HR := rd_new B w a len cap hB hg hc
  have HR2 : Hid (Rd B w.heap.size 0 (w.alloc (.cells #[.slice a len cap, .int .i64 0] 97))) := HR
  clear HR hc
  go_enter Tryz.func42, Tryz.ntmps42
  go_wp2
  go_ret
  exact ⟨rfl, HR2.out, (Below.refl _ w).alloc (Nat.le_refl _) _⟩
 ·have hgi : (2000 : Int) < (len : Int) := by omega
  rcases hc with hc | ⟨b, off, rfl, hb, z, hc⟩
  ·omega
  have HR := rd_new B w (some ⟨b, off, none⟩) 2000 cap hB (Nat.le_refl _) (.inr ⟨b, off, rfl, hb, z, fun i hi => hc i (by omega)⟩)
  have HR2 : Hid (Rd B w.heap.size 0 (w.alloc (.cells #[.slice (some ⟨b, off, none⟩) 2000 cap, .int .i64 0] 97))) := HR
  clear HR hc
  have h1 : (2000 : Int) ≤ (cap : Int) := by omega
  have h2 : (2000 : Int) < (cap : Int) := by omega
  have h3 : 2000 ≤ cap := by omega
  go_enter Tryz.func42, Tryz.ntmps42
  go_wp2
  go_ret
  exact ⟨rfl, HR2.out, (Below.refl _ w).alloc (Nat.le_refl _) _⟩
end Go.Proofs.YtnfhajhdpdidlaaGreatDoor
end
section
namespace Go.Proofs.YtnfhajhdpdidlaaGreatDoor
open Go.RowKit Go.Shelf
structure Va (b : Nat) (q : P) (a : Option Addr) (n c : Nat) (W : World) : Prop where
 make ::
 bk : Blk b #[(.string q.sc), (.string q.us), (.string q.pw), (.int .i64 q.hk), (.string q.hn), (.int .i64 q.ha), (.int .i64 q.po), (.slice a n c), (.string q.op), (.bool q.hq), (.string q.qu), (.bool q.hf), (.string q.fr)] 31 W
 st : StrsOf a n q.ps W
theorem Va.later {b n c : Nat} {q : P} {a : Option Addr} {W W' : World} (h : Va b q a n c W) (d : Below W.heap.size W W') : Va b q a n c W' := ⟨h.bk.below d h.bk.lt, h.st.later d⟩
theorem Va.new {n c : Nat} {q : P} {a : Option Addr} (W : World) (s : StrsOf a n q.ps W) : Va W.heap.size q a n c (W.alloc (.cells #[(.string q.sc), (.string q.us), (.string q.pw), (.int .i64 q.hk), (.string q.hn), (.int .i64 q.ha), (.int .i64 q.po), (.slice a n c), (.string q.op), (.bool q.hq), (.string q.qu), (.bool q.hf), (.string q.fr)] 31)) := ⟨Blk.new W _ _, s.later ((Below.refl _ W).alloc (Nat.le_refl _) _)⟩
structure Wat (w W : World) : Prop where
 make ::
 le : Lean1 W
 bw : Below w.heap.size w W
theorem Wat.start {w : World} (h : Lean1 w) : Wat w w := ⟨h, Below.refl _ w⟩
theorem Wat.step {w W W' : World} (h : Wat w W) (d : Below W.heap.size W W') : Wat w W' := ⟨h.le.below d, h.bw.trans (d.mono h.bw.size)⟩
theorem below_new (W : World) (o : Obj) : Below W.heap.size W (W.alloc o) := (Below.refl _ W).alloc (Nat.le_refl _) _
theorem getI3 (s : ByteArray) (q : P) (ok : Bool) (n : Nat) (hq : q = getP s.data.toList) (hok : ok = getB s.data.toList) (hn : n = q.ps.length) (hs : s.size ≤ 1000000000) (W : World) (hW : Lean1 W) :
  Calls Tryz.prog 21 #[.string s] W fun e w' => ∃ a c, e = .returned (.tuple #[.agg #[(.string q.sc), (.string q.us), (.string q.pw), (.int .i64 q.hk), (.string q.hn), (.int .i64 q.ha), (.int .i64 q.po), (.slice a n c), (.string q.op), (.bool q.hq), (.string q.qu), (.bool q.hf), (.string q.fr)], .bool ok]) ∧ StrsOf a n q.ps w' ∧ Below W.heap.size W w' := by
 subst hq hok
 refine (implUrlGetL s W hW hs).mono ?_
 rintro e w' ⟨v, rfl, o, d⟩
 obtain ⟨a, c, hv, hc, s1⟩ := o.strs
 subst hv
 rw [hn]
 exact ⟨a, c, rfl, s1, d⟩
theorem OwnS.strsN {B n c : Nat} {a : Option Addr} {ps : List (List UInt8)} {w : World} (h : OwnS B (.slice a n c) ps w) (hn : n = ps.length) : StrsOf a n ps w := by
 obtain ⟨a1, c1, h1, h2, s1⟩ := h.strs
 rw [← hn] at h1 s1
 injection h1 with e1 e2 e3
 rw [← e1] at s1
 exact s1
theorem Va.put {B g n c : Nat} {q : P} {a : Option Addr} {W : World} {x0 x1 x2 x3 x4 x5 x6 x7 x8 x9 x10 x11 x12 : Value} (hz : Blk g #[x0, x1, x2, x3, x4, x5, x6, x7, x8, x9, x10, x11, x12] 31 W) (o : OwnS B (.slice a n c) q.ps W) (hB : g < B) (hn : n = q.ps.length) :
  Va g q a n c (((((((((((((W.setCell ⟨g, 0, none⟩ (.string q.sc)).setCell ⟨g, 1, none⟩ (.string q.us)).setCell ⟨g, 2, none⟩ (.string q.pw)).setCell ⟨g, 3, none⟩ (.int .i64 q.hk)).setCell ⟨g, 4, none⟩ (.string q.hn)).setCell ⟨g, 5, none⟩ (.int .i64 q.ha)).setCell ⟨g, 6, none⟩ (.int .i64 q.po)).setCell ⟨g, 7, none⟩ (.slice a n c)).setCell ⟨g, 8, none⟩ (.string q.op)).setCell ⟨g, 9, none⟩ (.bool q.hq)).setCell ⟨g, 10, none⟩ (.string q.qu)).setCell ⟨g, 11, none⟩ (.bool q.hf)).setCell ⟨g, 12, none⟩ (.string q.fr)) := ⟨Blk.put13 hz _ _ _ _ _ _ _ _ _ _ _ _ _, (OwnS.put13 o hB).strsN hn⟩
end Go.Proofs.YtnfhajhdpdidlaaGreatDoor
end
section
namespace Go.Proofs.YtnfhajhdpdidlaaGreatDoor
open Go.RowKit Go.Shelf
def clo (set : Int) (l : List UInt8) : Prop := ∀ c ∈ l, isIn set c = false
theorem set_cases (set : Int) (hs : 1 ≤ set ∧ set ≤ 5) : set = 1 ∨ set = 2 ∨ set = 3 ∨ set = 4 ∨ set = 5 := by omega
theorem fig_free (set : Int) (hs : 1 ≤ set ∧ set ≤ 5) (n : Nat) (hn : n < 16) : isIn set (fig n) = false := by
 have h : ∀ n : _root_.Fin 16, isIn 1 (fig n) = false ∧ isIn 2 (fig n) = false ∧ isIn 3 (fig n) = false ∧ isIn 4 (fig n) = false ∧ isIn 5 (fig n) = false := by decide
 have := h ⟨n, hn⟩
 rcases set_cases set hs with rfl | rfl | rfl | rfl | rfl
 ·exact this.1
 ·exact this.2.1
 ·exact this.2.2.1
 ·exact this.2.2.2.1
 ·exact this.2.2.2.2
theorem pct_free (set : Int) (hs : 1 ≤ set ∧ set ≤ 5) : isIn set 37 = false := by
 rcases set_cases set hs with rfl | rfl | rfl | rfl | rfl <;> decide
theorem enc_clo (set : Int) (hs : 1 ≤ set ∧ set ≤ 5) (l : List UInt8) : clo set (enc (isIn set) l) := by
 intro c hc
 unfold enc at hc
 rw [List.mem_flatMap] at hc
 obtain ⟨d, hd, hc⟩ := hc
 have hf := fig_shr d
 by_cases h : isIn set d = true
 ·rw [encB_yes _ _ h] at hc
  simp only [List.mem_cons, List.not_mem_nil, or_false] at hc
  rcases hc with rfl | rfl | rfl
  ·exact pct_free set hs
  ·exact fig_free set hs _ hf.1
  ·exact fig_free set hs _ hf.2
 ·have h' : isIn set d = false := by simpa using h
  rw [encB_no _ _ h'] at hc
  simp only [List.mem_cons, List.not_mem_nil, or_false] at hc
  rw [hc]; exact h'
theorem clo_enc (set : Int) (l : List UInt8) (h : clo set l) : enc (isIn set) l = l := by
 induction l with
 | nil => rfl
 | cons c r ih =>
  show encB (isIn set) c ++ enc (isIn set) r = c :: r
  rw [encB_no _ _ (h c (List.mem_cons_self ..)), ih (fun d hd => h d (List.mem_cons_of_mem _ hd))]
  rfl
theorem wr_small (set : Int) (l : List UInt8) (hl : l.length ≤ 200) : (wrT set l).data.toList = enc (isIn set) l := by
 unfold wrT
 rw [encode_small set (mk l) (by rw [mk_size]; exact hl), mk_data]
theorem wr_same (set : Int) (x : ByteArray) (h : clo set x.data.toList) (hl : x.data.toList.length ≤ 200) : wrT set x.data.toList = x := by
 have e := wr_small set x.data.toList hl
 rw [clo_enc set _ h] at e
 rw [← mk_list (wrT set x.data.toList), e, mk_list]
theorem wr_clo (set : Int) (hs : 1 ≤ set ∧ set ≤ 5) (l : List UInt8) (hl : l.length ≤ 200) : clo set (wrT set l).data.toList := by
 rw [wr_small set l hl]; exact enc_clo set hs l
theorem clo_ne {set : Int} {l : List UInt8} (h : clo set l) (b : UInt8) (hb : isIn set b = true) : ∀ c ∈ l, c ≠ b := by
 intro c hc e
 rw [e] at hc
 rw [h b hc] at hb
 cases hb
theorem clo_vis {set : Int} (hs : 1 ≤ set ∧ set ≤ 5) {l : List UInt8} (h : clo set l) : ∀ c ∈ l, 33 ≤ c.toNat := by
 intro c hc
 have h0 := h c hc
 have h32 : isIn set 32 = true := by rcases set_cases set hs with rfl | rfl | rfl | rfl | rfl <;> decide
 have hne := clo_ne h 32 h32 c hc
 unfold isIn at h0
 simp only [Bool.or_eq_false_iff, decide_eq_false_iff_not] at h0
 have : c.toNat ≠ 32 := fun e => hne (UInt8.toNat_inj.1 e)
 omega
theorem clo_nil (set : Int) : clo set [] := fun c hc => by cases hc
theorem dw_none (m : List UInt8) (h : ∀ c ∈ m, low32 c = false) : m.dropWhile low32 = m := by
 cases m with
 | nil => rfl
 | cons c r => rw [List.dropWhile_cons, if_neg (by rw [h c (List.mem_cons_self ..)]; decide)]
theorem trim_vis (l : List UInt8) (h : ∀ c ∈ l, 33 ≤ c.toNat) : trimL l = l := by
 have hl : ∀ c ∈ l, low32 c = false := fun c hc => by have := h c hc; unfold low32; simp; omega
 have hm : midL l = l := by
  unfold midL
  rw [dw_none l hl, dw_none l.reverse (fun c hc => hl c (List.mem_reverse.1 hc)), List.reverse_reverse]
 unfold trimL
 rw [hm]
 unfold dropT
 refine List.filter_eq_self.2 (fun c hc => ?_)
 have h1 := h c hc
 unfold stays
 have n1 : c ≠ 13 := fun e => by rw [e] at h1; revert h1; decide
 have n2 : c ≠ 10 := fun e => by rw [e] at h1; revert h1; decide
 have n3 : c ≠ 9 := fun e => by rw [e] at h1; revert h1; decide
 simp [n1, n2, n3]
theorem dd_small (u : Nat) (h : u < 10) : Lib.decDigits u = [UInt8.ofNat (48 + u)] := Lib.decDigits_one h
theorem dd_great (u : Nat) (h : ¬ u < 10) : Lib.decDigits u = Lib.decDigits (u / 10) ++ [UInt8.ofNat (48 + u % 10)] := by rw [Lib.decDigits, dif_neg h]
theorem ofNat48 (d : Nat) (h : d < 10) : (UInt8.ofNat (48 + d)).toNat = 48 + d := by
 rw [UInt8.toNat_ofNat_of_lt' (by show 48 + d < 256; omega)]
theorem dd_fig (u : Nat) : ∀ c ∈ Lib.decDigits u, 48 ≤ c.toNat ∧ c.toNat ≤ 57 := by
 induction u using Nat.strongRecOn with
 | _ u ih =>
  by_cases h : u < 10
  ·rw [dd_small u h]
   intro c hc
   simp only [List.mem_cons, List.not_mem_nil, or_false] at hc
   rw [hc, ofNat48 u h]; omega
  ·rw [dd_great u h]
   intro c hc
   rcases List.mem_append.1 hc with hc | hc
   ·exact ih (u / 10) (by omega) c hc
   ·simp only [List.mem_cons, List.not_mem_nil, or_false] at hc
    rw [hc, ofNat48 (u % 10) (by omega)]; omega
theorem dd_ne (u : Nat) : Lib.decDigits u ≠ [] := by
 by_cases h : u < 10
 ·rw [dd_small u h]; simp
 ·rw [dd_great u h]; simp
theorem portN_cons (n : Int) (c : UInt8) (r : List UInt8) : portN n (c :: r) = if 65535 < n * 10 + ((c.toNat : Int) - 48) then none else portN (n * 10 + ((c.toNat : Int) - 48)) r := rfl
theorem portN_app (l r : List UInt8) (n : Int) : portN n (l ++ r) = (portN n l).bind fun m => portN m r := by
 induction l generalizing n with
 | nil => rfl
 | cons c l ih =>
  rw [List.cons_append, portN_cons, portN_cons]
  split
  ·rfl
  ·exact ih _
theorem dd_port (u : Nat) (h : u ≤ 65535) : portN 0 (Lib.decDigits u) = some (u : Int) := by
 induction u using Nat.strongRecOn with
 | _ u ih =>
  by_cases h1 : u < 10
  ·rw [dd_small u h1]
   unfold portN
   rw [ofNat48 u h1, if_neg (by omega)]
   unfold portN
   congr 1
   omega
  ·rw [dd_great u h1, portN_app, ih (u / 10) (by omega) (by omega)]
   show portN ((u / 10 : Nat) : Int) [UInt8.ofNat (48 + u % 10)] = _
   unfold portN
   rw [ofNat48 (u % 10) (by omega), if_neg (by omega)]
   unfold portN
   congr 1
   omega
theorem figs_dd (u : Nat) : figsL (Lib.decDigits u) = true := by
 unfold figsL
 rw [List.all_eq_true]
 intro c hc
 have := dd_fig u c hc
 unfold figB
 simp
 omega
def dig3 (u : Nat) : List UInt8 := if u < 10 then [UInt8.ofNat (48 + u)] else if u < 100 then [UInt8.ofNat (48 + u / 10), UInt8.ofNat (48 + u % 10)] else [UInt8.ofNat (48 + u / 100), UInt8.ofNat (48 + u / 10 % 10), UInt8.ofNat (48 + u % 10)]
theorem dig3_eq (u : Nat) (h : u < 1000) : Lib.decDigits u = dig3 u := by
 unfold dig3
 by_cases h1 : u < 10
 ·rw [if_pos h1, dd_small u h1]
 ·by_cases h2 : u < 100
  ·rw [if_neg h1, if_pos h2, Lib.decDigits_two h1 h2]
  ·rw [if_neg h1, if_neg h2, dd_great u h1, Lib.decDigits_two (by omega) (by omega)]
   simp [Nat.div_div_eq_div_mul]
theorem part3 : ∀ u : _root_.Fin 256, partN (dig3 u.val) = some (u.val : Int) := by decide +kernel
theorem part_dg (v : Int) (h0 : 0 ≤ v) (h1 : v < 256) : partN (dg v) = some v := by
 unfold dg
 rw [dig3_eq _ (by omega)]
 have := part3 ⟨v.toNat, by omega⟩
 rw [this]
 congr 1
 show ((v.toNat : Nat) : Int) = v
 omega
end Go.Proofs.YtnfhajhdpdidlaaGreatDoor
end

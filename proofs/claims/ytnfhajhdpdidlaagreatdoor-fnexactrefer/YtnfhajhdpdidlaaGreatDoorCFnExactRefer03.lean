/- Plain facts: what is read is in normal form; so an address is ok just if it is, and is not too long. Plain facts: a path up to its last slash. impl.isOkWithHost, impl.PathOf. An address without its end; three blocks for addresses. -/
import Derived.Test.YtnfhajhdpdidlaaGreatDoorCFnExactRefer02
import Derived.Test.YtnfhajhdpdidlaaGreatDoorB41
import Derived.Lib.LastIndexByte
import Derived.Test.YtnfhajhdpdidlaaGreatDoorB42
import Derived.Test.YtnfhajhdpdidlaaGreatDoorB12
set_option linter.unusedVariables false
set_option linter.unusedSimpArgs false
set_option maxHeartbeats 4000000
set_option maxRecDepth 100000
section
namespace Go.Proofs.YtnfhajhdpdidlaaGreatDoor
open Go.RowKit Go.Shelf
theorem frag_shape (p : P) (l : List UInt8) (hl : l.length ≤ 200) (h1 : p.hf = false) (h2 : p.fr = ⟨#[]⟩) : ∃ c d, fragP p l = { p with hf := c, fr := d } ∧ ((c = true ∧ clo 3 d.data.toList) ∨ (c = false ∧ d = ⟨#[]⟩)) := by
 unfold fragP
 split
 ·refine ⟨true, _, rfl, .inl ⟨rfl, wr_clo 3 (by decide) _ (by rw [List.length_tail]; omega)⟩⟩
 ·refine ⟨false, ⟨#[]⟩, ?_, .inr ⟨rfl, rfl⟩⟩
  cases p; simp_all
theorem que_shape (p : P) (l : List UInt8) (hl : l.length ≤ 200) (h0 : p.hq = false) (h0' : p.qu = ⟨#[]⟩) (h1 : p.hf = false) (h2 : p.fr = ⟨#[]⟩) :
  ∃ a b c d, queP p l = { p with hq := a, qu := b, hf := c, fr := d } ∧ ((a = true ∧ clo 2 b.data.toList) ∨ (a = false ∧ b = ⟨#[]⟩)) ∧ ((c = true ∧ clo 3 d.data.toList) ∨ (c = false ∧ d = ⟨#[]⟩)) := by
 unfold queP
 have ht : l.tail.length ≤ 200 := by rw [List.length_tail]; omega
 split
 ·have hu : (upL [35] l.tail).length ≤ 200 := Nat.le_trans (upL_le _ _) ht
  obtain ⟨c, d, e, h⟩ := frag_shape ({ p with hq := true, qu := wrT 2 (upL [35] l.tail) }) (l.tail.drop (upL [35] l.tail).length) (by rw [List.length_drop]; omega) h1 h2
  exact ⟨true, wrT 2 (upL [35] l.tail), c, d, e, .inl ⟨rfl, wr_clo 2 (by decide) _ hu⟩, h⟩
 ·obtain ⟨c, d, e, h⟩ := frag_shape p l hl h1 h2
  refine ⟨false, ⟨#[]⟩, c, d, ?_, .inr ⟨rfl, rfl⟩, h⟩
  rw [e]
  cases p; simp_all
theorem nf_que (p : P) (l : List UInt8) (hl : l.length ≤ 200) (h0 : p.hq = false) (h0' : p.qu = ⟨#[]⟩) (h1 : p.hf = false) (h2 : p.fr = ⟨#[]⟩) (hs : schL p.sc.data.toList = true)
  (hm : (ownZ p.sc < 0 ∧ p.us = ⟨#[]⟩ ∧ p.pw = ⟨#[]⟩ ∧ p.hk = 0 ∧ p.hn = ⟨#[]⟩ ∧ p.ha = 0 ∧ p.po = -1 ∧ p.ps = [] ∧ clo 5 p.op.data.toList ∧ ∀ c ∈ p.op.data.toList, c ≠ 63 ∧ c ≠ 35) ∨
   (0 ≤ ownZ p.sc ∧ p.op = ⟨#[]⟩ ∧ clo 4 p.us.data.toList ∧ clo 4 p.pw.data.toList ∧ hostN p.hk p.hn p.ha ∧ (p.po = -1 ∨ (0 ≤ p.po ∧ p.po ≤ 65535 ∧ p.po ≠ ownZ p.sc)) ∧ p.ps ≠ [] ∧ ∀ x ∈ p.ps, fixP x)) : Nf (queP p l) := by
 obtain ⟨a, b, c, d, e, hq, hf⟩ := que_shape p l hl h0 h0' h1 h2
 rw [e]
 exact ⟨hs, hq, hf, hm⟩
theorem port_shape (l : List UInt8) (own : Int) (h : portB l own = true) : portV l own = -1 ∨ (0 ≤ portV l own ∧ portV l own ≤ 65535 ∧ portV l own ≠ own) := by
 by_cases hf : figsL l = true
 ·by_cases h0 : l = []
  ·rw [h0]; exact .inl (portL_empty own).1
  ·cases hn : portN 0 l with
   | none => rw [(portL_none l own hf h0 hn).2] at h; cases h
   | some n =>
    by_cases he : n = own
    ·rw [he] at hn; exact .inl (portL_own l own hf h0 hn).1
    ·rw [(portL_some l own n hf h0 hn he).1]
     have := portN_le l 0 n (by decide) (by decide) (figs_low l hf) hn
     exact .inr ⟨this.1, this.2, he⟩
 ·rw [(portL_nofig l own (by simpa using hf)).2] at h; cases h
theorem who_shape (p : P) (l : List UInt8) (hl : l.length ≤ 200) (h1 : p.us = ⟨#[]⟩) (h2 : p.pw = ⟨#[]⟩) : ∃ a b, whoP p l = { p with us := a, pw := b } ∧ clo 4 a.data.toList ∧ clo 4 b.data.toList := by
 unfold whoP
 cases h : atSplit l with
 | none =>
  refine ⟨⟨#[]⟩, ⟨#[]⟩, ?_, clo_nil 4, clo_nil 4⟩
  cases p; simp_all
 | some ab =>
  obtain ⟨a, b⟩ := ab
  have e := (at_some l a b h).1
  have ha : a.length ≤ 200 := by rw [e, List.length_append] at hl; omega
  refine ⟨_, _, rfl, wr_clo 4 (by decide) _ (Nat.le_trans (upL_le _ _) ha), wr_clo 4 (by decide) _ ?_⟩
  unfold behind
  rw [List.length_tail, List.length_drop]; omega
theorem nf_of_sch (t : List UInt8) (q : P) (hl : t.length ≤ 200) (h : schP P.zero t = some q) : Nf q := by
 unfold schP at h
 split at h
 ·rename_i hc
  obtain ⟨_, hs⟩ := hc
  obtain ⟨s, hsx⟩ : ∃ s, s = mk (low (upL [58] t)) := ⟨_, rfl⟩
  have hs' : schL s.data.toList = true := by rw [hsx, mk_data]; exact hs
  rw [← hsx] at h
  obtain ⟨m, hm⟩ : ∃ m, m = t.drop ((upL [58] t).length + 1) := ⟨_, rfl⟩
  have hml : m.length ≤ 200 := by rw [hm, List.length_drop]; omega
  rw [← hm] at h
  split at h
  ·rename_i ho
   unfold slaP hosP at h
   obtain ⟨k, hk⟩ : ∃ k, k = m.dropWhile (among [47, 92]) := ⟨_, rfl⟩
   have hkl : k.length ≤ 200 := by rw [hk]; exact Nat.le_trans (List.dropWhile_sublist _).length_le hml
   rw [← hk] at h
   rw [Option.map_eq_some_iff] at h
   obtain ⟨u, hu, he⟩ := h
   unfold autP at hu
   split at hu
   ·rename_i hb
    unfold autB at hb
    rw [Bool.and_eq_true] at hb
    have hu' : autQ { P.zero with sc := s, po := -1 } (upL [47, 92, 63, 35] k) = u := by simpa using hu
    have hal : (upL [47, 92, 63, 35] k).length ≤ 200 := Nat.le_trans (upL_le _ _) hkl
    obtain ⟨x, y, ew, cx, cy⟩ := who_shape ({ P.zero with sc := s, po := -1 }) (upL [47, 92, 63, 35] k) hal rfl rfl
    unfold autQ at hu'
    rw [ew] at hu'
    rw [← he]
    unfold patP
    have hdl : (k.drop (upL [47, 92, 63, 35] k).length).length ≤ 200 := by rw [List.length_drop]; omega
    have hpl : (upL [63, 35] (k.drop (upL [47, 92, 63, 35] k).length)).length ≤ 200 := Nat.le_trans (upL_le _ _) hdl
    subst hu'
    refine nf_que _ _ (by rw [List.length_drop]; omega) rfl rfl rfl rfl hs' (.inr ⟨ho, rfl, cx, cy, host_read _ hb.1, port_shape _ _ hb.2, path_ne _ hpl, path_fix _⟩)
   ·cases hu
  ·rename_i ho
   have h' : opqP { P.zero with sc := s, po := -1 } m = q := by simpa using h
   rw [← h']
   unfold opqP
   have hul : (upL [63, 35] m).length ≤ 200 := Nat.le_trans (upL_le _ _) hml
   refine nf_que _ _ (by rw [List.length_drop]; omega) rfl rfl rfl rfl hs' (.inl ⟨by show ownZ s < 0; omega, rfl, rfl, rfl, rfl, rfl, rfl, rfl, wr_clo 5 (by decide) _ hul, ?_⟩)
   intro c hc
   have hc' : c ∈ enc (isIn 5) (upL [63, 35] m) := by rw [← wr_small 5 _ hul]; exact hc
   unfold enc at hc'
   rw [List.mem_flatMap] at hc'
   obtain ⟨d, hd, hc'⟩ := hc'
   have hfree : among [63, 35] d = false := by
    rcases up_cases [63, 35] m with ⟨e, hh⟩ | ⟨a, x, b, e1, e2, hx, hh⟩
    ·rw [e] at hd; exact hh d hd
    ·rw [e2] at hd; exact hh d hd
   have hd2 : d ≠ 63 ∧ d ≠ 35 := by
    constructor
    ·intro e; rw [e] at hfree; revert hfree; decide
    ·intro e; rw [e] at hfree; revert hfree; decide
   have hfs := fig_shr d
   by_cases hi : isIn 5 d = true
   ·rw [encB_yes _ _ hi] at hc'
    simp only [List.mem_cons, List.not_mem_nil, or_false] at hc'
    have hfg : ∀ n : _root_.Fin 16, fig n.val ≠ 63 ∧ fig n.val ≠ 35 := by decide
    rcases hc' with rfl | rfl | rfl
    ·decide
    ·exact hfg ⟨_, hfs.1⟩
    ·exact hfg ⟨_, hfs.2⟩
   ·rw [encB_no _ _ (by simpa using hi)] at hc'
    simp only [List.mem_cons, List.not_mem_nil, or_false] at hc'
    rw [hc']; exact hd2
 ·cases h
theorem read_nf (l : List UInt8) (q : P) (h : getO l = some q) : Nf q ∧ l.length ≤ 200 ∧ q.ps.length ≤ 12 := by
 unfold getO at h
 split at h
 ·rename_i hl
  rw [Option.bind_eq_some_iff] at h
  obtain ⟨r, hr, h⟩ := h
  split at h
  ·rename_i hc
   have e : r = q := by simpa using h
   subst e
   exact ⟨nf_of_sch _ r (by have := trim_len l; omega) hr, hl, hc.1⟩
  ·cases h
 ·cases h
theorem ok_getO (q : P) : okP q ↔ getO (writL q) = some q := by
 unfold okP getB getP
 constructor
 ·rintro ⟨h1, h2⟩
  cases h : getO (writL q) with
  | none => rw [h] at h1; cases h1
  | some r => rw [h] at h2; exact congrArg some h2
 ·intro h
  rw [h]; exact ⟨rfl, rfl⟩
theorem ok_iff (q : P) : okP q ↔ Nf q ∧ (writL q).length ≤ 200 ∧ q.ps.length ≤ 12 := by
 rw [ok_getO]
 exact ⟨fun h => read_nf _ q h, fun h => nf_read q h.1 h.2.1 h.2.2⟩
end Go.Proofs.YtnfhajhdpdidlaaGreatDoor
end
section
namespace Go.Proofs.YtnfhajhdpdidlaaGreatDoor
open Go.RowKit Go.Shelf
def cutK (s : ByteArray) : Nat := max (Lib.lastIndexByte s 47).toNat 1
def pofT (b : Bool) (l : List UInt8) : ByteArray := if b = true then (mk l).extract 0 (cutK (mk l)) else ⟨#[47]⟩
theorem bang_get (s : ByteArray) (j : Nat) (hj : j < s.size) : s.data[j]! = s[j] := by
 rw [ByteArray.getElem_eq_getElem_data]
 exact getElem!_pos _ _ _
theorem b47_iff (c : UInt8) : ((c.toNat : Int) = 47) ↔ c = 47 := by
 constructor
 ·intro e; apply UInt8.toNat_inj.1; show c.toNat = 47; omega
 ·intro e; rw [e]; rfl
theorem last_here (s : ByteArray) (k : Nat) (hk : k < s.size) (h : s[k] = 47) (hn : ∀ j, k < j → (hj : j < s.size) → s[j] ≠ 47) : Lib.lastIndexByte s 47 = k := by
 rcases Lib.lastIndexByte_spec s 47 with ⟨_, h2⟩ | ⟨i, hi, e, hc, h2⟩
 ·exact absurd ((b47_iff _).2 h) (by rw [← bang_get s k hk]; exact h2 k hk)
 ·rw [e]
  rcases Nat.lt_trichotomy i k with hlt | heq | hgt
  ·exact absurd ((b47_iff _).2 h) (by rw [← bang_get s k hk]; exact h2 k hlt hk)
  ·rw [heq]
  ·rw [bang_get s i hi] at hc
   exact absurd ((b47_iff _).1 hc) (hn i hgt hi)
theorem put_first (ps : List (List UInt8)) (h : ps ≠ []) : ∃ r, putL ps = 47 :: r := by
 cases ps with
 | nil => exact absurd rfl h
 | cons p ps => exact ⟨p ++ putL ps, rfl⟩
theorem ext_slash (s : ByteArray) (h : 0 < s.size) (h0 : s[0] = 47) : s.extract 0 1 = ⟨#[47]⟩ := by
 apply ByteArray.ext
 rw [ByteArray.data_extract]
 apply Array.ext'
 have hl : s.data.toList.length = s.size := by simp
 rw [Array.toList_extract, List.extract_eq_take_drop]
 cases hx : s.data.toList with
 | nil => rw [hx] at hl; simp at hl; omega
 | cons c r =>
  have : s[0] = c := by
   rw [ByteArray.getElem_eq_getElem_data]
   have := Array.getElem_toList (xs := s.data) (i := 0) (by simpa using h)
   rw [← this]; simp [hx]
  rw [← this, h0]; rfl
theorem cut_zero (s : ByteArray) (h0 : 0 < s.size) (h : s[0] = 47) (hn : ∀ j, 0 < j → (hj : j < s.size) → s[j] ≠ 47) : s.extract 0 (cutK s) = ⟨#[47]⟩ := by
 unfold cutK
 rw [last_here s 0 h0 h hn]
 exact ext_slash s h0 h
theorem cut_more (s : ByteArray) (k : Nat) (hk : k + 1 < s.size) (h : s[k + 1] = 47) (hn : ∀ j, k + 1 < j → (hj : j < s.size) → s[j] ≠ 47) : cutK s = k + 1 := by
 unfold cutK
 rw [last_here s (k + 1) hk h hn]
 omega
theorem last_cases (s : ByteArray) (h0 : 0 < s.size) (h : s[0] = 47) : (∃ k : Nat, k < s.size ∧ Lib.lastIndexByte s 47 = k) := by
 rcases Lib.lastIndexByte_spec s 47 with ⟨_, h2⟩ | ⟨i, hi, e, hc, h2⟩
 ·exact absurd ((b47_iff _).2 h) (by rw [← bang_get s 0 h0]; exact h2 0 h0)
 ·exact ⟨i, hi, e⟩
theorem mk_first (l r : List UInt8) (h : l = 47 :: r) : ∃ h0 : 0 < (mk l).size, (mk l)[0] = 47 := by
 subst h
 exact ⟨by rw [mk_size]; simp, rfl⟩
theorem ok_host (q : P) (h : okP q) : (ownZ q.sc < 0 ↔ q.hk = 0) ∧ (0 ≤ ownZ q.sc → q.ps ≠ []) := by
 rcases ((ok_iff q).1 h).1.main with ⟨h0, _, _, hk, _⟩ | ⟨h0, _, _, _, hh, _, hp, _⟩
 ·exact ⟨⟨fun _ => hk, fun _ => h0⟩, fun h => by omega⟩
 ·refine ⟨⟨fun h => by omega, fun e => ?_⟩, fun _ => hp⟩
  rcases hh with hh | ⟨hh, _⟩
  ·have := (named_facts hh).1; omega
  ·omega
end Go.Proofs.YtnfhajhdpdidlaaGreatDoor
end
section
namespace Go.Proofs.YtnfhajhdpdidlaaGreatDoor
open Go.RowKit Go.Shelf
theorem hasHost_is (q : P) (v : Value) (b : Bool) (hb : b = true ↔ 0 ≤ ownZ q.sc) (W : World) :
  Calls Tryz.prog 67 #[.agg (q.cells v)] W fun e w' => e = .returned (.bool b) ∧ Below W.heap.size W w' := by
 have := hasHost (q.u v) W
 rw [show decide (0 ≤ ownZ (q.u v).sc) = b from by cases b with
  | true => exact decide_eq_true (hb.1 rfl)
  | false => exact decide_eq_false (fun h => by have := hb.2 h; cases this)] at this
 exact this
theorem isOkHost (q : P) (a : Option Addr) (n c : Nat) (w : World) (hL : Lean1 w) (hS : StrsOf a n q.ps w) (hs : q.tot ≤ 1048576) (hpo : q.po ≤ 9223372036854775807) (b : Bool) (hb : b = true ↔ (okP q ∧ 0 ≤ ownZ q.sc)) :
  Calls Tryz.prog 37 #[.agg (q.cells (.slice a n c))] w fun e w' => e = .returned (.bool b) ∧ Below w.heap.size w w' := by
 have H0 : Hid (Wp w q (.slice a n c) (w.alloc (.cells #[(.string q.sc), (.string q.us), (.string q.pw), (.int .i64 q.hk), (.string q.hn), (.int .i64 q.ha), (.int .i64 q.po), (.slice a n c), (.string q.op), (.bool q.hq), (.string q.qu), (.bool q.hf), (.string q.fr)] 31))) := Wp.start w q _
 by_cases ho : 0 ≤ ownZ q.sc
 ·have CK : Hid (∀ W, Below w.heap.size w W → Calls Tryz.prog 43 #[.agg (q.cells (.slice a n c))] W fun e w' => e = .returned (.bool b) ∧ Below W.heap.size W w') := fun W d => implUrlOk q a n c W (hL.below d) (hS.later d) hs hpo b (by rw [hb]; exact ⟨fun h => h.1, fun h => ⟨h, ho⟩⟩)
  have CH : Hid (∀ W, Calls Tryz.prog 67 #[.agg (q.cells (.slice a n c))] W fun e w' => e = .returned (.bool true) ∧ Below W.heap.size W w') := hasHost_is q _ true (by simp [ho])
  clear hS hs hpo hb hL ho
  unfold P.cells at *
  go_enter Tryz.func37, Tryz.ntmps37
  go_wp2_with fail
  refine (CH.out _).mono ?_
  rintro e W1 ⟨rfl, d1⟩
  have HX1 : Hid (Wp w q (.slice a n c) W1) := H0.out.later d1
  clear d1 H0 CH
  obtain ⟨k0, k1, k2, k3, k4, k5, k6, k7, k8, k9, k10, k11, k12⟩ := Blk.cells13 (q := q) HX1.out.bx
  go_wp2_with fail
  refine (CK.out _ HX1.out.bw).mono ?_
  rintro e W2 ⟨rfl, d2⟩
  have HX2 : Hid (Below w.heap.size w W2) := HX1.out.bw.trans (d2.mono HX1.out.bw.size)
  go_wp2
  go_ret
  exact ⟨rfl, HX2.out⟩
 ·have hbf : b = false := by
   cases b with
   | true => exact absurd (hb.1 rfl).2 ho
   | false => rfl
  subst hbf
  have CH : Hid (∀ W, Calls Tryz.prog 67 #[.agg (q.cells (.slice a n c))] W fun e w' => e = .returned (.bool false) ∧ Below W.heap.size W w') := hasHost_is q _ false (by simp [ho])
  clear hS hs hpo hb hL ho
  unfold P.cells at *
  go_enter Tryz.func37, Tryz.ntmps37
  go_wp2_with fail
  refine (CH.out _).mono ?_
  rintro e W1 ⟨rfl, d1⟩
  have HX1 : Hid (Wp w q (.slice a n c) W1) := H0.out.later d1
  clear d1 H0 CH
  go_wp2
  go_ret
  exact ⟨rfl, HX1.out.bw⟩
theorem implPathOf (q : P) (a : Option Addr) (n c : Nat) (w : World) (hL : Lean1 w) (hS : StrsOf a n q.ps w) (hs : q.tot ≤ 1048576) (hpo : q.po ≤ 9223372036854775807) (b : Bool) (hb : b = true ↔ (okP q ∧ 0 ≤ ownZ q.sc)) :
  Calls Tryz.prog 12 #[.agg (q.cells (.slice a n c))] w fun e w' => e = .returned (.string (pofT b (putL q.ps))) ∧ Below w.heap.size w w' := by
 have H0 : Hid (Wp w q (.slice a n c) (w.alloc (.cells #[(.string q.sc), (.string q.us), (.string q.pw), (.int .i64 q.hk), (.string q.hn), (.int .i64 q.ha), (.int .i64 q.po), (.slice a n c), (.string q.op), (.bool q.hq), (.string q.qu), (.bool q.hf), (.string q.fr)] 31))) := Wp.start w q _
 have CK : Hid (∀ W, Below w.heap.size w W → Calls Tryz.prog 37 #[.agg #[(.string q.sc), (.string q.us), (.string q.pw), (.int .i64 q.hk), (.string q.hn), (.int .i64 q.ha), (.int .i64 q.po), (.slice a n c), (.string q.op), (.bool q.hq), (.string q.qu), (.bool q.hf), (.string q.fr)]] W fun e w' => e = .returned (.bool b) ∧ Below W.heap.size W w') := fun W d => isOkHost q a n c W (hL.below d) (hS.later d) hs hpo b hb
 cases b with
 | false =>
  unfold pofT
  rw [if_neg (by decide)]
  clear hS hs hpo hb hL
  unfold P.cells at *
  go_enter Tryz.func12, Tryz.ntmps12
  go_wp2_with fail
  refine (CK.out _ H0.out.bw).mono ?_
  rintro e W1 ⟨rfl, d1⟩
  have HX1 : Hid (Wp w q (.slice a n c) W1) := H0.out.later d1
  go_wp2
  go_ret
  exact ⟨rfl, HX1.out.bw⟩
 | true =>
  unfold pofT
  rw [if_pos rfl]
  obtain ⟨hok, ho⟩ := hb.1 rfl
  obtain ⟨r, hr⟩ := put_first q.ps ((ok_host q hok).2 ho)
  obtain ⟨z0, z1⟩ := mk_first _ r hr
  have hpl := putL_len q.ps
  have htl : q.ps.length + tot q.ps ≤ 1048576 := by unfold P.tot at hs; omega
  have CP : Hid (∀ W, Below w.heap.size w W → Calls Tryz.prog 16 #[.slice a n c] W fun e w' => e = .returned (.string (mk (putL q.ps))) ∧ Below W.heap.size W w') := fun W d => implPathPut a n c q.ps W (hS.later d) (by omega)
  have hsz : (mk (putL q.ps)).size ≤ 1048576 := by rw [mk_size]; omega
  unfold cutK
  generalize mk (putL q.ps) = s at *
  obtain ⟨k, hk, hkl⟩ := last_cases s z0 z1
  have CL : Hid (∀ W, Calls Tryz.prog 38 #[.string s, .int .u8 47] W fun e w' => e = .returned (.int .i64 (k : Int)) ∧ w' = W) := fun W => by rw [← hkl]; exact Tryz.strings_LastIndexByte s 47 (by omega) W
  rw [hkl]
  have hm : max (k : Int).toNat 1 = max k 1 := by rw [Int.toNat_natCast]
  rw [hm]
  clear hS hs hpo hb hL hok ho hr hkl hpl htl hm z1
  unfold P.cells at *
  go_enter Tryz.func12, Tryz.ntmps12
  go_wp2_with fail
  refine (CK.out _ H0.out.bw).mono ?_
  rintro e W1 ⟨rfl, d1⟩
  have HX1 : Hid (Wp w q (.slice a n c) W1) := H0.out.later d1
  clear d1 H0 CK
  obtain ⟨k0, k1, k2, k3, k4, k5, k6, k7, k8, k9, k10, k11, k12⟩ := Blk.cells13 (q := q) HX1.out.bx
  go_wp2_with fail
  refine (CP.out _ HX1.out.bw).mono ?_
  rintro e W2 ⟨rfl, d2⟩
  have HX2 : Hid (Below w.heap.size w W2) := HX1.out.bw.trans (d2.mono HX1.out.bw.size)
  clear d2 HX1 CP k0 k1 k2 k3 k4 k5 k6 k7 k8 k9 k10 k11 k12
  go_wp2_with fail
  refine (CL.out _).mono ?_
  rintro e W3 ⟨rfl, hW⟩
  have hW2 := hW.symm
  subst hW2
  clear CL
  by_cases hk0 : k = 0
  ·subst hk0
   have e1 : max 0 1 = 1 := rfl
   go_wp2
   go_ret
   exact ⟨rfl, HX2.out⟩
  ·have e1 : max k 1 = k := by omega
   have e2 : ¬ ((k : Int) < 1) := by omega
   have e3 : (1 : Int) ≤ (k : Int) := by omega
   go_wp2
   go_ret
   exact ⟨by show Ending.returned (Value.string (s.extract 0 (max (k : Int) 1).toNat)) = _; rw [show (max (k : Int) 1).toNat = max k 1 by omega], HX2.out⟩
end Go.Proofs.YtnfhajhdpdidlaaGreatDoor
end
section
namespace Go.Proofs.YtnfhajhdpdidlaaGreatDoor
open Go.RowKit Go.Shelf
def bsP (q : P) : P := { q with hf := false, fr := ⟨#[]⟩ }
end Go.Proofs.YtnfhajhdpdidlaaGreatDoor
end

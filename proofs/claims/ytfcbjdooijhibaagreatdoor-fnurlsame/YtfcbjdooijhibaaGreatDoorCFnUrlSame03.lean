/- Plain facts: what is read is in normal form; so an address is ok just if it is, and is not too long. An address without its end; three blocks for addresses. Plain facts: addresses without their ends, with other ends, in capital letters, with slashes of the other kind; ports. impl.UrlBase: an address that is ok, without its end. -/
import Derived.Test.YtfcbjdooijhibaaGreatDoorCFnUrlSame02
import Derived.Test.YtfcbjdooijhibaaGreatDoorB37
set_option linter.unusedVariables false
set_option linter.unusedSimpArgs false
set_option maxHeartbeats 8000000
set_option maxRecDepth 100000
section
namespace Go.Proofs.YtfcbjdooijhibaaGreatDoor
open Go.RowKit Go.Shelf
theorem frag_shape (p : P) (l : List UInt8) (hl : l.length ≤ 200) (h1 : p.hf = false) (h2 : p.fr = ⟨#[]⟩) : ∃ c d, fragP p l = { p with hf := c, fr := d } ∧ ((c = true ∧ clo 3 d.data.toList) ∨ (c = false ∧ d = ⟨#[]⟩)) := by
 unfold fragP
 split
 ·refine ⟨true, _, rfl, .inl ⟨rfl, wr_clo 3 (by decide) _ (by rw [List.length_tail]; omega)⟩⟩
 ·refine ⟨false, ⟨#[]⟩, ?_, .inr ⟨rfl, rfl⟩⟩
  cases p; simp_all
theorem que_shape (p : P) (l : List UInt8) (hl : l.length ≤ 200) (h0 : p.hq = false) (h0' : p.qu = ⟨#[]⟩) (h1 : p.hf = false) (h2 : p.fr = ⟨#[]⟩) :
  ∃ a b c d, queP p l = { p with hq := a, qu := b, hf := c, fr := d } ∧ ((a = true ∧ clo 2 b.data.toList) ∨ (a = false ∧ b = ⟨#[]⟩)) ∧ ((c = true ∧ clo 3 d.data.toList) ∨ (c = false ∧ d = ⟨#[]⟩)) := by
 unfold queP
 have ht : l.tail.length ≤ 200 := by rw [List.length_tail]; omega
 split
 ·have hu : (upL [35] l.tail).length ≤ 200 := Nat.le_trans (upL_le _ _) ht
  obtain ⟨c, d, e, h⟩ := frag_shape ({ p with hq := true, qu := wrT 2 (upL [35] l.tail) }) (l.tail.drop (upL [35] l.tail).length) (by rw [List.length_drop]; omega) h1 h2
  exact ⟨true, wrT 2 (upL [35] l.tail), c, d, e, .inl ⟨rfl, wr_clo 2 (by decide) _ hu⟩, h⟩
 ·obtain ⟨c, d, e, h⟩ := frag_shape p l hl h1 h2
  refine ⟨false, ⟨#[]⟩, c, d, ?_, .inr ⟨rfl, rfl⟩, h⟩
  rw [e]
  cases p; simp_all
theorem nf_que (p : P) (l : List UInt8) (hl : l.length ≤ 200) (h0 : p.hq = false) (h0' : p.qu = ⟨#[]⟩) (h1 : p.hf = false) (h2 : p.fr = ⟨#[]⟩) (hs : schL p.sc.data.toList = true)
  (hm : (ownZ p.sc < 0 ∧ p.us = ⟨#[]⟩ ∧ p.pw = ⟨#[]⟩ ∧ p.hk = 0 ∧ p.hn = ⟨#[]⟩ ∧ p.ha = 0 ∧ p.po = -1 ∧ p.ps = [] ∧ clo 5 p.op.data.toList ∧ ∀ c ∈ p.op.data.toList, c ≠ 63 ∧ c ≠ 35) ∨
   (0 ≤ ownZ p.sc ∧ p.op = ⟨#[]⟩ ∧ clo 4 p.us.data.toList ∧ clo 4 p.pw.data.toList ∧ hostN p.hk p.hn p.ha ∧ (p.po = -1 ∨ (0 ≤ p.po ∧ p.po ≤ 65535 ∧ p.po ≠ ownZ p.sc)) ∧ p.ps ≠ [] ∧ ∀ x ∈ p.ps, fixP x)) : Nf (queP p l) := by
 obtain ⟨a, b, c, d, e, hq, hf⟩ := que_shape p l hl h0 h0' h1 h2
 rw [e]
 exact ⟨hs, hq, hf, hm⟩
theorem port_shape (l : List UInt8) (own : Int) (h : portB l own = true) : portV l own = -1 ∨ (0 ≤ portV l own ∧ portV l own ≤ 65535 ∧ portV l own ≠ own) := by
 by_cases hf : figsL l = true
 ·by_cases h0 : l = []
  ·rw [h0]; exact .inl (portL_empty own).1
  ·cases hn : portN 0 l with
   | none => rw [(portL_none l own hf h0 hn).2] at h; cases h
   | some n =>
    by_cases he : n = own
    ·rw [he] at hn; exact .inl (portL_own l own hf h0 hn).1
    ·rw [(portL_some l own n hf h0 hn he).1]
     have := portN_le l 0 n (by decide) (by decide) (figs_low l hf) hn
     exact .inr ⟨this.1, this.2, he⟩
 ·rw [(portL_nofig l own (by simpa using hf)).2] at h; cases h
theorem who_shape (p : P) (l : List UInt8) (hl : l.length ≤ 200) (h1 : p.us = ⟨#[]⟩) (h2 : p.pw = ⟨#[]⟩) : ∃ a b, whoP p l = { p with us := a, pw := b } ∧ clo 4 a.data.toList ∧ clo 4 b.data.toList := by
 unfold whoP
 cases h : atSplit l with
 | none =>
  refine ⟨⟨#[]⟩, ⟨#[]⟩, ?_, clo_nil 4, clo_nil 4⟩
  cases p; simp_all
 | some ab =>
  obtain ⟨a, b⟩ := ab
  have e := (at_some l a b h).1
  have ha : a.length ≤ 200 := by rw [e, List.length_append] at hl; omega
  refine ⟨_, _, rfl, wr_clo 4 (by decide) _ (Nat.le_trans (upL_le _ _) ha), wr_clo 4 (by decide) _ ?_⟩
  unfold behind
  rw [List.length_tail, List.length_drop]; omega
theorem nf_of_sch (t : List UInt8) (q : P) (hl : t.length ≤ 200) (h : schP P.zero t = some q) : Nf q := by
 unfold schP at h
 split at h
 ·rename_i hc
  obtain ⟨_, hs⟩ := hc
  obtain ⟨s, hsx⟩ : ∃ s, s = mk (low (upL [58] t)) := ⟨_, rfl⟩
  have hs' : schL s.data.toList = true := by rw [hsx, mk_data]; exact hs
  rw [← hsx] at h
  obtain ⟨m, hm⟩ : ∃ m, m = t.drop ((upL [58] t).length + 1) := ⟨_, rfl⟩
  have hml : m.length ≤ 200 := by rw [hm, List.length_drop]; omega
  rw [← hm] at h
  split at h
  ·rename_i ho
   unfold slaP hosP at h
   obtain ⟨k, hk⟩ : ∃ k, k = m.dropWhile (among [47, 92]) := ⟨_, rfl⟩
   have hkl : k.length ≤ 200 := by rw [hk]; exact Nat.le_trans (List.dropWhile_sublist _).length_le hml
   rw [← hk] at h
   rw [Option.map_eq_some_iff] at h
   obtain ⟨u, hu, he⟩ := h
   unfold autP at hu
   split at hu
   ·rename_i hb
    unfold autB at hb
    rw [Bool.and_eq_true] at hb
    have hu' : autQ { P.zero with sc := s, po := -1 } (upL [47, 92, 63, 35] k) = u := by simpa using hu
    have hal : (upL [47, 92, 63, 35] k).length ≤ 200 := Nat.le_trans (upL_le _ _) hkl
    obtain ⟨x, y, ew, cx, cy⟩ := who_shape ({ P.zero with sc := s, po := -1 }) (upL [47, 92, 63, 35] k) hal rfl rfl
    unfold autQ at hu'
    rw [ew] at hu'
    rw [← he]
    unfold patP
    have hdl : (k.drop (upL [47, 92, 63, 35] k).length).length ≤ 200 := by rw [List.length_drop]; omega
    have hpl : (upL [63, 35] (k.drop (upL [47, 92, 63, 35] k).length)).length ≤ 200 := Nat.le_trans (upL_le _ _) hdl
    subst hu'
    refine nf_que _ _ (by rw [List.length_drop]; omega) rfl rfl rfl rfl hs' (.inr ⟨ho, rfl, cx, cy, host_read _ hb.1, port_shape _ _ hb.2, path_ne _ hpl, path_fix _⟩)
   ·cases hu
  ·rename_i ho
   have h' : opqP { P.zero with sc := s, po := -1 } m = q := by simpa using h
   rw [← h']
   unfold opqP
   have hul : (upL [63, 35] m).length ≤ 200 := Nat.le_trans (upL_le _ _) hml
   refine nf_que _ _ (by rw [List.length_drop]; omega) rfl rfl rfl rfl hs' (.inl ⟨by show ownZ s < 0; omega, rfl, rfl, rfl, rfl, rfl, rfl, rfl, wr_clo 5 (by decide) _ hul, ?_⟩)
   intro c hc
   have hc' : c ∈ enc (isIn 5) (upL [63, 35] m) := by rw [← wr_small 5 _ hul]; exact hc
   unfold enc at hc'
   rw [List.mem_flatMap] at hc'
   obtain ⟨d, hd, hc'⟩ := hc'
   have hfree : among [63, 35] d = false := by
    rcases up_cases [63, 35] m with ⟨e, hh⟩ | ⟨a, x, b, e1, e2, hx, hh⟩
    ·rw [e] at hd; exact hh d hd
    ·rw [e2] at hd; exact hh d hd
   have hd2 : d ≠ 63 ∧ d ≠ 35 := by
    constructor
    ·intro e; rw [e] at hfree; revert hfree; decide
    ·intro e; rw [e] at hfree; revert hfree; decide
   have hfs := fig_shr d
   by_cases hi : isIn 5 d = true
   ·rw [encB_yes _ _ hi] at hc'
    simp only [List.mem_cons, List.not_mem_nil, or_false] at hc'
    have hfg : ∀ n : _root_.Fin 16, fig n.val ≠ 63 ∧ fig n.val ≠ 35 := by decide
    rcases hc' with rfl | rfl | rfl
    ·decide
    ·exact hfg ⟨_, hfs.1⟩
    ·exact hfg ⟨_, hfs.2⟩
   ·rw [encB_no _ _ (by simpa using hi)] at hc'
    simp only [List.mem_cons, List.not_mem_nil, or_false] at hc'
    rw [hc']; exact hd2
 ·cases h
theorem read_nf (l : List UInt8) (q : P) (h : getO l = some q) : Nf q ∧ l.length ≤ 200 ∧ q.ps.length ≤ 12 := by
 unfold getO at h
 split at h
 ·rename_i hl
  rw [Option.bind_eq_some_iff] at h
  obtain ⟨r, hr, h⟩ := h
  split at h
  ·rename_i hc
   have e : r = q := by simpa using h
   subst e
   exact ⟨nf_of_sch _ r (by have := trim_len l; omega) hr, hl, hc.1⟩
  ·cases h
 ·cases h
theorem ok_getO (q : P) : okP q ↔ getO (writL q) = some q := by
 unfold okP getB getP
 constructor
 ·rintro ⟨h1, h2⟩
  cases h : getO (writL q) with
  | none => rw [h] at h1; cases h1
  | some r => rw [h] at h2; exact congrArg some h2
 ·intro h
  rw [h]; exact ⟨rfl, rfl⟩
theorem ok_iff (q : P) : okP q ↔ Nf q ∧ (writL q).length ≤ 200 ∧ q.ps.length ≤ 12 := by
 rw [ok_getO]
 exact ⟨fun h => read_nf _ q h, fun h => nf_read q h.1 h.2.1 h.2.2⟩
end Go.Proofs.YtfcbjdooijhibaaGreatDoor
end
section
namespace Go.Proofs.YtfcbjdooijhibaaGreatDoor
open Go.RowKit Go.Shelf
def bsP (q : P) : P := { q with hf := false, fr := ⟨#[]⟩ }
theorem bsP_ps (q : P) : (bsP q).ps = q.ps := rfl
end Go.Proofs.YtfcbjdooijhibaaGreatDoor
end
section
namespace Go.Proofs.YtfcbjdooijhibaaGreatDoor
open Go.RowKit Go.Shelf
theorem base_again (q : P) : bsP (bsP q) = bsP q := rfl
theorem writ_base (q : P) : (writL (bsP q)).length ≤ (writL q).length := by
 have e1 : mainL (bsP q) = mainL q := rfl
 have e2 : queL (bsP q) = queL q := rfl
 have e3 : frgL (bsP q) = [] := rfl
 unfold writL tailL
 rw [e1, e2, e3]
 show (q.sc.data.toList ++ _).length ≤ _
 simp
theorem ok_base (q : P) (h : okP q) : okP (bsP q) := by
 rw [ok_iff] at h ⊢
 obtain ⟨hn, hl, hp⟩ := h
 refine ⟨⟨hn.sch, hn.que, .inr ⟨rfl, rfl⟩, hn.main⟩, Nat.le_trans (writ_base q) hl, hp⟩
end Go.Proofs.YtfcbjdooijhibaaGreatDoor
end
section
namespace Go.Proofs.YtfcbjdooijhibaaGreatDoor
open Go.RowKit Go.Shelf
theorem OwnS.off {B k : Nat} {v : Value} {ps : List (List UInt8)} {A : Array Value} {t : TypeId} {w : World} (h : OwnS B v ps w) (hK : Blk k A t w) (ht : t ≠ 9) (j : Nat) (x : Value) : OwnS B v ps (w.setCell ⟨k, j, none⟩ x) := by
 have h0 := h
 refine ⟨h.1, ?_⟩
 rcases h.2 with h1 | ⟨g, cap, cur, hv, hb, hg, rest⟩
 ·exact .inl h1
 ·refine .inr ⟨g, cap, cur, hv, hb, ?_, rest⟩
  have hne : k ≠ g := by rw [hv] at h0; exact h0.ne hK ht
  rw [← hg]
  simp [World.setCell, Array.getElem?_modify]
  intro e
  exact absurd e hne
theorem implUrlBaseYes (q : P) (a : Option Addr) (n c : Nat) (w : World) (hL : Lean1 w) (hS : StrsOf a n q.ps w) (hs : q.tot ≤ 1048576) (hpo : q.po ≤ 9223372036854775807) (hok : okP q) :
  Calls Tryz.prog 14 #[.agg (q.cells (.slice a n c))] w fun e w' => ∃ a2 c2, e = .returned (.agg ((bsP q).cells (.slice a2 n c2))) ∧ OwnS w.heap.size (.slice a2 n c2) q.ps w' ∧ Below w.heap.size w w' := by
 have hn : n = q.ps.length := hS.1
 have CA : Hid (∀ W, Below w.heap.size w W → Calls Tryz.prog 38 #[.agg #[(.string q.sc), (.string q.us), (.string q.pw), (.int .i64 q.hk), (.string q.hn), (.int .i64 q.ha), (.int .i64 q.po), (.slice a n c), (.string q.op), (.bool q.hq), (.string q.qu), (.bool q.hf), (.string q.fr)]] W fun e w' => ∃ a2 c2, e = .returned (.tuple #[.agg #[(.string q.sc), (.string q.us), (.string q.pw), (.int .i64 q.hk), (.string q.hn), (.int .i64 q.ha), (.int .i64 q.po), (.slice a2 n c2), (.string q.op), (.bool q.hq), (.string q.qu), (.bool q.hf), (.string q.fr)], .bool true]) ∧ OwnS W.heap.size (.slice a2 n c2) q.ps w' ∧ Below W.heap.size W w') := fun W d => by
  refine (urlAgain q a n c W (hL.below d) (hS.later d) hs hpo true (by simp [hok])).mono ?_
  rintro e w' ⟨v, rfl, o, d2⟩
  rw [hok.2] at o ⊢
  obtain ⟨a2, c2, hv, hc, s2⟩ := o.strs
  rw [← hn] at hv
  subst hv
  exact ⟨a2, c2, rfl, o, d2⟩
 have H0 : Hid (Tw w #[(.string q.sc), (.string q.us), (.string q.pw), (.int .i64 q.hk), (.string q.hn), (.int .i64 q.ha), (.int .i64 q.po), (.slice a n c), (.string q.op), (.bool q.hq), (.string q.qu), (.bool q.hf), (.string q.fr)] #[(.string ⟨#[]⟩), (.string ⟨#[]⟩), (.string ⟨#[]⟩), (.int .i64 0), (.string ⟨#[]⟩), (.int .i64 0), (.int .i64 0), (.slice none 0 0), (.string ⟨#[]⟩), (.bool false), (.string ⟨#[]⟩), (.bool false), (.string ⟨#[]⟩)] ((w.alloc (.cells #[(.string q.sc), (.string q.us), (.string q.pw), (.int .i64 q.hk), (.string q.hn), (.int .i64 q.ha), (.int .i64 q.po), (.slice a n c), (.string q.op), (.bool q.hq), (.string q.qu), (.bool q.hf), (.string q.fr)] 27)).alloc (.cells #[(.string ⟨#[]⟩), (.string ⟨#[]⟩), (.string ⟨#[]⟩), (.int .i64 0), (.string ⟨#[]⟩), (.int .i64 0), (.int .i64 0), (.slice none 0 0), (.string ⟨#[]⟩), (.bool false), (.string ⟨#[]⟩), (.bool false), (.string ⟨#[]⟩)] 27))) := Tw.start w _ _
 have HZ0 : Hid (((w.alloc (.cells #[(.string q.sc), (.string q.us), (.string q.pw), (.int .i64 q.hk), (.string q.hn), (.int .i64 q.ha), (.int .i64 q.po), (.slice a n c), (.string q.op), (.bool q.hq), (.string q.qu), (.bool q.hf), (.string q.fr)] 27)).alloc (.cells #[(.string ⟨#[]⟩), (.string ⟨#[]⟩), (.string ⟨#[]⟩), (.int .i64 0), (.string ⟨#[]⟩), (.int .i64 0), (.int .i64 0), (.slice none 0 0), (.string ⟨#[]⟩), (.bool false), (.string ⟨#[]⟩), (.bool false), (.string ⟨#[]⟩)] 27)).heap.size = w.heap.size + 1 + 1) := by show _ = _; simp
 clear hS hs hpo hn hok hL
 unfold P.cells bsP
 go_enter Tryz.func14, Tryz.ntmps14
 go_wp2_with fail
 refine (CA.out _ H0.out.bw).mono ?_
 rintro e W1 ⟨a2, c2, rfl, o1, d1⟩
 have HX1 : Hid (Tw w #[(.string q.sc), (.string q.us), (.string q.pw), (.int .i64 q.hk), (.string q.hn), (.int .i64 q.ha), (.int .i64 q.po), (.slice a n c), (.string q.op), (.bool q.hq), (.string q.qu), (.bool q.hf), (.string q.fr)] #[(.string ⟨#[]⟩), (.string ⟨#[]⟩), (.string ⟨#[]⟩), (.int .i64 0), (.string ⟨#[]⟩), (.int .i64 0), (.int .i64 0), (.slice none 0 0), (.string ⟨#[]⟩), (.bool false), (.string ⟨#[]⟩), (.bool false), (.string ⟨#[]⟩)] W1) := H0.out.later d1
 have HO1 : Hid (OwnS (w.heap.size + 1 + 1) (.slice a2 n c2) q.ps W1) := by show OwnS _ _ _ _; rw [← HZ0.out]; exact o1
 clear d1 H0 CA o1 HZ0
 obtain ⟨V, hV⟩ : ∃ V, V = W1.alloc (.cells #[(.string q.sc), (.string q.us), (.string q.pw), (.int .i64 q.hk), (.string q.hn), (.int .i64 q.ha), (.int .i64 q.po), (.slice a2 n c2), (.string q.op), (.bool q.hq), (.string q.qu), (.bool q.hf), (.string q.fr)] 27) := ⟨_, rfl⟩
 have HBV : Hid (Below W1.heap.size W1 V) := by show Below _ _ _; rw [hV]; exact (Below.refl _ _).alloc (Nat.le_refl _) _
 have HX2 : Hid (Tw w #[(.string q.sc), (.string q.us), (.string q.pw), (.int .i64 q.hk), (.string q.hn), (.int .i64 q.ha), (.int .i64 q.po), (.slice a n c), (.string q.op), (.bool q.hq), (.string q.qu), (.bool q.hf), (.string q.fr)] #[(.string ⟨#[]⟩), (.string ⟨#[]⟩), (.string ⟨#[]⟩), (.int .i64 0), (.string ⟨#[]⟩), (.int .i64 0), (.int .i64 0), (.slice none 0 0), (.string ⟨#[]⟩), (.bool false), (.string ⟨#[]⟩), (.bool false), (.string ⟨#[]⟩)] V) := HX1.out.later HBV.out
 have HO2 : Hid (OwnS (w.heap.size + 1 + 1) (.slice a2 n c2) q.ps V) := HO1.out.later HBV.out
 have HG2 : Hid (Blk W1.heap.size #[(.string q.sc), (.string q.us), (.string q.pw), (.int .i64 q.hk), (.string q.hn), (.int .i64 q.ha), (.int .i64 q.po), (.slice a2 n c2), (.string q.op), (.bool q.hq), (.string q.qu), (.bool q.hf), (.string q.fr)] 27 V) := by show Blk _ _ _ _; rw [hV]; exact Blk.new W1 _ _
 have hgw : w.heap.size + 1 < W1.heap.size := HX1.out.b2.lt
 clear HX1 HO1 HBV
 go_upto_region 4 with fail
 rw [← hV]
 clear hV
 generalize W1.heap.size = g at *
 obtain ⟨k0, k1, k2, k3, k4, k5, k6, k7, k8, k9, k10, k11, k12⟩ := Blk.cells13a HG2.out
 have fk := HG2.out.free
 go_upto_region 5 with fail
 obtain ⟨U2, hU2⟩ : ∃ U, U = (V.setCell ⟨g, 11, none⟩ (.bool false)).setCell ⟨g, 12, none⟩ (.string ⟨#[]⟩) := ⟨_, rfl⟩
 have HX3 : Hid (Blk (w.heap.size + 1) #[(.string ⟨#[]⟩), (.string ⟨#[]⟩), (.string ⟨#[]⟩), (.int .i64 0), (.string ⟨#[]⟩), (.int .i64 0), (.int .i64 0), (.slice none 0 0), (.string ⟨#[]⟩), (.bool false), (.string ⟨#[]⟩), (.bool false), (.string ⟨#[]⟩)] 27 U2 ∧ Below w.heap.size w U2) := by
  rw [hU2]
  exact ⟨(HX2.out.b2.other g 11 _ (by omega)).other g 12 _ (by omega), (HX2.out.bw.setCell (p := ⟨g, 11, none⟩) (by show _ ≤ g; omega) _).setCell (p := ⟨g, 12, none⟩) (by show _ ≤ g; omega) _⟩
 have HG3 : Hid (Blk g #[(.string q.sc), (.string q.us), (.string q.pw), (.int .i64 q.hk), (.string q.hn), (.int .i64 q.ha), (.int .i64 q.po), (.slice a2 n c2), (.string q.op), (.bool q.hq), (.string q.qu), (.bool false), (.string ⟨#[]⟩)] 27 U2) := by rw [hU2]; have := (HG2.out.set 11 (.bool false)).set 12 (.string ⟨#[]⟩); show Blk _ _ _ _; simpa using this
 have HO3 : Hid (OwnS (w.heap.size + 1 + 1) (.slice a2 n c2) q.ps U2) := by rw [hU2]; exact (HO2.out.off HG2.out (by decide) 11 _).off (HG2.out.set 11 (.bool false)) (by decide) 12 _
 rw [← hU2]
 clear hU2 HX2 HO2 HG2 k0 k1 k2 k3 k4 k5 k6 k7 k8 k9 k10 k11 k12 fk
 obtain ⟨k0, k1, k2, k3, k4, k5, k6, k7, k8, k9, k10, k11, k12⟩ := Blk.cells13a HG3.out
 obtain ⟨e0, e1, e2, e3, e4, e5, e6, e7, e8, e9, e10, e11, e12⟩ := Blk.cells13a HX3.out.1
 have fr := HX3.out.1.free
 have HFIN : Hid (OwnS w.heap.size (.slice a2 n c2) q.ps (((((((((((((U2.setCell ⟨w.heap.size + 1, 0, none⟩ (.string q.sc)).setCell ⟨w.heap.size + 1, 1, none⟩ (.string q.us)).setCell ⟨w.heap.size + 1, 2, none⟩ (.string q.pw)).setCell ⟨w.heap.size + 1, 3, none⟩ (.int .i64 q.hk)).setCell ⟨w.heap.size + 1, 4, none⟩ (.string q.hn)).setCell ⟨w.heap.size + 1, 5, none⟩ (.int .i64 q.ha)).setCell ⟨w.heap.size + 1, 6, none⟩ (.int .i64 q.po)).setCell ⟨w.heap.size + 1, 7, none⟩ (.slice a2 n c2)).setCell ⟨w.heap.size + 1, 8, none⟩ (.string q.op)).setCell ⟨w.heap.size + 1, 9, none⟩ (.bool q.hq)).setCell ⟨w.heap.size + 1, 10, none⟩ (.string q.qu)).setCell ⟨w.heap.size + 1, 11, none⟩ (.bool false)).setCell ⟨w.heap.size + 1, 12, none⟩ (.string ⟨#[]⟩)) ∧ Below w.heap.size w (((((((((((((U2.setCell ⟨w.heap.size + 1, 0, none⟩ (.string q.sc)).setCell ⟨w.heap.size + 1, 1, none⟩ (.string q.us)).setCell ⟨w.heap.size + 1, 2, none⟩ (.string q.pw)).setCell ⟨w.heap.size + 1, 3, none⟩ (.int .i64 q.hk)).setCell ⟨w.heap.size + 1, 4, none⟩ (.string q.hn)).setCell ⟨w.heap.size + 1, 5, none⟩ (.int .i64 q.ha)).setCell ⟨w.heap.size + 1, 6, none⟩ (.int .i64 q.po)).setCell ⟨w.heap.size + 1, 7, none⟩ (.slice a2 n c2)).setCell ⟨w.heap.size + 1, 8, none⟩ (.string q.op)).setCell ⟨w.heap.size + 1, 9, none⟩ (.bool q.hq)).setCell ⟨w.heap.size + 1, 10, none⟩ (.string q.qu)).setCell ⟨w.heap.size + 1, 11, none⟩ (.bool false)).setCell ⟨w.heap.size + 1, 12, none⟩ (.string ⟨#[]⟩))) := ⟨(OwnS.put13 HO3.out (by omega)).mono (by omega), below_put13 HX3.out.2 (by omega) _ _ _ _ _ _ _ _ _ _ _ _ _⟩
 clear HX3 HO3 HG3
 go_wp2
 refine bodyPost_ret (v := .agg #[(.string q.sc), (.string q.us), (.string q.pw), (.int .i64 q.hk), (.string q.hn), (.int .i64 q.ha), (.int .i64 q.po), (.slice a2 n c2), (.string q.op), (.bool q.hq), (.string q.qu), (.bool false), (.string ⟨#[]⟩)]) (by simp [results, Tryz.results14, go_sem, e0, e1, e2, e3, e4, e5, e6, e7, e8, e9, e10, e11, e12]) rfl ⟨a2, c2, rfl, HFIN.out⟩
theorem implUrlBaseNo (q : P) (a : Option Addr) (n c : Nat) (w : World) (hL : Lean1 w) (hS : StrsOf a n q.ps w) (hs : q.tot ≤ 1048576) (hpo : q.po ≤ 9223372036854775807) (hok : ¬ okP q) :
  Calls Tryz.prog 14 #[.agg (q.cells (.slice a n c))] w fun e w' => e = .returned (.agg (P.zero.cells (.slice none 0 0))) ∧ Below w.heap.size w w' := by
 obtain ⟨r, hr⟩ : ∃ r, r = getP (writL q) := ⟨_, rfl⟩
 have CA : Hid (∀ W, Below w.heap.size w W → Calls Tryz.prog 38 #[.agg #[(.string q.sc), (.string q.us), (.string q.pw), (.int .i64 q.hk), (.string q.hn), (.int .i64 q.ha), (.int .i64 q.po), (.slice a n c), (.string q.op), (.bool q.hq), (.string q.qu), (.bool q.hf), (.string q.fr)]] W fun e w' => ∃ a2 n2 c2, e = .returned (.tuple #[.agg #[(.string r.sc), (.string r.us), (.string r.pw), (.int .i64 r.hk), (.string r.hn), (.int .i64 r.ha), (.int .i64 r.po), (.slice a2 n2 c2), (.string r.op), (.bool r.hq), (.string r.qu), (.bool r.hf), (.string r.fr)], .bool false]) ∧ Below W.heap.size W w') := fun W d => by
  refine (urlAgain q a n c W (hL.below d) (hS.later d) hs hpo false (by simp [hok])).mono ?_
  rintro e w' ⟨v, rfl, o, d2⟩
  rw [← hr] at o ⊢
  obtain ⟨a2, c2, hv, hc, s2⟩ := o.strs
  subst hv
  exact ⟨a2, _, c2, rfl, d2⟩
 have H0 : Hid (Tw w #[(.string q.sc), (.string q.us), (.string q.pw), (.int .i64 q.hk), (.string q.hn), (.int .i64 q.ha), (.int .i64 q.po), (.slice a n c), (.string q.op), (.bool q.hq), (.string q.qu), (.bool q.hf), (.string q.fr)] #[(.string ⟨#[]⟩), (.string ⟨#[]⟩), (.string ⟨#[]⟩), (.int .i64 0), (.string ⟨#[]⟩), (.int .i64 0), (.int .i64 0), (.slice none 0 0), (.string ⟨#[]⟩), (.bool false), (.string ⟨#[]⟩), (.bool false), (.string ⟨#[]⟩)] ((w.alloc (.cells #[(.string q.sc), (.string q.us), (.string q.pw), (.int .i64 q.hk), (.string q.hn), (.int .i64 q.ha), (.int .i64 q.po), (.slice a n c), (.string q.op), (.bool q.hq), (.string q.qu), (.bool q.hf), (.string q.fr)] 27)).alloc (.cells #[(.string ⟨#[]⟩), (.string ⟨#[]⟩), (.string ⟨#[]⟩), (.int .i64 0), (.string ⟨#[]⟩), (.int .i64 0), (.int .i64 0), (.slice none 0 0), (.string ⟨#[]⟩), (.bool false), (.string ⟨#[]⟩), (.bool false), (.string ⟨#[]⟩)] 27))) := Tw.start w _ _
 clear hS hs hpo hok hL hr
 unfold P.cells P.zero
 go_enter Tryz.func14, Tryz.ntmps14
 go_wp2_with fail
 refine (CA.out _ H0.out.bw).mono ?_
 rintro e W1 ⟨a2, n2, c2, rfl, d1⟩
 have HX1 : Hid (Tw w #[(.string q.sc), (.string q.us), (.string q.pw), (.int .i64 q.hk), (.string q.hn), (.int .i64 q.ha), (.int .i64 q.po), (.slice a n c), (.string q.op), (.bool q.hq), (.string q.qu), (.bool q.hf), (.string q.fr)] #[(.string ⟨#[]⟩), (.string ⟨#[]⟩), (.string ⟨#[]⟩), (.int .i64 0), (.string ⟨#[]⟩), (.int .i64 0), (.int .i64 0), (.slice none 0 0), (.string ⟨#[]⟩), (.bool false), (.string ⟨#[]⟩), (.bool false), (.string ⟨#[]⟩)] W1) := H0.out.later d1
 clear d1 H0 CA
 obtain ⟨V, hV⟩ : ∃ V, V = W1.alloc (.cells #[(.string r.sc), (.string r.us), (.string r.pw), (.int .i64 r.hk), (.string r.hn), (.int .i64 r.ha), (.int .i64 r.po), (.slice a2 n2 c2), (.string r.op), (.bool r.hq), (.string r.qu), (.bool r.hf), (.string r.fr)] 27) := ⟨_, rfl⟩
 have HX2 : Hid (Tw w #[(.string q.sc), (.string q.us), (.string q.pw), (.int .i64 q.hk), (.string q.hn), (.int .i64 q.ha), (.int .i64 q.po), (.slice a n c), (.string q.op), (.bool q.hq), (.string q.qu), (.bool q.hf), (.string q.fr)] #[(.string ⟨#[]⟩), (.string ⟨#[]⟩), (.string ⟨#[]⟩), (.int .i64 0), (.string ⟨#[]⟩), (.int .i64 0), (.int .i64 0), (.slice none 0 0), (.string ⟨#[]⟩), (.bool false), (.string ⟨#[]⟩), (.bool false), (.string ⟨#[]⟩)] V) := HX1.out.later (by rw [hV]; exact (Below.refl _ _).alloc (Nat.le_refl _) _)
 clear HX1
 go_upto_region 3 with fail
 rw [← hV]
 clear hV
 obtain ⟨e0, e1, e2, e3, e4, e5, e6, e7, e8, e9, e10, e11, e12⟩ := Blk.cells13a HX2.out.b2
 have fr := HX2.out.b2.free
 have HFIN : Hid (Below w.heap.size w (((((((((((((V.setCell ⟨w.heap.size + 1, 0, none⟩ (.string ⟨#[]⟩)).setCell ⟨w.heap.size + 1, 1, none⟩ (.string ⟨#[]⟩)).setCell ⟨w.heap.size + 1, 2, none⟩ (.string ⟨#[]⟩)).setCell ⟨w.heap.size + 1, 3, none⟩ (.int .i64 0)).setCell ⟨w.heap.size + 1, 4, none⟩ (.string ⟨#[]⟩)).setCell ⟨w.heap.size + 1, 5, none⟩ (.int .i64 0)).setCell ⟨w.heap.size + 1, 6, none⟩ (.int .i64 0)).setCell ⟨w.heap.size + 1, 7, none⟩ (.slice none 0 0)).setCell ⟨w.heap.size + 1, 8, none⟩ (.string ⟨#[]⟩)).setCell ⟨w.heap.size + 1, 9, none⟩ (.bool false)).setCell ⟨w.heap.size + 1, 10, none⟩ (.string ⟨#[]⟩)).setCell ⟨w.heap.size + 1, 11, none⟩ (.bool false)).setCell ⟨w.heap.size + 1, 12, none⟩ (.string ⟨#[]⟩))) := below_put13 HX2.out.bw (by omega) _ _ _ _ _ _ _ _ _ _ _ _ _
 clear HX2
 go_wp2
 refine bodyPost_ret (v := .agg #[(.string ⟨#[]⟩), (.string ⟨#[]⟩), (.string ⟨#[]⟩), (.int .i64 0), (.string ⟨#[]⟩), (.int .i64 0), (.int .i64 0), (.slice none 0 0), (.string ⟨#[]⟩), (.bool false), (.string ⟨#[]⟩), (.bool false), (.string ⟨#[]⟩)]) (by simp [results, Tryz.results14, go_sem, e0, e1, e2, e3, e4, e5, e6, e7, e8, e9, e10, e11, e12]) rfl ⟨rfl, HFIN.out⟩
end Go.Proofs.YtfcbjdooijhibaaGreatDoor
end

/- Plain facts: what is read is in normal form; so an address is ok just if it is, and is not too long. An address without its end; three blocks for addresses. Plain facts: what UrlLess answers. Plain facts on paths below paths. -/
import Derived.Test.YtnfhajhdpdidlaaGreatDoorCFnExactUrlLess02
import Derived.Test.YtnfhajhdpdidlaaGreatDoorB41
import Derived.Test.YtnfhajhdpdidlaaGreatDoorB42
import Derived.Test.YtnfhajhdpdidlaaGreatDoorB02
import Derived.Lib.Strings
set_option linter.unusedVariables false
set_option linter.unusedSimpArgs false
section
namespace Go.Proofs.YtnfhajhdpdidlaaGreatDoor
open Go.RowKit Go.Shelf
theorem frag_shape (p : P) (l : List UInt8) (hl : l.length ≤ 200) (h1 : p.hf = false) (h2 : p.fr = ⟨#[]⟩) : ∃ c d, fragP p l = { p with hf := c, fr := d } ∧ ((c = true ∧ clo 3 d.data.toList) ∨ (c = false ∧ d = ⟨#[]⟩)) := by
 unfold fragP
 split
 ·refine ⟨true, _, rfl, .inl ⟨rfl, wr_clo 3 (by decide) _ (by rw [List.length_tail]; omega)⟩⟩
 ·refine ⟨false, ⟨#[]⟩, ?_, .inr ⟨rfl, rfl⟩⟩
  cases p; simp_all
theorem que_shape (p : P) (l : List UInt8) (hl : l.length ≤ 200) (h0 : p.hq = false) (h0' : p.qu = ⟨#[]⟩) (h1 : p.hf = false) (h2 : p.fr = ⟨#[]⟩) :
  ∃ a b c d, queP p l = { p with hq := a, qu := b, hf := c, fr := d } ∧ ((a = true ∧ clo 2 b.data.toList) ∨ (a = false ∧ b = ⟨#[]⟩)) ∧ ((c = true ∧ clo 3 d.data.toList) ∨ (c = false ∧ d = ⟨#[]⟩)) := by
 unfold queP
 have ht : l.tail.length ≤ 200 := by rw [List.length_tail]; omega
 split
 ·have hu : (upL [35] l.tail).length ≤ 200 := Nat.le_trans (upL_le _ _) ht
  obtain ⟨c, d, e, h⟩ := frag_shape ({ p with hq := true, qu := wrT 2 (upL [35] l.tail) }) (l.tail.drop (upL [35] l.tail).length) (by rw [List.length_drop]; omega) h1 h2
  exact ⟨true, wrT 2 (upL [35] l.tail), c, d, e, .inl ⟨rfl, wr_clo 2 (by decide) _ hu⟩, h⟩
 ·obtain ⟨c, d, e, h⟩ := frag_shape p l hl h1 h2
  refine ⟨false, ⟨#[]⟩, c, d, ?_, .inr ⟨rfl, rfl⟩, h⟩
  rw [e]
  cases p; simp_all
theorem nf_que (p : P) (l : List UInt8) (hl : l.length ≤ 200) (h0 : p.hq = false) (h0' : p.qu = ⟨#[]⟩) (h1 : p.hf = false) (h2 : p.fr = ⟨#[]⟩) (hs : schL p.sc.data.toList = true)
  (hm : (ownZ p.sc < 0 ∧ p.us = ⟨#[]⟩ ∧ p.pw = ⟨#[]⟩ ∧ p.hk = 0 ∧ p.hn = ⟨#[]⟩ ∧ p.ha = 0 ∧ p.po = -1 ∧ p.ps = [] ∧ clo 5 p.op.data.toList ∧ ∀ c ∈ p.op.data.toList, c ≠ 63 ∧ c ≠ 35) ∨
   (0 ≤ ownZ p.sc ∧ p.op = ⟨#[]⟩ ∧ clo 4 p.us.data.toList ∧ clo 4 p.pw.data.toList ∧ hostN p.hk p.hn p.ha ∧ (p.po = -1 ∨ (0 ≤ p.po ∧ p.po ≤ 65535 ∧ p.po ≠ ownZ p.sc)) ∧ p.ps ≠ [] ∧ ∀ x ∈ p.ps, fixP x)) : Nf (queP p l) := by
 obtain ⟨a, b, c, d, e, hq, hf⟩ := que_shape p l hl h0 h0' h1 h2
 rw [e]
 exact ⟨hs, hq, hf, hm⟩
theorem port_shape (l : List UInt8) (own : Int) (h : portB l own = true) : portV l own = -1 ∨ (0 ≤ portV l own ∧ portV l own ≤ 65535 ∧ portV l own ≠ own) := by
 by_cases hf : figsL l = true
 ·by_cases h0 : l = []
  ·rw [h0]; exact .inl (portL_empty own).1
  ·cases hn : portN 0 l with
   | none => rw [(portL_none l own hf h0 hn).2] at h; cases h
   | some n =>
    by_cases he : n = own
    ·rw [he] at hn; exact .inl (portL_own l own hf h0 hn).1
    ·rw [(portL_some l own n hf h0 hn he).1]
     have := portN_le l 0 n (by decide) (by decide) (figs_low l hf) hn
     exact .inr ⟨this.1, this.2, he⟩
 ·rw [(portL_nofig l own (by simpa using hf)).2] at h; cases h
theorem who_shape (p : P) (l : List UInt8) (hl : l.length ≤ 200) (h1 : p.us = ⟨#[]⟩) (h2 : p.pw = ⟨#[]⟩) : ∃ a b, whoP p l = { p with us := a, pw := b } ∧ clo 4 a.data.toList ∧ clo 4 b.data.toList := by
 unfold whoP
 cases h : atSplit l with
 | none =>
  refine ⟨⟨#[]⟩, ⟨#[]⟩, ?_, clo_nil 4, clo_nil 4⟩
  cases p; simp_all
 | some ab =>
  obtain ⟨a, b⟩ := ab
  have e := (at_some l a b h).1
  have ha : a.length ≤ 200 := by rw [e, List.length_append] at hl; omega
  refine ⟨_, _, rfl, wr_clo 4 (by decide) _ (Nat.le_trans (upL_le _ _) ha), wr_clo 4 (by decide) _ ?_⟩
  unfold behind
  rw [List.length_tail, List.length_drop]; omega
theorem nf_of_sch (t : List UInt8) (q : P) (hl : t.length ≤ 200) (h : schP P.zero t = some q) : Nf q := by
 unfold schP at h
 split at h
 ·rename_i hc
  obtain ⟨_, hs⟩ := hc
  obtain ⟨s, hsx⟩ : ∃ s, s = mk (low (upL [58] t)) := ⟨_, rfl⟩
  have hs' : schL s.data.toList = true := by rw [hsx, mk_data]; exact hs
  rw [← hsx] at h
  obtain ⟨m, hm⟩ : ∃ m, m = t.drop ((upL [58] t).length + 1) := ⟨_, rfl⟩
  have hml : m.length ≤ 200 := by rw [hm, List.length_drop]; omega
  rw [← hm] at h
  split at h
  ·rename_i ho
   unfold slaP hosP at h
   obtain ⟨k, hk⟩ : ∃ k, k = m.dropWhile (among [47, 92]) := ⟨_, rfl⟩
   have hkl : k.length ≤ 200 := by rw [hk]; exact Nat.le_trans (List.dropWhile_sublist _).length_le hml
   rw [← hk] at h
   rw [Option.map_eq_some_iff] at h
   obtain ⟨u, hu, he⟩ := h
   unfold autP at hu
   split at hu
   ·rename_i hb
    unfold autB at hb
    rw [Bool.and_eq_true] at hb
    have hu' : autQ { P.zero with sc := s, po := -1 } (upL [47, 92, 63, 35] k) = u := by simpa using hu
    have hal : (upL [47, 92, 63, 35] k).length ≤ 200 := Nat.le_trans (upL_le _ _) hkl
    obtain ⟨x, y, ew, cx, cy⟩ := who_shape ({ P.zero with sc := s, po := -1 }) (upL [47, 92, 63, 35] k) hal rfl rfl
    unfold autQ at hu'
    rw [ew] at hu'
    rw [← he]
    unfold patP
    have hdl : (k.drop (upL [47, 92, 63, 35] k).length).length ≤ 200 := by rw [List.length_drop]; omega
    have hpl : (upL [63, 35] (k.drop (upL [47, 92, 63, 35] k).length)).length ≤ 200 := Nat.le_trans (upL_le _ _) hdl
    subst hu'
    refine nf_que _ _ (by rw [List.length_drop]; omega) rfl rfl rfl rfl hs' (.inr ⟨ho, rfl, cx, cy, host_read _ hb.1, port_shape _ _ hb.2, path_ne _ hpl, path_fix _⟩)
   ·cases hu
  ·rename_i ho
   have h' : opqP { P.zero with sc := s, po := -1 } m = q := by simpa using h
   rw [← h']
   unfold opqP
   have hul : (upL [63, 35] m).length ≤ 200 := Nat.le_trans (upL_le _ _) hml
   refine nf_que _ _ (by rw [List.length_drop]; omega) rfl rfl rfl rfl hs' (.inl ⟨by show ownZ s < 0; omega, rfl, rfl, rfl, rfl, rfl, rfl, rfl, wr_clo 5 (by decide) _ hul, ?_⟩)
   intro c hc
   have hc' : c ∈ enc (isIn 5) (upL [63, 35] m) := by rw [← wr_small 5 _ hul]; exact hc
   unfold enc at hc'
   rw [List.mem_flatMap] at hc'
   obtain ⟨d, hd, hc'⟩ := hc'
   have hfree : among [63, 35] d = false := by
    rcases up_cases [63, 35] m with ⟨e, hh⟩ | ⟨a, x, b, e1, e2, hx, hh⟩
    ·rw [e] at hd; exact hh d hd
    ·rw [e2] at hd; exact hh d hd
   have hd2 : d ≠ 63 ∧ d ≠ 35 := by
    constructor
    ·intro e; rw [e] at hfree; revert hfree; decide
    ·intro e; rw [e] at hfree; revert hfree; decide
   have hfs := fig_shr d
   by_cases hi : isIn 5 d = true
   ·rw [encB_yes _ _ hi] at hc'
    simp only [List.mem_cons, List.not_mem_nil, or_false] at hc'
    have hfg : ∀ n : _root_.Fin 16, fig n.val ≠ 63 ∧ fig n.val ≠ 35 := by decide
    rcases hc' with rfl | rfl | rfl
    ·decide
    ·exact hfg ⟨_, hfs.1⟩
    ·exact hfg ⟨_, hfs.2⟩
   ·rw [encB_no _ _ (by simpa using hi)] at hc'
    simp only [List.mem_cons, List.not_mem_nil, or_false] at hc'
    rw [hc']; exact hd2
 ·cases h
theorem read_nf (l : List UInt8) (q : P) (h : getO l = some q) : Nf q ∧ l.length ≤ 200 ∧ q.ps.length ≤ 12 := by
 unfold getO at h
 split at h
 ·rename_i hl
  rw [Option.bind_eq_some_iff] at h
  obtain ⟨r, hr, h⟩ := h
  split at h
  ·rename_i hc
   have e : r = q := by simpa using h
   subst e
   exact ⟨nf_of_sch _ r (by have := trim_len l; omega) hr, hl, hc.1⟩
  ·cases h
 ·cases h
theorem ok_getO (q : P) : okP q ↔ getO (writL q) = some q := by
 unfold okP getB getP
 constructor
 ·rintro ⟨h1, h2⟩
  cases h : getO (writL q) with
  | none => rw [h] at h1; cases h1
  | some r => rw [h] at h2; exact congrArg some h2
 ·intro h
  rw [h]; exact ⟨rfl, rfl⟩
theorem ok_iff (q : P) : okP q ↔ Nf q ∧ (writL q).length ≤ 200 ∧ q.ps.length ≤ 12 := by
 rw [ok_getO]
 exact ⟨fun h => read_nf _ q h, fun h => nf_read q h.1 h.2.1 h.2.2⟩
end Go.Proofs.YtnfhajhdpdidlaaGreatDoor
end
section
namespace Go.Proofs.YtnfhajhdpdidlaaGreatDoor
open Go.RowKit Go.Shelf
def bsP (q : P) : P := { q with hf := false, fr := ⟨#[]⟩ }
end Go.Proofs.YtnfhajhdpdidlaaGreatDoor
end
section
namespace Go.Proofs.YtnfhajhdpdidlaaGreatDoor
open Go.RowKit Go.Shelf
def RootEq (p q : P) : Prop := p.sc = q.sc ∧ p.us = q.us ∧ p.pw = q.pw ∧ (p.hk = q.hk ∧ p.hn = q.hn ∧ p.ha = q.ha) ∧ p.po = q.po
def TwoP (q : P) : Prop := ∃ p r, q.ps = [] :: p :: r
def EndOnly (p q : P) : Prop := q.hf = true ∧ bsP p = bsP q
def Whole (p q : P) : Prop := ownZ q.sc < 0 ∨ ¬ RootEq p q ∨ TwoP q
structure Les (p q : P) (t : ByteArray) : Prop where
 make ::
 no : ¬ (okP p ∧ okP q) → t = ⟨#[]⟩
 fin : okP p → okP q → EndOnly p q → t = ⟨#[35]⟩ ++ q.fr
 all : okP p → okP q → ¬ EndOnly p q → Whole p q → t = mk (writL q)
 pat : okP p → okP q → ¬ EndOnly p q → ¬ Whole p q → t = mk (putL q.ps) ++ mk (tailL q)
theorem Les.is (p q : P) : ∃ t, Les p q t := by
 by_cases h0 : okP p ∧ okP q
 ·by_cases h1 : EndOnly p q
  ·exact ⟨_, fun h => absurd h0 h, fun _ _ _ => rfl, fun _ _ h => absurd h1 h, fun _ _ h => absurd h1 h⟩
  ·by_cases h2 : Whole p q
   ·exact ⟨_, fun h => absurd h0 h, fun _ _ h => absurd h h1, fun _ _ _ _ => rfl, fun _ _ _ h => absurd h2 h⟩
   ·exact ⟨_, fun h => absurd h0 h, fun _ _ h => absurd h h1, fun _ _ _ h => absurd h h2, fun _ _ _ _ => rfl⟩
 ·exact ⟨_, fun _ => rfl, fun a b => absurd ⟨a, b⟩ h0, fun a b => absurd ⟨a, b⟩ h0, fun a b => absurd ⟨a, b⟩ h0⟩
theorem put_cases (q : P) (h : okP q) (ho : 0 ≤ ownZ q.sc) : (q.ps = [[]] ∧ putL q.ps = [47]) ∨ (TwoP q ∧ ∃ r, putL q.ps = 47 :: 47 :: r) ∨ (¬ TwoP q ∧ (∃ c p r, q.ps = (c :: p) :: r) ∧ ∃ c t, putL q.ps = 47 :: c :: t ∧ c ≠ 47 ∧ c ≠ 92) := by
 rcases ((ok_iff q).1 h).1.main with ⟨h0, _⟩ | ⟨_, _, _, _, _, _, hne, hf⟩
 ·omega
 cases hq : q.ps with
 | nil => exact absurd hq hne
 | cons p ps =>
  cases p with
  | nil =>
   cases ps with
   | nil => exact .inl ⟨rfl, rfl⟩
   | cons p2 r => exact .inr (.inl ⟨⟨p2, r, hq⟩, p2 ++ putL r, rfl⟩)
  | cons c p2 =>
   have hm := hf (c :: p2) (by rw [hq]; exact List.mem_cons_self ..)
   refine .inr (.inr ⟨?_, ⟨c, p2, ps, rfl⟩, c, p2 ++ putL ps, rfl, hm.2.2.1 c (List.mem_cons_self ..), hm.2.2.2 c (List.mem_cons_self ..)⟩)
   rintro ⟨p3, r, hx⟩
   rw [hq] at hx
   injection hx with e1 e2
   cases e1
theorem not_two_one {q : P} (h : q.ps = [[]]) : ¬ TwoP q := by
 rintro ⟨p, r, hx⟩
 rw [h] at hx
 injection hx with e1 e2
 cases e2
end Go.Proofs.YtnfhajhdpdidlaaGreatDoor
end
section
namespace Go.Proofs.YtnfhajhdpdidlaaGreatDoor
open Go.RowKit
def pinL (p b : List UInt8) : Bool := !b.isEmpty && Lib.hasPrefix p b && (decide (p.length = b.length) || b.getLast? == some 47 || p[b.length]? == some 47)
theorem pinL_nil (p : List UInt8) : pinL p [] = false := rfl
theorem pinL_no (p b : List UInt8) (h : Lib.hasPrefix p b = false) : pinL p b = false := by unfold pinL; rw [h]; simp
theorem pinL_yes (p b : List UInt8) (h : Lib.hasPrefix p b = true) (hb : b ≠ []) : pinL p b = (decide (p.length = b.length) || b.getLast? == some 47 || p[b.length]? == some 47) := by
 unfold pinL; rw [h, List.isEmpty_eq_false_iff.2 hb]; simp
theorem pre_len {p b : List UInt8} (h : Lib.hasPrefix p b = true) : b.length ≤ p.length := by
 unfold Lib.hasPrefix at h; exact (List.isPrefixOf_iff_prefix.1 h).length_le
theorem pre_eq {p b : List UInt8} (h : Lib.hasPrefix p b = true) (hl : p.length = b.length) : p = b := by
 unfold Lib.hasPrefix at h; exact ((List.isPrefixOf_iff_prefix.1 h).eq_of_length hl.symm).symm
theorem pre_self (p : List UInt8) : Lib.hasPrefix p p = true := by
 unfold Lib.hasPrefix; exact List.isPrefixOf_iff_prefix.2 (List.prefix_refl p)
theorem pin_self (p : List UInt8) : pinL p p = !p.isEmpty := by
 unfold pinL; rw [pre_self]; simp
theorem at_get (s : ByteArray) (k : Nat) (hk : k < s.size) : s.data.toList[k]? = some s[k] := by
 rw [List.getElem?_eq_getElem (by simpa using hk)]
 simp [ByteArray.getElem_eq_getElem_data]
theorem last_get (s : ByteArray) (k : Nat) (h : s.size = k + 1) : s.data.toList.getLast? = some (s[k]'(by omega)) := by
 rw [List.getLast?_eq_getElem?]
 have hl : s.data.toList.length = s.size := by simp
 rw [hl, show s.size - 1 = k from by omega]
 exact at_get s k (by omega)
theorem byte47 (c : UInt8) (h : c ≠ 47) : ((c.toNat : Int) == 47) = false := by
 rw [beq_eq_false_iff_ne]; intro e; apply h; apply UInt8.toNat_inj.1; show c.toNat = 47; omega
theorem pinCase (p b : ByteArray) :
  b = ⟨#[]⟩ ∨ (b.size ≠ 0 ∧ Lib.hasPrefix p.data.toList b.data.toList = false) ∨ (b.size ≠ 0 ∧ p = b) ∨
  (∃ k, ∃ hk : b.size = k + 1, b.size < p.size ∧ Lib.hasPrefix p.data.toList b.data.toList = true ∧ (b[k]'(by omega)) = 47) ∨
  (∃ k, ∃ hk : b.size = k + 1, ∃ hl : b.size < p.size, Lib.hasPrefix p.data.toList b.data.toList = true ∧ (b[k]'(by omega)) ≠ 47 ∧ p[b.size] = 47) ∨
  (∃ k, ∃ hk : b.size = k + 1, ∃ hl : b.size < p.size, Lib.hasPrefix p.data.toList b.data.toList = true ∧ (b[k]'(by omega)) ≠ 47 ∧ p[b.size] ≠ 47) := by
 have lp : p.data.toList.length = p.size := by simp
 have lb : b.data.toList.length = b.size := by simp
 by_cases h0 : b.size = 0
 ·have := mk_list b
  rw [List.length_eq_zero_iff.1 (show b.data.toList.length = 0 by omega)] at this
  exact .inl this.symm
 cases hp : Lib.hasPrefix p.data.toList b.data.toList with
 | false => exact .inr (.inl ⟨h0, rfl⟩)
 | true =>
  have hle := pre_len hp
  by_cases he : p.size = b.size
  ·refine .inr (.inr (.inl ⟨h0, ?_⟩))
   have := pre_eq hp (by omega)
   rw [← mk_list p, ← mk_list b, this]
  ·obtain ⟨k, hk⟩ : ∃ k, b.size = k + 1 := ⟨b.size - 1, by omega⟩
   have hlt : b.size < p.size := by omega
   by_cases h1 : (b[k]'(by omega)) = 47
   ·exact .inr (.inr (.inr (.inl ⟨k, hk, hlt, rfl, h1⟩)))
   ·by_cases h2 : p[b.size] = 47
    ·exact .inr (.inr (.inr (.inr (.inl ⟨k, hk, hlt, rfl, h1, h2⟩))))
    ·exact .inr (.inr (.inr (.inr (.inr ⟨k, hk, hlt, rfl, h1, h2⟩))))
theorem pin_last (p b : ByteArray) (k : Nat) (hk : b.size = k + 1) (hp : Lib.hasPrefix p.data.toList b.data.toList = true) (h : (b[k]'(by omega)) = 47) : pinL p.data.toList b.data.toList = true := by
 rw [pinL_yes _ _ hp (by intro e; have hl : b.data.toList.length = b.size := by simp
                         rw [e] at hl; simp at hl; omega), last_get b k hk, h]; simp
theorem pin_here (p b : ByteArray) (k : Nat) (hk : b.size = k + 1) (hl : b.size < p.size) (hp : Lib.hasPrefix p.data.toList b.data.toList = true) (h2 : p[b.size] = 47) : pinL p.data.toList b.data.toList = true := by
 have hl' : b.data.toList.length = b.size := by simp
 rw [pinL_yes _ _ hp (by intro e; rw [e] at hl'; simp at hl'; omega), hl', at_get p b.size hl, h2]; simp
theorem pin_none (p b : ByteArray) (k : Nat) (hk : b.size = k + 1) (hl : b.size < p.size) (hp : Lib.hasPrefix p.data.toList b.data.toList = true) (h : (b[k]'(by omega)) ≠ 47) (h2 : p[b.size] ≠ 47) : pinL p.data.toList b.data.toList = false := by
 have hl' : b.data.toList.length = b.size := by simp
 have hp' : p.data.toList.length = p.size := by simp
 rw [pinL_yes _ _ hp (by intro e; rw [e] at hl'; simp at hl'; omega), last_get b k hk, hl', at_get p b.size hl, hp']
 simp [h, h2]; omega
end Go.Proofs.YtnfhajhdpdidlaaGreatDoor
end

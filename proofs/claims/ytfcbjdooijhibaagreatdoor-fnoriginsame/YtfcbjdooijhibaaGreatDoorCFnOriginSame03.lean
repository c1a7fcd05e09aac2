/- Plain facts: texts that no set changes; numbers and hosts that are written are read as themselves. Plain facts: a host that is written is read as itself; what is read is a host that is ok. Plain facts: an address in its normal form, written, is read as itself. Plain facts: what is read is in normal form; so an address is ok just if it is, and is not too long. -/
import Derived.Test.YtfcbjdooijhibaaGreatDoorD14
import Derived.Test.YtfcbjdooijhibaaGreatDoorD13
import Derived.Test.YtfcbjdooijhibaaGreatDoorD37
set_option linter.unusedVariables false
set_option linter.unusedSimpArgs false
section
namespace Go.Proofs.YtfcbjdooijhibaaGreatDoor
open Go.RowKit Go.Shelf
def clo (set : Int) (l : List UInt8) : Prop := ∀ c ∈ l, isIn set c = false
theorem set_cases (set : Int) (hs : 1 ≤ set ∧ set ≤ 5) : set = 1 ∨ set = 2 ∨ set = 3 ∨ set = 4 ∨ set = 5 := by omega
theorem fig_free (set : Int) (hs : 1 ≤ set ∧ set ≤ 5) (n : Nat) (hn : n < 16) : isIn set (fig n) = false := by
 have h : ∀ n : _root_.Fin 16, isIn 1 (fig n) = false ∧ isIn 2 (fig n) = false ∧ isIn 3 (fig n) = false ∧ isIn 4 (fig n) = false ∧ isIn 5 (fig n) = false := by decide
 have := h ⟨n, hn⟩
 rcases set_cases set hs with rfl | rfl | rfl | rfl | rfl
 ·exact this.1
 ·exact this.2.1
 ·exact this.2.2.1
 ·exact this.2.2.2.1
 ·exact this.2.2.2.2
theorem pct_free (set : Int) (hs : 1 ≤ set ∧ set ≤ 5) : isIn set 37 = false := by
 rcases set_cases set hs with rfl | rfl | rfl | rfl | rfl <;> decide
theorem enc_clo (set : Int) (hs : 1 ≤ set ∧ set ≤ 5) (l : List UInt8) : clo set (enc (isIn set) l) := by
 intro c hc
 unfold enc at hc
 rw [List.mem_flatMap] at hc
 obtain ⟨d, hd, hc⟩ := hc
 have hf := fig_shr d
 by_cases h : isIn set d = true
 ·rw [encB_yes _ _ h] at hc
  simp only [List.mem_cons, List.not_mem_nil, or_false] at hc
  rcases hc with rfl | rfl | rfl
  ·exact pct_free set hs
  ·exact fig_free set hs _ hf.1
  ·exact fig_free set hs _ hf.2
 ·have h' : isIn set d = false := by simpa using h
  rw [encB_no _ _ h'] at hc
  simp only [List.mem_cons, List.not_mem_nil, or_false] at hc
  rw [hc]; exact h'
theorem wr_small (set : Int) (l : List UInt8) (hl : l.length ≤ 200) : (wrT set l).data.toList = enc (isIn set) l := by
 unfold wrT
 rw [encode_small set (mk l) (by rw [mk_size]; exact hl), mk_data]
theorem wr_clo (set : Int) (hs : 1 ≤ set ∧ set ≤ 5) (l : List UInt8) (hl : l.length ≤ 200) : clo set (wrT set l).data.toList := by
 rw [wr_small set l hl]; exact enc_clo set hs l
theorem clo_nil (set : Int) : clo set [] := fun c hc => by cases hc
end Go.Proofs.YtfcbjdooijhibaaGreatDoor
end
section
namespace Go.Proofs.YtfcbjdooijhibaaGreatDoor
open Go.RowKit Go.Shelf
theorem fourFrom_range (n : Nat) (hn : n ≤ 4) : ∀ (ps : List (List UInt8)) (i : Nat) (a r : Int), i + ps.length = n → 0 ≤ a → (i < n → a < midI i) → (i = n → a ≤ 4294967295) → fourFrom n i a ps = some r → 0 ≤ r ∧ r ≤ 4294967295 := by
 intro ps
 induction ps with
 | nil =>
  intro i a r hi h0 h1 h2 h
  have : a = r := by simpa [fourFrom] using h
  have := h2 (by simpa using hi)
  omega
 | cons p ps ih =>
  intro i a r hi h0 h1 h2 h
  have hi' : i + 1 + ps.length = n := by simpa [Nat.add_assoc, Nat.add_comm 1] using hi
  have hm := h1 (by omega)
  cases hp : partN p with
  | none => rw [four_none _ _ _ _ _ hp] at h; cases h
  | some v =>
   have hv0 := partN_ge p v hp
   by_cases hl : i + 1 = n
   ·by_cases hc : v < capI i
    ·rw [four_last n i a v p ps hp hl hc] at h
     refine ih (i + 1) _ r hi' ?_ (fun x => by omega) (fun _ => ?_) h
     ·have : 0 ≤ capI i := by unfold capI; split <;> decide
      have := Int.mul_nonneg h0 this
      omega
     ·have hi3 : i = 0 ∨ i = 1 ∨ i = 2 ∨ i = 3 := by omega
      rcases hi3 with rfl | rfl | rfl | rfl <;> simp only [midI, capI] at hm hc ⊢ <;> omega
    ·rw [four_last_no n i a v p ps hp hl hc] at h; cases h
   ·by_cases hc : v < 256
    ·rw [four_mid n i a v p ps hp hl hc] at h
     refine ih (i + 1) _ r hi' (by omega) (fun x => ?_) (fun x => absurd x hl) h
     have hi3 : i = 0 ∨ i = 1 ∨ i = 2 := by omega
     rcases hi3 with rfl | rfl | rfl <;> simp only [midI] at hm ⊢ <;> omega
    ·rw [four_mid_no n i a v p ps hp hl hc] at h; cases h
theorem fourL_range (l : List UInt8) (a : Int) (h : fourL l = some a) : 0 ≤ a ∧ a ≤ 4294967295 := by
 unfold fourL at h
 split at h
 ·rename_i hc
  have hne := partsL_ne l
  exact fourFrom_range _ hc.2 (partsL l) 0 0 a (by omega) (by omega) (fun _ => by show (0 : Int) < 1; decide) (fun e => by omega) h
 ·cases h
def hostN (k : Int) (s : ByteArray) (a : Int) : Prop := named k s a = true ∨ (k = 2 ∧ s = ⟨#[]⟩ ∧ 0 ≤ a ∧ a ≤ 4294967295)
theorem host_read (l : List UInt8) (h : getOk l = true) : hostN (gk l) (gn l) (ga l) := by
 unfold getOk at h
 by_cases hl : l.length ≤ 200
 ·rw [if_pos hl] at h
  unfold gk gn ga
  rw [if_pos hl, if_pos hl, if_pos hl]
  generalize readL l = t at h ⊢
  unfold hostOkL at h
  have hk := of_decide_eq_true h
  unfold hostKind at hk
  by_cases he : endsL t = true
  ·rw [if_pos he] at hk
   by_cases hf : fourOk t = true
   ·right
    unfold hostKind hostName hostAddr
    rw [if_pos he, if_pos hf, if_pos he, if_pos he, if_pos hf]
    refine ⟨rfl, rfl, ?_⟩
    cases h4 : fourL t with
    | none => rw [(four_is_none t h4).1] at hf; cases hf
    | some z => rw [(four_is_some t z h4).2]; exact fourL_range t z h4
   ·rw [if_neg hf] at hk; exact absurd rfl hk
  ·rw [if_neg he] at hk
   by_cases hn : nameL t = true
   ·left
    unfold hostKind hostName hostAddr
    rw [if_neg he, if_pos hn, if_neg he, if_pos hn, if_neg he]
    unfold named
    rw [mk_data, hn]
    have : endsL t = false := by simpa using he
    rw [this]; rfl
   ·rw [if_neg hn] at hk; exact absurd rfl hk
 ·rw [if_neg hl] at h; cases h
end Go.Proofs.YtfcbjdooijhibaaGreatDoor
end
section
namespace Go.Proofs.YtfcbjdooijhibaaGreatDoor
open Go.RowKit Go.Shelf
structure Nf (q : P) : Prop where
 make ::
 sch : schL q.sc.data.toList = true
 que : (q.hq = true ∧ clo 2 q.qu.data.toList) ∨ (q.hq = false ∧ q.qu = ⟨#[]⟩)
 frg : (q.hf = true ∧ clo 3 q.fr.data.toList) ∨ (q.hf = false ∧ q.fr = ⟨#[]⟩)
 main : (ownZ q.sc < 0 ∧ q.us = ⟨#[]⟩ ∧ q.pw = ⟨#[]⟩ ∧ q.hk = 0 ∧ q.hn = ⟨#[]⟩ ∧ q.ha = 0 ∧ q.po = -1 ∧ q.ps = [] ∧ clo 5 q.op.data.toList ∧ ∀ c ∈ q.op.data.toList, c ≠ 63 ∧ c ≠ 35) ∨
  (0 ≤ ownZ q.sc ∧ q.op = ⟨#[]⟩ ∧ clo 4 q.us.data.toList ∧ clo 4 q.pw.data.toList ∧ hostN q.hk q.hn q.ha ∧ (q.po = -1 ∨ (0 ≤ q.po ∧ q.po ≤ 65535 ∧ q.po ≠ ownZ q.sc)) ∧ q.ps ≠ [] ∧ ∀ p ∈ q.ps, fixP p)
end Go.Proofs.YtfcbjdooijhibaaGreatDoor
end
section
namespace Go.Proofs.YtfcbjdooijhibaaGreatDoor
open Go.RowKit Go.Shelf
theorem frag_shape (p : P) (l : List UInt8) (hl : l.length ≤ 200) (h1 : p.hf = false) (h2 : p.fr = ⟨#[]⟩) : ∃ c d, fragP p l = { p with hf := c, fr := d } ∧ ((c = true ∧ clo 3 d.data.toList) ∨ (c = false ∧ d = ⟨#[]⟩)) := by
 unfold fragP
 split
 ·refine ⟨true, _, rfl, .inl ⟨rfl, wr_clo 3 (by decide) _ (by rw [List.length_tail]; omega)⟩⟩
 ·refine ⟨false, ⟨#[]⟩, ?_, .inr ⟨rfl, rfl⟩⟩
  cases p; simp_all
theorem que_shape (p : P) (l : List UInt8) (hl : l.length ≤ 200) (h0 : p.hq = false) (h0' : p.qu = ⟨#[]⟩) (h1 : p.hf = false) (h2 : p.fr = ⟨#[]⟩) :
  ∃ a b c d, queP p l = { p with hq := a, qu := b, hf := c, fr := d } ∧ ((a = true ∧ clo 2 b.data.toList) ∨ (a = false ∧ b = ⟨#[]⟩)) ∧ ((c = true ∧ clo 3 d.data.toList) ∨ (c = false ∧ d = ⟨#[]⟩)) := by
 unfold queP
 have ht : l.tail.length ≤ 200 := by rw [List.length_tail]; omega
 split
 ·have hu : (upL [35] l.tail).length ≤ 200 := Nat.le_trans (upL_le _ _) ht
  obtain ⟨c, d, e, h⟩ := frag_shape ({ p with hq := true, qu := wrT 2 (upL [35] l.tail) }) (l.tail.drop (upL [35] l.tail).length) (by rw [List.length_drop]; omega) h1 h2
  exact ⟨true, wrT 2 (upL [35] l.tail), c, d, e, .inl ⟨rfl, wr_clo 2 (by decide) _ hu⟩, h⟩
 ·obtain ⟨c, d, e, h⟩ := frag_shape p l hl h1 h2
  refine ⟨false, ⟨#[]⟩, c, d, ?_, .inr ⟨rfl, rfl⟩, h⟩
  rw [e]
  cases p; simp_all
theorem nf_que (p : P) (l : List UInt8) (hl : l.length ≤ 200) (h0 : p.hq = false) (h0' : p.qu = ⟨#[]⟩) (h1 : p.hf = false) (h2 : p.fr = ⟨#[]⟩) (hs : schL p.sc.data.toList = true)
  (hm : (ownZ p.sc < 0 ∧ p.us = ⟨#[]⟩ ∧ p.pw = ⟨#[]⟩ ∧ p.hk = 0 ∧ p.hn = ⟨#[]⟩ ∧ p.ha = 0 ∧ p.po = -1 ∧ p.ps = [] ∧ clo 5 p.op.data.toList ∧ ∀ c ∈ p.op.data.toList, c ≠ 63 ∧ c ≠ 35) ∨
   (0 ≤ ownZ p.sc ∧ p.op = ⟨#[]⟩ ∧ clo 4 p.us.data.toList ∧ clo 4 p.pw.data.toList ∧ hostN p.hk p.hn p.ha ∧ (p.po = -1 ∨ (0 ≤ p.po ∧ p.po ≤ 65535 ∧ p.po ≠ ownZ p.sc)) ∧ p.ps ≠ [] ∧ ∀ x ∈ p.ps, fixP x)) : Nf (queP p l) := by
 obtain ⟨a, b, c, d, e, hq, hf⟩ := que_shape p l hl h0 h0' h1 h2
 rw [e]
 exact ⟨hs, hq, hf, hm⟩
theorem port_shape (l : List UInt8) (own : Int) (h : portB l own = true) : portV l own = -1 ∨ (0 ≤ portV l own ∧ portV l own ≤ 65535 ∧ portV l own ≠ own) := by
 by_cases hf : figsL l = true
 ·by_cases h0 : l = []
  ·rw [h0]; exact .inl (portL_empty own).1
  ·cases hn : portN 0 l with
   | none => rw [(portL_none l own hf h0 hn).2] at h; cases h
   | some n =>
    by_cases he : n = own
    ·rw [he] at hn; exact .inl (portL_own l own hf h0 hn).1
    ·rw [(portL_some l own n hf h0 hn he).1]
     have := portN_le l 0 n (by decide) (by decide) (figs_low l hf) hn
     exact .inr ⟨this.1, this.2, he⟩
 ·rw [(portL_nofig l own (by simpa using hf)).2] at h; cases h
theorem who_shape (p : P) (l : List UInt8) (hl : l.length ≤ 200) (h1 : p.us = ⟨#[]⟩) (h2 : p.pw = ⟨#[]⟩) : ∃ a b, whoP p l = { p with us := a, pw := b } ∧ clo 4 a.data.toList ∧ clo 4 b.data.toList := by
 unfold whoP
 cases h : atSplit l with
 | none =>
  refine ⟨⟨#[]⟩, ⟨#[]⟩, ?_, clo_nil 4, clo_nil 4⟩
  cases p; simp_all
 | some ab =>
  obtain ⟨a, b⟩ := ab
  have e := (at_some l a b h).1
  have ha : a.length ≤ 200 := by rw [e, List.length_append] at hl; omega
  refine ⟨_, _, rfl, wr_clo 4 (by decide) _ (Nat.le_trans (upL_le _ _) ha), wr_clo 4 (by decide) _ ?_⟩
  unfold behind
  rw [List.length_tail, List.length_drop]; omega
theorem nf_of_sch (t : List UInt8) (q : P) (hl : t.length ≤ 200) (h : schP P.zero t = some q) : Nf q := by
 unfold schP at h
 split at h
 ·rename_i hc
  obtain ⟨_, hs⟩ := hc
  obtain ⟨s, hsx⟩ : ∃ s, s = mk (low (upL [58] t)) := ⟨_, rfl⟩
  have hs' : schL s.data.toList = true := by rw [hsx, mk_data]; exact hs
  rw [← hsx] at h
  obtain ⟨m, hm⟩ : ∃ m, m = t.drop ((upL [58] t).length + 1) := ⟨_, rfl⟩
  have hml : m.length ≤ 200 := by rw [hm, List.length_drop]; omega
  rw [← hm] at h
  split at h
  ·rename_i ho
   unfold slaP hosP at h
   obtain ⟨k, hk⟩ : ∃ k, k = m.dropWhile (among [47, 92]) := ⟨_, rfl⟩
   have hkl : k.length ≤ 200 := by rw [hk]; exact Nat.le_trans (List.dropWhile_sublist _).length_le hml
   rw [← hk] at h
   rw [Option.map_eq_some_iff] at h
   obtain ⟨u, hu, he⟩ := h
   unfold autP at hu
   split at hu
   ·rename_i hb
    unfold autB at hb
    rw [Bool.and_eq_true] at hb
    have hu' : autQ { P.zero with sc := s, po := -1 } (upL [47, 92, 63, 35] k) = u := by simpa using hu
    have hal : (upL [47, 92, 63, 35] k).length ≤ 200 := Nat.le_trans (upL_le _ _) hkl
    obtain ⟨x, y, ew, cx, cy⟩ := who_shape ({ P.zero with sc := s, po := -1 }) (upL [47, 92, 63, 35] k) hal rfl rfl
    unfold autQ at hu'
    rw [ew] at hu'
    rw [← he]
    unfold patP
    have hdl : (k.drop (upL [47, 92, 63, 35] k).length).length ≤ 200 := by rw [List.length_drop]; omega
    have hpl : (upL [63, 35] (k.drop (upL [47, 92, 63, 35] k).length)).length ≤ 200 := Nat.le_trans (upL_le _ _) hdl
    subst hu'
    refine nf_que _ _ (by rw [List.length_drop]; omega) rfl rfl rfl rfl hs' (.inr ⟨ho, rfl, cx, cy, host_read _ hb.1, port_shape _ _ hb.2, path_ne _ hpl, path_fix _⟩)
   ·cases hu
  ·rename_i ho
   have h' : opqP { P.zero with sc := s, po := -1 } m = q := by simpa using h
   rw [← h']
   unfold opqP
   have hul : (upL [63, 35] m).length ≤ 200 := Nat.le_trans (upL_le _ _) hml
   refine nf_que _ _ (by rw [List.length_drop]; omega) rfl rfl rfl rfl hs' (.inl ⟨by show ownZ s < 0; omega, rfl, rfl, rfl, rfl, rfl, rfl, rfl, wr_clo 5 (by decide) _ hul, ?_⟩)
   intro c hc
   have hc' : c ∈ enc (isIn 5) (upL [63, 35] m) := by rw [← wr_small 5 _ hul]; exact hc
   unfold enc at hc'
   rw [List.mem_flatMap] at hc'
   obtain ⟨d, hd, hc'⟩ := hc'
   have hfree : among [63, 35] d = false := by
    rcases up_cases [63, 35] m with ⟨e, hh⟩ | ⟨a, x, b, e1, e2, hx, hh⟩
    ·rw [e] at hd; exact hh d hd
    ·rw [e2] at hd; exact hh d hd
   have hd2 : d ≠ 63 ∧ d ≠ 35 := by
    constructor
    ·intro e; rw [e] at hfree; revert hfree; decide
    ·intro e; rw [e] at hfree; revert hfree; decide
   have hfs := fig_shr d
   by_cases hi : isIn 5 d = true
   ·rw [encB_yes _ _ hi] at hc'
    simp only [List.mem_cons, List.not_mem_nil, or_false] at hc'
    have hfg : ∀ n : _root_.Fin 16, fig n.val ≠ 63 ∧ fig n.val ≠ 35 := by decide
    rcases hc' with rfl | rfl | rfl
    ·decide
    ·exact hfg ⟨_, hfs.1⟩
    ·exact hfg ⟨_, hfs.2⟩
   ·rw [encB_no _ _ (by simpa using hi)] at hc'
    simp only [List.mem_cons, List.not_mem_nil, or_false] at hc'
    rw [hc']; exact hd2
 ·cases h
theorem read_nf (l : List UInt8) (q : P) (h : getO l = some q) : Nf q ∧ l.length ≤ 200 ∧ q.ps.length ≤ 12 := by
 unfold getO at h
 split at h
 ·rename_i hl
  rw [Option.bind_eq_some_iff] at h
  obtain ⟨r, hr, h⟩ := h
  split at h
  ·rename_i hc
   have e : r = q := by simpa using h
   subst e
   exact ⟨nf_of_sch _ r (by have := trim_len l; omega) hr, hl, hc.1⟩
  ·cases h
 ·cases h
theorem ok_getO (q : P) : okP q ↔ getO (writL q) = some q := by
 unfold okP getB getP
 constructor
 ·rintro ⟨h1, h2⟩
  cases h : getO (writL q) with
  | none => rw [h] at h1; cases h1
  | some r => rw [h] at h2; exact congrArg some h2
 ·intro h
  rw [h]; exact ⟨rfl, rfl⟩
end Go.Proofs.YtfcbjdooijhibaaGreatDoor
end

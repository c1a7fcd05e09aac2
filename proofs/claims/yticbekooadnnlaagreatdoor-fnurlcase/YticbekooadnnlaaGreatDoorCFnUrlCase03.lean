/- Plain facts: what is read is in normal form; so an address is ok just if it is, and is not too long. An address without its end; three blocks for addresses. Plain facts: addresses without their ends, with other ends, in capital letters, with slashes of the other kind; ports. spec.UrlPut, impl.UrlPut, spec.PortOf, impl.PortOf: an address that is ok, written, and its port. -/
import Derived.Test.YticbekooadnnlaaGreatDoorCFnUrlCase02
import Derived.Test.YticbekooadnnlaaGreatDoorB30
import Derived.Test.YticbekooadnnlaaGreatDoorB31
section
set_option linter.unusedVariables false
set_option linter.unusedSimpArgs false
namespace Go.Proofs.YticbekooadnnlaaGreatDoor
open Go.RowKit Go.Shelf

theorem frag_shape (p : P) (l : List UInt8) (hl : l.length ≤ 200) (h1 : p.hf = false) (h2 : p.fr = ⟨#[]⟩) : ∃ c d, fragP p l = { p with hf := c, fr := d } ∧ ((c = true ∧ clo 3 d.data.toList) ∨ (c = false ∧ d = ⟨#[]⟩)) := by
  unfold fragP
  split
  · refine ⟨true, _, rfl, .inl ⟨rfl, wr_clo 3 (by decide) _ (by rw [List.length_tail]; omega)⟩⟩
  · refine ⟨false, ⟨#[]⟩, ?_, .inr ⟨rfl, rfl⟩⟩
    cases p; simp_all
theorem que_shape (p : P) (l : List UInt8) (hl : l.length ≤ 200) (h0 : p.hq = false) (h0' : p.qu = ⟨#[]⟩) (h1 : p.hf = false) (h2 : p.fr = ⟨#[]⟩) :
    ∃ a b c d, queP p l = { p with hq := a, qu := b, hf := c, fr := d } ∧ ((a = true ∧ clo 2 b.data.toList) ∨ (a = false ∧ b = ⟨#[]⟩)) ∧ ((c = true ∧ clo 3 d.data.toList) ∨ (c = false ∧ d = ⟨#[]⟩)) := by
  unfold queP
  have ht : l.tail.length ≤ 200 := by rw [List.length_tail]; omega
  split
  · have hu : (upL [35] l.tail).length ≤ 200 := Nat.le_trans (upL_le _ _) ht
    obtain ⟨c, d, e, h⟩ := frag_shape ({ p with hq := true, qu := wrT 2 (upL [35] l.tail) }) (l.tail.drop (upL [35] l.tail).length) (by rw [List.length_drop]; omega) h1 h2
    exact ⟨true, wrT 2 (upL [35] l.tail), c, d, e, .inl ⟨rfl, wr_clo 2 (by decide) _ hu⟩, h⟩
  · obtain ⟨c, d, e, h⟩ := frag_shape p l hl h1 h2
    refine ⟨false, ⟨#[]⟩, c, d, ?_, .inr ⟨rfl, rfl⟩, h⟩
    rw [e]
    cases p; simp_all
theorem nf_que (p : P) (l : List UInt8) (hl : l.length ≤ 200) (h0 : p.hq = false) (h0' : p.qu = ⟨#[]⟩) (h1 : p.hf = false) (h2 : p.fr = ⟨#[]⟩) (hs : schL p.sc.data.toList = true)
    (hm : (ownZ p.sc < 0 ∧ p.us = ⟨#[]⟩ ∧ p.pw = ⟨#[]⟩ ∧ p.hk = 0 ∧ p.hn = ⟨#[]⟩ ∧ p.ha = 0 ∧ p.po = -1 ∧ p.ps = [] ∧ clo 5 p.op.data.toList ∧ ∀ c ∈ p.op.data.toList, c ≠ 63 ∧ c ≠ 35) ∨
      (0 ≤ ownZ p.sc ∧ p.op = ⟨#[]⟩ ∧ clo 4 p.us.data.toList ∧ clo 4 p.pw.data.toList ∧ hostN p.hk p.hn p.ha ∧ (p.po = -1 ∨ (0 ≤ p.po ∧ p.po ≤ 65535 ∧ p.po ≠ ownZ p.sc)) ∧ p.ps ≠ [] ∧ ∀ x ∈ p.ps, fixP x)) : Nf (queP p l) := by
  obtain ⟨a, b, c, d, e, hq, hf⟩ := que_shape p l hl h0 h0' h1 h2
  rw [e]
  exact ⟨hs, hq, hf, hm⟩
theorem port_shape (l : List UInt8) (own : Int) (h : portB l own = true) : portV l own = -1 ∨ (0 ≤ portV l own ∧ portV l own ≤ 65535 ∧ portV l own ≠ own) := by
  by_cases hf : figsL l = true
  · by_cases h0 : l = []
    · rw [h0]; exact .inl (portL_empty own).1
    · cases hn : portN 0 l with
      | none => rw [(portL_none l own hf h0 hn).2] at h; cases h
      | some n =>
        by_cases he : n = own
        · rw [he] at hn; exact .inl (portL_own l own hf h0 hn).1
        · rw [(portL_some l own n hf h0 hn he).1]
          have := portN_le l 0 n (by decide) (by decide) (figs_low l hf) hn
          exact .inr ⟨this.1, this.2, he⟩
  · rw [(portL_nofig l own (by simpa using hf)).2] at h; cases h
theorem who_shape (p : P) (l : List UInt8) (hl : l.length ≤ 200) (h1 : p.us = ⟨#[]⟩) (h2 : p.pw = ⟨#[]⟩) : ∃ a b, whoP p l = { p with us := a, pw := b } ∧ clo 4 a.data.toList ∧ clo 4 b.data.toList := by
  unfold whoP
  cases h : atSplit l with
  | none =>
    refine ⟨⟨#[]⟩, ⟨#[]⟩, ?_, clo_nil 4, clo_nil 4⟩
    cases p; simp_all
  | some ab =>
    obtain ⟨a, b⟩ := ab
    have e := (at_some l a b h).1
    have ha : a.length ≤ 200 := by rw [e, List.length_append] at hl; omega
    refine ⟨_, _, rfl, wr_clo 4 (by decide) _ (Nat.le_trans (upL_le _ _) ha), wr_clo 4 (by decide) _ ?_⟩
    unfold behind
    rw [List.length_tail, List.length_drop]; omega
theorem nf_of_sch (t : List UInt8) (q : P) (hl : t.length ≤ 200) (h : schP P.zero t = some q) : Nf q := by
  unfold schP at h
  split at h
  · rename_i hc
    obtain ⟨_, hs⟩ := hc
    obtain ⟨s, hsx⟩ : ∃ s, s = mk (low (upL [58] t)) := ⟨_, rfl⟩
    have hs' : schL s.data.toList = true := by rw [hsx, mk_data]; exact hs
    rw [← hsx] at h
    obtain ⟨m, hm⟩ : ∃ m, m = t.drop ((upL [58] t).length + 1) := ⟨_, rfl⟩
    have hml : m.length ≤ 200 := by rw [hm, List.length_drop]; omega
    rw [← hm] at h
    split at h
    · rename_i ho
      unfold slaP hosP at h
      obtain ⟨k, hk⟩ : ∃ k, k = m.dropWhile (among [47, 92]) := ⟨_, rfl⟩
      have hkl : k.length ≤ 200 := by rw [hk]; exact Nat.le_trans (List.dropWhile_sublist _).length_le hml
      rw [← hk] at h
      rw [Option.map_eq_some_iff] at h
      obtain ⟨u, hu, he⟩ := h
      unfold autP at hu
      split at hu
      · rename_i hb
        unfold autB at hb
        rw [Bool.and_eq_true] at hb
        have hu' : autQ { P.zero with sc := s, po := -1 } (upL [47, 92, 63, 35] k) = u := by simpa using hu
        have hal : (upL [47, 92, 63, 35] k).length ≤ 200 := Nat.le_trans (upL_le _ _) hkl
        obtain ⟨x, y, ew, cx, cy⟩ := who_shape ({ P.zero with sc := s, po := -1 }) (upL [47, 92, 63, 35] k) hal rfl rfl
        unfold autQ at hu'
        rw [ew] at hu'
        rw [← he]
        unfold patP
        have hdl : (k.drop (upL [47, 92, 63, 35] k).length).length ≤ 200 := by rw [List.length_drop]; omega
        have hpl : (upL [63, 35] (k.drop (upL [47, 92, 63, 35] k).length)).length ≤ 200 := Nat.le_trans (upL_le _ _) hdl
        subst hu'
        refine nf_que _ _ (by rw [List.length_drop]; omega) rfl rfl rfl rfl hs' (.inr ⟨ho, rfl, cx, cy, host_read _ hb.1, port_shape _ _ hb.2, path_ne _ hpl, path_fix _⟩)
      · cases hu
    · rename_i ho
      have h' : opqP { P.zero with sc := s, po := -1 } m = q := by simpa using h
      rw [← h']
      unfold opqP
      have hul : (upL [63, 35] m).length ≤ 200 := Nat.le_trans (upL_le _ _) hml
      refine nf_que _ _ (by rw [List.length_drop]; omega) rfl rfl rfl rfl hs' (.inl ⟨by show ownZ s < 0; omega, rfl, rfl, rfl, rfl, rfl, rfl, rfl, wr_clo 5 (by decide) _ hul, ?_⟩)
      intro c hc
      have hc' : c ∈ enc (isIn 5) (upL [63, 35] m) := by rw [← wr_small 5 _ hul]; exact hc
      unfold enc at hc'
      rw [List.mem_flatMap] at hc'
      obtain ⟨d, hd, hc'⟩ := hc'
      have hfree : among [63, 35] d = false := by
        rcases up_cases [63, 35] m with ⟨e, hh⟩ | ⟨a, x, b, e1, e2, hx, hh⟩
        · rw [e] at hd; exact hh d hd
        · rw [e2] at hd; exact hh d hd
      have hd2 : d ≠ 63 ∧ d ≠ 35 := by
        constructor
        · intro e; rw [e] at hfree; revert hfree; decide
        · intro e; rw [e] at hfree; revert hfree; decide
      have hfs := fig_shr d
      by_cases hi : isIn 5 d = true
      · rw [encB_yes _ _ hi] at hc'
        simp only [List.mem_cons, List.not_mem_nil, or_false] at hc'
        have hfg : ∀ n : _root_.Fin 16, fig n.val ≠ 63 ∧ fig n.val ≠ 35 := by decide
        rcases hc' with rfl | rfl | rfl
        · decide
        · exact hfg ⟨_, hfs.1⟩
        · exact hfg ⟨_, hfs.2⟩
      · rw [encB_no _ _ (by simpa using hi)] at hc'
        simp only [List.mem_cons, List.not_mem_nil, or_false] at hc'
        rw [hc']; exact hd2
  · cases h
theorem read_nf (l : List UInt8) (q : P) (h : getO l = some q) : Nf q ∧ l.length ≤ 200 ∧ q.ps.length ≤ 12 := by
  unfold getO at h
  split at h
  · rename_i hl
    rw [Option.bind_eq_some_iff] at h
    obtain ⟨r, hr, h⟩ := h
    split at h
    · rename_i hc
      have e : r = q := by simpa using h
      subst e
      exact ⟨nf_of_sch _ r (by have := trim_len l; omega) hr, hl, hc.1⟩
    · cases h
  · cases h
theorem ok_getO (q : P) : okP q ↔ getO (writL q) = some q := by
  unfold okP getB getP
  constructor
  · rintro ⟨h1, h2⟩
    cases h : getO (writL q) with
    | none => rw [h] at h1; cases h1
    | some r => rw [h] at h2; exact congrArg some h2
  · intro h
    rw [h]; exact ⟨rfl, rfl⟩
/-- An address is ok just if it is in normal form, and neither it nor its path is too long. -/
theorem ok_iff (q : P) : okP q ↔ Nf q ∧ (writL q).length ≤ 200 ∧ q.ps.length ≤ 12 := by
  rw [ok_getO]
  exact ⟨fun h => read_nf _ q h, fun h => nf_read q h.1 h.2.1 h.2.2⟩
end Go.Proofs.YticbekooadnnlaaGreatDoor
end

section
set_option linter.unusedVariables false
set_option linter.unusedSimpArgs false
namespace Go.Proofs.YticbekooadnnlaaGreatDoor
open Go.RowKit Go.Shelf

def bsP (q : P) : P := { q with hf := false, fr := ⟨#[]⟩ }
theorem bsP_ps (q : P) : (bsP q).ps = q.ps := rfl
end Go.Proofs.YticbekooadnnlaaGreatDoor
end

section
set_option linter.unusedVariables false
set_option linter.unusedSimpArgs false
namespace Go.Proofs.YticbekooadnnlaaGreatDoor
open Go.RowKit Go.Shelf

theorem base_again (q : P) : bsP (bsP q) = bsP q := rfl
theorem writ_base (q : P) : (writL (bsP q)).length ≤ (writL q).length := by
  have e1 : mainL (bsP q) = mainL q := rfl
  have e2 : queL (bsP q) = queL q := rfl
  have e3 : frgL (bsP q) = [] := rfl
  unfold writL tailL
  rw [e1, e2, e3]
  show (q.sc.data.toList ++ _).length ≤ _
  simp
theorem ok_base (q : P) (h : okP q) : okP (bsP q) := by
  rw [ok_iff] at h ⊢
  obtain ⟨hn, hl, hp⟩ := h
  refine ⟨⟨hn.sch, hn.que, .inr ⟨rfl, rfl⟩, hn.main⟩, Nat.le_trans (writ_base q) hl, hp⟩
theorem writ_inj (a b : P) (ha : okP a) (hb : okP b) (h : writL a = writL b) : a = b := by
  rw [ok_getO] at ha hb
  rw [h, hb] at ha
  exact (Option.some.inj ha).symm
/-- The port of an address that is ok: none, or one that is not the scheme's own. -/
theorem ok_port (q : P) (h : okP q) : (q.po = -1 ∨ (0 ≤ q.po ∧ q.po ≤ 65535 ∧ q.po ≠ ownZ q.sc ∧ 0 ≤ ownZ q.sc)) := by
  rw [ok_iff] at h
  rcases h.1.main with ⟨_, _, _, _, _, _, h, _⟩ | ⟨h0, _, _, _, _, h, _⟩
  · exact .inl h
  · rcases h with h | ⟨h1, h2, h3⟩
    · exact .inl h
    · exact .inr ⟨h1, h2, h3, h0⟩
theorem own_cases (s : ByteArray) : (s = ⟨#[104, 116, 116, 112]⟩ ∧ ownZ s = 80) ∨ (s = ⟨#[104, 116, 116, 112, 115]⟩ ∧ ownZ s = 443) ∨ (s ≠ ⟨#[104, 116, 116, 112]⟩ ∧ s ≠ ⟨#[104, 116, 116, 112, 115]⟩ ∧ ownZ s = -1) := by
  unfold ownZ
  by_cases h1 : s = ⟨#[104, 116, 116, 112]⟩
  · exact .inl ⟨h1, by rw [if_pos h1]⟩
  · by_cases h2 : s = ⟨#[104, 116, 116, 112, 115]⟩
    · exact .inr (.inl ⟨h2, by rw [if_neg h1, if_pos h2]⟩)
    · exact .inr (.inr ⟨h1, h2, by rw [if_neg h1, if_neg h2]⟩)
/-- With the scheme's own port as its port no address is ok. -/
theorem own_port (q : P) (h0 : 0 ≤ ownZ q.sc) (h : q.po = ownZ q.sc) : ¬ okP q := by
  intro ho
  rcases ok_port q ho with h1 | ⟨_, _, h2, _⟩
  · omega
  · exact h2 h
/-- An address with another query and end. -/
def partsP (q : P) (x y : ByteArray) : P := { q with hq := true, qu := x, hf := true, fr := y }
theorem writ_parts (q : P) (x y : ByteArray) : (writL (partsP q x y)).length ≤ (writL q).length + x.data.toList.length + y.data.toList.length + 2 := by
  have e1 : mainL (partsP q x y) = mainL q := rfl
  have e2 : queL (partsP q x y) = 63 :: x.data.toList := rfl
  have e3 : frgL (partsP q x y) = 35 :: y.data.toList := rfl
  unfold writL tailL
  rw [e1, e2, e3]
  show (q.sc.data.toList ++ _).length ≤ _
  simp
  omega
theorem ok_parts (q : P) (x y : ByteArray) (h : okP q) (hx : clo 2 x.data.toList) (hy : clo 3 y.data.toList) (hl : (writL q).length + x.data.toList.length + y.data.toList.length + 2 ≤ 200) : okP (partsP q x y) := by
  rw [ok_iff] at h ⊢
  obtain ⟨hn, _, hp⟩ := h
  exact ⟨⟨hn.sch, .inl ⟨rfl, hx⟩, .inl ⟨rfl, hy⟩, hn.main⟩, Nat.le_trans (writ_parts q x y) hl, hp⟩
/-- A scheme in other letters is read as the same. -/
theorem case_read (q : P) (X : List UInt8) (h : okP q) (hX : low X = q.sc.data.toList) (h1 : ∀ c ∈ X, 33 ≤ c.toNat ∧ c ≠ 58) : getO (X ++ ([58] ++ (mainL q ++ tailL q))) = some q := by
  have hl := h
  rw [ok_iff] at hl
  obtain ⟨hn, hl, hp⟩ := hl
  have hlen : (X ++ ([58] ++ (mainL q ++ tailL q))).length = (writL q).length := by
    have e : q.sc.data.toList.length = X.length := by rw [← hX, low_length]
    unfold writL
    simp only [List.length_append]
    omega
  have hvis : ∀ c ∈ X ++ ([58] ++ (mainL q ++ tailL q)), 33 ≤ c.toNat := by
    intro c hc
    rcases List.mem_append.1 hc with hc | hc
    · exact (h1 c hc).1
    · exact writ_vis q hn c (by unfold writL; exact List.mem_append_right _ hc)
  have hs := nf_sch q hn hl
  have e1 : upL [58] (writL q) = q.sc.data.toList := by
    unfold writL
    refine up_hit _ _ _ 58 (fun d hd => ?_) (by decide)
    have := (schB_facts d (sch_bytes _ hn.sch d hd)).2.2
    rw [among_one]; simpa using this
  have e2 : (writL q).drop q.sc.data.toList.length = 58 :: (mainL q ++ tailL q) := by unfold writL; rw [List.drop_left]; rfl
  have e3 : (writL q).drop (q.sc.data.toList.length + 1) = mainL q ++ tailL q := by rw [← List.drop_drop, e2]; rfl
  have e4 : low q.sc.data.toList = q.sc.data.toList := low_same _ (fun c hc => (schB_facts c (sch_bytes _ hn.sch c hc)).1)
  have f1 : upL [58] (X ++ ([58] ++ (mainL q ++ tailL q))) = X := by
    refine up_hit _ _ _ 58 (fun d hd => ?_) (by decide)
    have := (h1 d hd).2
    rw [among_one]; simpa using this
  have f2 : (X ++ ([58] ++ (mainL q ++ tailL q))).drop X.length = 58 :: (mainL q ++ tailL q) := by rw [List.drop_left]; rfl
  have f3 : (X ++ ([58] ++ (mainL q ++ tailL q))).drop (X.length + 1) = mainL q ++ tailL q := by rw [← List.drop_drop, f2]; rfl
  unfold schP at hs
  rw [e1, e2, e3, e4] at hs
  unfold getO
  rw [if_pos (by omega), trim_vis _ hvis]
  unfold schP
  rw [f1, f2, f3, hX, hs]
  show (if q.ps.length ≤ 12 ∧ (writL q).length ≤ 600 then some q else none) = some q
  rw [if_pos ⟨hp, by omega⟩]
/-- Slashes of the other kind, up to a question mark or a sharp sign. -/
def turnS (l : List UInt8) : List UInt8 := turnL 47 92 (upL [63, 35] l) ++ l.drop (upL [63, 35] l).length
theorem turn_app (a b : List UInt8) : turnL 47 92 (a ++ b) = turnL 47 92 a ++ turnL 47 92 b := by unfold turnL; simp
theorem turn_same (a : List UInt8) (h : ∀ c ∈ a, c ≠ 47) : turnL 47 92 a = a := by
  unfold turnL
  conv => rhs; rw [← List.map_id a]
  exact List.map_congr_left (fun c hc => by simp [h c hc])
theorem slash_turn (l : List UInt8) : slashL (turnL 47 92 l) = slashL l := by
  unfold slashL turnL
  rw [List.map_map]
  apply List.map_congr_left
  intro c hc
  simp only [Function.comp]
  by_cases h : c = 47
  · subst h; decide
  · rw [if_neg h]
/-- Trimming: what cannot be seen ahead and behind, and a line end within. -/
theorem mid_ahead (a l : List UInt8) (h : ∀ c ∈ a, low32 c = true) : midL (a ++ l) = midL l := by
  unfold midL
  rw [List.dropWhile_append_of_pos h]
theorem dw_all (l : List UInt8) (h : ∀ c ∈ l, low32 c = true) : l.dropWhile low32 = [] := by
  have := List.dropWhile_append_of_pos (l₂ := []) h
  simpa using this
theorem mid_rev (l : List UInt8) : midL l = ((l.reverse.dropWhile low32).reverse.dropWhile low32) := by
  unfold midL
  by_cases h : ∀ c ∈ l, low32 c = true
  · have e1 : l.dropWhile low32 = [] := dw_all l h
    have e2 : l.reverse.dropWhile low32 = [] := dw_all _ (fun c hc => h c (List.mem_reverse.1 hc))
    rw [e1, e2]; rfl
  · obtain ⟨c, hc, hl⟩ : ∃ c ∈ l, low32 c = false := by
      apply Classical.byContradiction
      intro hx
      apply h
      intro c hc
      cases hl : low32 c with
      | true => rfl
      | false => exact absurd ⟨c, hc, hl⟩ hx
    obtain ⟨a, b, hab⟩ := List.append_of_mem hc
    subst hab
    have e1 : (a ++ c :: b).dropWhile low32 = a.dropWhile low32 ++ c :: b := by
      rw [List.dropWhile_append]
      split
      · rename_i he
        have : a.dropWhile low32 = [] := List.isEmpty_iff.1 he
        rw [this, List.dropWhile_cons, if_neg (by rw [hl]; decide)]; rfl
      · rfl
    have e2 : ∀ x y : List UInt8, (x ++ c :: y).reverse.dropWhile low32 = y.reverse.dropWhile low32 ++ c :: x.reverse := by
      intro x y
      rw [List.reverse_append, List.reverse_cons, List.append_assoc]
      show (y.reverse ++ c :: x.reverse).dropWhile low32 = _
      rw [List.dropWhile_append]
      split
      · rename_i he
        have : y.reverse.dropWhile low32 = [] := List.isEmpty_iff.1 he
        rw [this, List.dropWhile_cons, if_neg (by rw [hl]; decide)]; rfl
      · rfl
    rw [e1, e2, e2]
    rw [List.reverse_append, List.reverse_cons, List.reverse_append, List.reverse_cons, List.reverse_reverse, List.reverse_reverse]
    simp only [List.append_assoc, List.singleton_append]
    rw [List.dropWhile_append]
    split
    · rename_i he
      have : a.dropWhile low32 = [] := List.isEmpty_iff.1 he
      rw [this, List.dropWhile_cons, if_neg (by rw [hl]; decide)]; rfl
    · rfl
theorem mid_behind (b l : List UInt8) (h : ∀ c ∈ b, low32 c = true) : midL (l ++ b) = midL l := by
  rw [mid_rev, mid_rev, List.reverse_append, List.dropWhile_append_of_pos (fun c hc => h c (List.mem_reverse.1 hc))]
theorem trim_drop (l : List UInt8) : trimL l = dropT (midL l) := rfl
end Go.Proofs.YticbekooadnnlaaGreatDoor
end

section
set_option linter.unusedVariables false
set_option linter.unusedSimpArgs false
namespace Go.Proofs.YticbekooadnnlaaGreatDoor
open Go.RowKit Go.Shelf

set_option maxHeartbeats 4000000 in
set_option maxRecDepth 100000 in
theorem specUrlPut (q : P) (a : Option Addr) (n c : Nat) (w : World) (hS : StrsOf a n q.ps w) (hs : q.tot ≤ 1048576) (hpo : q.po ≤ 9223372036854775807) (b : Bool) (hb : b = true ↔ okP q) :
    Calls Tryz.prog 12 #[.agg (q.cells (.slice a n c))] w fun e w' => e = .returned (.string (if b = true then mk (writL q) else ⟨#[]⟩)) ∧ Below w.heap.size w w' := by
  have hn : n = q.ps.length := hS.1
  have H0 : Hid (Wp w q (.slice a n c) (w.alloc (.cells #[(.string q.sc), (.string q.us), (.string q.pw), (.int .i64 q.hk), (.string q.hn), (.int .i64 q.ha), (.int .i64 q.po), (.slice a n c), (.string q.op), (.bool q.hq), (.string q.qu), (.bool q.hf), (.string q.fr)] 27))) := Wp.start w q _
  have CO : Hid (∀ W, Below w.heap.size w W → Calls Tryz.prog 14 #[.agg #[(.string q.sc), (.string q.us), (.string q.pw), (.int .i64 q.hk), (.string q.hn), (.int .i64 q.ha), (.int .i64 q.po), (.slice a n c), (.string q.op), (.bool q.hq), (.string q.qu), (.bool q.hf), (.string q.fr)]] W fun e w' => e = .returned (.bool b) ∧ Below W.heap.size W w') := fun W d => specUrlOk q a n c W (hS.later d) hs hpo b hb
  have CP : Hid (∀ W, Below w.heap.size w W → Calls Tryz.prog 34 #[.agg #[(.string q.sc), (.string q.us), (.string q.pw), (.int .i64 q.hk), (.string q.hn), (.int .i64 q.ha), (.int .i64 q.po), (.slice a n c), (.string q.op), (.bool q.hq), (.string q.qu), (.bool q.hf), (.string q.fr)]] W fun e w' => e = .returned (.string (mk (writL q))) ∧ Below W.heap.size W w') := fun W d => by
    rw [hn]
    exact l3Put q a c W (by rw [← hn]; exact hS.later d) (by omega) hpo (fun h W => l1DecL q.po W h hpo)
  clear hS hs hpo hb hn
  unfold P.cells
  cases b with
  | false =>
    rw [if_neg (by decide)]
    go_enter Tryz.func12, Tryz.ntmps12
    go_wp2_with fail
    refine (CO.out _ H0.out.bw).mono ?_
    rintro e W1 ⟨rfl, d1⟩
    have HX1 : Hid (Wp w q (.slice a n c) W1) := H0.out.later d1
    go_wp2
    go_ret
    exact ⟨rfl, HX1.out.bw⟩
  | true =>
    rw [if_pos rfl]
    go_enter Tryz.func12, Tryz.ntmps12
    go_wp2_with fail
    refine (CO.out _ H0.out.bw).mono ?_
    rintro e W1 ⟨rfl, d1⟩
    have HX1 : Hid (Wp w q (.slice a n c) W1) := H0.out.later d1
    clear d1 H0 CO
    obtain ⟨k0, k1, k2, k3, k4, k5, k6, k7, k8, k9, k10, k11, k12⟩ := Blk.cells13 (q := q) HX1.out.bx
    go_wp2_with fail
    refine (CP.out _ HX1.out.bw).mono ?_
    rintro e W2 ⟨rfl, d2⟩
    have HX2 : Hid (Below w.heap.size w W2) := HX1.out.bw.trans (d2.mono HX1.out.bw.size)
    go_wp2
    go_ret
    exact ⟨rfl, HX2.out⟩
set_option maxHeartbeats 4000000 in
set_option maxRecDepth 100000 in
theorem specPortOf (q : P) (a : Option Addr) (n c : Nat) (w : World) (hS : StrsOf a n q.ps w) (hs : q.tot ≤ 1048576) (hpo : q.po ≤ 9223372036854775807) (b : Bool) (hb : b = true ↔ okP q) :
    Calls Tryz.prog 26 #[.agg (q.cells (.slice a n c))] w fun e w' => e = .returned (.int .i64 (if b = true then (if q.po < 0 then ownZ q.sc else q.po) else -1)) ∧ Below w.heap.size w w' := by
  have hn : n = q.ps.length := hS.1
  have H0 : Hid (Wp w q (.slice a n c) (w.alloc (.cells #[(.string q.sc), (.string q.us), (.string q.pw), (.int .i64 q.hk), (.string q.hn), (.int .i64 q.ha), (.int .i64 q.po), (.slice a n c), (.string q.op), (.bool q.hq), (.string q.qu), (.bool q.hf), (.string q.fr)] 27))) := Wp.start w q _
  have CO : Hid (∀ W, Below w.heap.size w W → Calls Tryz.prog 14 #[.agg #[(.string q.sc), (.string q.us), (.string q.pw), (.int .i64 q.hk), (.string q.hn), (.int .i64 q.ha), (.int .i64 q.po), (.slice a n c), (.string q.op), (.bool q.hq), (.string q.qu), (.bool q.hf), (.string q.fr)]] W fun e w' => e = .returned (.bool b) ∧ Below W.heap.size W w') := fun W d => specUrlOk q a n c W (hS.later d) hs hpo b hb
  have CP : Hid (∀ W, Calls Tryz.prog 51 #[.string q.sc] W fun e w' => e = .returned (.int .i64 (ownZ q.sc)) ∧ w' = W) := fun W => l3Own q.sc W
  clear hS hs hpo hb hn
  unfold P.cells
  cases b with
  | false =>
    rw [if_neg (by decide)]
    go_enter Tryz.func26, Tryz.ntmps26
    go_wp2_with fail
    refine (CO.out _ H0.out.bw).mono ?_
    rintro e W1 ⟨rfl, d1⟩
    have HX1 : Hid (Wp w q (.slice a n c) W1) := H0.out.later d1
    go_wp2
    go_ret
    exact ⟨rfl, HX1.out.bw⟩
  | true =>
    rw [if_pos rfl]
    by_cases hp : q.po < 0
    · rw [if_pos hp]
      go_enter Tryz.func26, Tryz.ntmps26
      go_wp2_with fail
      refine (CO.out _ H0.out.bw).mono ?_
      rintro e W1 ⟨rfl, d1⟩
      have HX1 : Hid (Wp w q (.slice a n c) W1) := H0.out.later d1
      clear d1 H0 CO
      obtain ⟨k0, k1, k2, k3, k4, k5, k6, k7, k8, k9, k10, k11, k12⟩ := Blk.cells13 (q := q) HX1.out.bx
      go_wp2_with fail
      refine (CP.out _).mono ?_
      rintro e W2 ⟨rfl, hW⟩
      have hW2 := hW.symm
      subst hW2
      go_wp2
      go_ret
      exact ⟨rfl, HX1.out.bw⟩
    · rw [if_neg hp]
      go_enter Tryz.func26, Tryz.ntmps26
      go_wp2_with fail
      refine (CO.out _ H0.out.bw).mono ?_
      rintro e W1 ⟨rfl, d1⟩
      have HX1 : Hid (Wp w q (.slice a n c) W1) := H0.out.later d1
      clear d1 H0 CO
      obtain ⟨k0, k1, k2, k3, k4, k5, k6, k7, k8, k9, k10, k11, k12⟩ := Blk.cells13 (q := q) HX1.out.bx
      go_wp2
      go_ret
      exact ⟨rfl, HX1.out.bw⟩
set_option maxHeartbeats 4000000 in
set_option maxRecDepth 100000 in
theorem implUrlPut (q : P) (a : Option Addr) (n c : Nat) (w : World) (hL : Lean1 w) (hS : StrsOf a n q.ps w) (hs : q.tot ≤ 1048576) (hpo : q.po ≤ 9223372036854775807) (b : Bool) (hb : b = true ↔ okP q) :
    Calls Tryz.prog 10 #[.agg (q.cells (.slice a n c))] w fun e w' => e = .returned (.string (if b = true then mk (writL q) else ⟨#[]⟩)) ∧ Below w.heap.size w w' := by
  have hn : n = q.ps.length := hS.1
  have H0 : Hid (Wp w q (.slice a n c) (w.alloc (.cells #[(.string q.sc), (.string q.us), (.string q.pw), (.int .i64 q.hk), (.string q.hn), (.int .i64 q.ha), (.int .i64 q.po), (.slice a n c), (.string q.op), (.bool q.hq), (.string q.qu), (.bool q.hf), (.string q.fr)] 27))) := Wp.start w q _
  have CO : Hid (∀ W, Below w.heap.size w W → Calls Tryz.prog 13 #[.agg #[(.string q.sc), (.string q.us), (.string q.pw), (.int .i64 q.hk), (.string q.hn), (.int .i64 q.ha), (.int .i64 q.po), (.slice a n c), (.string q.op), (.bool q.hq), (.string q.qu), (.bool q.hf), (.string q.fr)]] W fun e w' => e = .returned (.bool b) ∧ Below W.heap.size W w') := fun W d => implUrlOk q a n c W (hL.below d) (hS.later d) hs hpo b hb
  have CP : Hid (∀ W, Below w.heap.size w W → Calls Tryz.prog 29 #[.agg #[(.string q.sc), (.string q.us), (.string q.pw), (.int .i64 q.hk), (.string q.hn), (.int .i64 q.ha), (.int .i64 q.po), (.slice a n c), (.string q.op), (.bool q.hq), (.string q.qu), (.bool q.hf), (.string q.fr)]] W fun e w' => e = .returned (.string (mk (writL q))) ∧ Below W.heap.size W w') := fun W d => by
    rw [hn]
    exact urlWrite q a c W (hL.below d).base (by rw [← hn]; exact hS.later d) (by omega) hpo
  clear hS hs hpo hb hn hL
  unfold P.cells
  cases b with
  | false =>
    rw [if_neg (by decide)]
    go_enter Tryz.func10, Tryz.ntmps10
    go_wp2_with fail
    refine (CO.out _ H0.out.bw).mono ?_
    rintro e W1 ⟨rfl, d1⟩
    have HX1 : Hid (Wp w q (.slice a n c) W1) := H0.out.later d1
    go_wp2
    go_ret
    exact ⟨rfl, HX1.out.bw⟩
  | true =>
    rw [if_pos rfl]
    go_enter Tryz.func10, Tryz.ntmps10
    go_wp2_with fail
    refine (CO.out _ H0.out.bw).mono ?_
    rintro e W1 ⟨rfl, d1⟩
    have HX1 : Hid (Wp w q (.slice a n c) W1) := H0.out.later d1
    clear d1 H0 CO
    obtain ⟨k0, k1, k2, k3, k4, k5, k6, k7, k8, k9, k10, k11, k12⟩ := Blk.cells13 (q := q) HX1.out.bx
    go_wp2_with fail
    refine (CP.out _ HX1.out.bw).mono ?_
    rintro e W2 ⟨rfl, d2⟩
    have HX2 : Hid (Below w.heap.size w W2) := HX1.out.bw.trans (d2.mono HX1.out.bw.size)
    go_wp2
    go_ret
    exact ⟨rfl, HX2.out⟩
set_option maxHeartbeats 4000000 in
set_option maxRecDepth 100000 in
theorem implPortOf (q : P) (a : Option Addr) (n c : Nat) (w : World) (hL : Lean1 w) (hS : StrsOf a n q.ps w) (hs : q.tot ≤ 1048576) (hpo : q.po ≤ 9223372036854775807) (b : Bool) (hb : b = true ↔ okP q) :
    Calls Tryz.prog 25 #[.agg (q.cells (.slice a n c))] w fun e w' => e = .returned (.int .i64 (if b = true then (if q.po < 0 then ownZ q.sc else q.po) else -1)) ∧ Below w.heap.size w w' := by
  have hn : n = q.ps.length := hS.1
  have H0 : Hid (Wp w q (.slice a n c) (w.alloc (.cells #[(.string q.sc), (.string q.us), (.string q.pw), (.int .i64 q.hk), (.string q.hn), (.int .i64 q.ha), (.int .i64 q.po), (.slice a n c), (.string q.op), (.bool q.hq), (.string q.qu), (.bool q.hf), (.string q.fr)] 27))) := Wp.start w q _
  have CO : Hid (∀ W, Below w.heap.size w W → Calls Tryz.prog 13 #[.agg #[(.string q.sc), (.string q.us), (.string q.pw), (.int .i64 q.hk), (.string q.hn), (.int .i64 q.ha), (.int .i64 q.po), (.slice a n c), (.string q.op), (.bool q.hq), (.string q.qu), (.bool q.hf), (.string q.fr)]] W fun e w' => e = .returned (.bool b) ∧ Below W.heap.size W w') := fun W d => implUrlOk q a n c W (hL.below d) (hS.later d) hs hpo b hb
  have CP : Hid (∀ W, Calls Tryz.prog 50 #[.string q.sc] W fun e w' => e = .returned (.int .i64 (ownZ q.sc)) ∧ w' = W) := fun W => schemePort q.sc W
  clear hS hs hpo hb hn hL
  unfold P.cells
  cases b with
  | false =>
    rw [if_neg (by decide)]
    go_enter Tryz.func25, Tryz.ntmps25
    go_wp2_with fail
    refine (CO.out _ H0.out.bw).mono ?_
    rintro e W1 ⟨rfl, d1⟩
    have HX1 : Hid (Wp w q (.slice a n c) W1) := H0.out.later d1
    go_wp2
    go_ret
    exact ⟨rfl, HX1.out.bw⟩
  | true =>
    rw [if_pos rfl]
    by_cases hp : q.po < 0
    · rw [if_pos hp]
      go_enter Tryz.func25, Tryz.ntmps25
      go_wp2_with fail
      refine (CO.out _ H0.out.bw).mono ?_
      rintro e W1 ⟨rfl, d1⟩
      have HX1 : Hid (Wp w q (.slice a n c) W1) := H0.out.later d1
      clear d1 H0 CO
      obtain ⟨k0, k1, k2, k3, k4, k5, k6, k7, k8, k9, k10, k11, k12⟩ := Blk.cells13 (q := q) HX1.out.bx
      go_wp2_with fail
      refine (CP.out _).mono ?_
      rintro e W2 ⟨rfl, hW⟩
      have hW2 := hW.symm
      subst hW2
      go_wp2
      go_ret
      exact ⟨rfl, HX1.out.bw⟩
    · rw [if_neg hp]
      go_enter Tryz.func25, Tryz.ntmps25
      go_wp2_with fail
      refine (CO.out _ H0.out.bw).mono ?_
      rintro e W1 ⟨rfl, d1⟩
      have HX1 : Hid (Wp w q (.slice a n c) W1) := H0.out.later d1
      clear d1 H0 CO
      obtain ⟨k0, k1, k2, k3, k4, k5, k6, k7, k8, k9, k10, k11, k12⟩ := Blk.cells13 (q := q) HX1.out.bx
      go_wp2
      go_ret
      exact ⟨rfl, HX1.out.bw⟩
end Go.Proofs.YticbekooadnnlaaGreatDoor
end

/- Plain facts: what is read is in normal form; so an address is ok just if it is, and is not too long. An address without its end; three blocks for addresses. Plain facts: addresses without their ends, with other ends, in capital letters, with slashes of the other kind; ports. Plain facts: what is read of at most 60 bytes is ok. -/
import Derived.Test.YticbekooadnnlaaGreatDoorCFnUrlText02
import Derived.Test.YticbekooadnnlaaGreatDoorB30
import Derived.Test.YticbekooadnnlaaGreatDoorB31
section
set_option linter.unusedVariables false
set_option linter.unusedSimpArgs false
namespace Go.Proofs.YticbekooadnnlaaGreatDoor
open Go.RowKit Go.Shelf

theorem frag_shape (p : P) (l : List UInt8) (hl : l.length ≤ 200) (h1 : p.hf = false) (h2 : p.fr = ⟨#[]⟩) : ∃ c d, fragP p l = { p with hf := c, fr := d } ∧ ((c = true ∧ clo 3 d.data.toList) ∨ (c = false ∧ d = ⟨#[]⟩)) := by
  unfold fragP
  split
  · refine ⟨true, _, rfl, .inl ⟨rfl, wr_clo 3 (by decide) _ (by rw [List.length_tail]; omega)⟩⟩
  · refine ⟨false, ⟨#[]⟩, ?_, .inr ⟨rfl, rfl⟩⟩
    cases p; simp_all
theorem que_shape (p : P) (l : List UInt8) (hl : l.length ≤ 200) (h0 : p.hq = false) (h0' : p.qu = ⟨#[]⟩) (h1 : p.hf = false) (h2 : p.fr = ⟨#[]⟩) :
    ∃ a b c d, queP p l = { p with hq := a, qu := b, hf := c, fr := d } ∧ ((a = true ∧ clo 2 b.data.toList) ∨ (a = false ∧ b = ⟨#[]⟩)) ∧ ((c = true ∧ clo 3 d.data.toList) ∨ (c = false ∧ d = ⟨#[]⟩)) := by
  unfold queP
  have ht : l.tail.length ≤ 200 := by rw [List.length_tail]; omega
  split
  · have hu : (upL [35] l.tail).length ≤ 200 := Nat.le_trans (upL_le _ _) ht
    obtain ⟨c, d, e, h⟩ := frag_shape ({ p with hq := true, qu := wrT 2 (upL [35] l.tail) }) (l.tail.drop (upL [35] l.tail).length) (by rw [List.length_drop]; omega) h1 h2
    exact ⟨true, wrT 2 (upL [35] l.tail), c, d, e, .inl ⟨rfl, wr_clo 2 (by decide) _ hu⟩, h⟩
  · obtain ⟨c, d, e, h⟩ := frag_shape p l hl h1 h2
    refine ⟨false, ⟨#[]⟩, c, d, ?_, .inr ⟨rfl, rfl⟩, h⟩
    rw [e]
    cases p; simp_all
theorem nf_que (p : P) (l : List UInt8) (hl : l.length ≤ 200) (h0 : p.hq = false) (h0' : p.qu = ⟨#[]⟩) (h1 : p.hf = false) (h2 : p.fr = ⟨#[]⟩) (hs : schL p.sc.data.toList = true)
    (hm : (ownZ p.sc < 0 ∧ p.us = ⟨#[]⟩ ∧ p.pw = ⟨#[]⟩ ∧ p.hk = 0 ∧ p.hn = ⟨#[]⟩ ∧ p.ha = 0 ∧ p.po = -1 ∧ p.ps = [] ∧ clo 5 p.op.data.toList ∧ ∀ c ∈ p.op.data.toList, c ≠ 63 ∧ c ≠ 35) ∨
      (0 ≤ ownZ p.sc ∧ p.op = ⟨#[]⟩ ∧ clo 4 p.us.data.toList ∧ clo 4 p.pw.data.toList ∧ hostN p.hk p.hn p.ha ∧ (p.po = -1 ∨ (0 ≤ p.po ∧ p.po ≤ 65535 ∧ p.po ≠ ownZ p.sc)) ∧ p.ps ≠ [] ∧ ∀ x ∈ p.ps, fixP x)) : Nf (queP p l) := by
  obtain ⟨a, b, c, d, e, hq, hf⟩ := que_shape p l hl h0 h0' h1 h2
  rw [e]
  exact ⟨hs, hq, hf, hm⟩
theorem port_shape (l : List UInt8) (own : Int) (h : portB l own = true) : portV l own = -1 ∨ (0 ≤ portV l own ∧ portV l own ≤ 65535 ∧ portV l own ≠ own) := by
  by_cases hf : figsL l = true
  · by_cases h0 : l = []
    · rw [h0]; exact .inl (portL_empty own).1
    · cases hn : portN 0 l with
      | none => rw [(portL_none l own hf h0 hn).2] at h; cases h
      | some n =>
        by_cases he : n = own
        · rw [he] at hn; exact .inl (portL_own l own hf h0 hn).1
        · rw [(portL_some l own n hf h0 hn he).1]
          have := portN_le l 0 n (by decide) (by decide) (figs_low l hf) hn
          exact .inr ⟨this.1, this.2, he⟩
  · rw [(portL_nofig l own (by simpa using hf)).2] at h; cases h
theorem who_shape (p : P) (l : List UInt8) (hl : l.length ≤ 200) (h1 : p.us = ⟨#[]⟩) (h2 : p.pw = ⟨#[]⟩) : ∃ a b, whoP p l = { p with us := a, pw := b } ∧ clo 4 a.data.toList ∧ clo 4 b.data.toList := by
  unfold whoP
  cases h : atSplit l with
  | none =>
    refine ⟨⟨#[]⟩, ⟨#[]⟩, ?_, clo_nil 4, clo_nil 4⟩
    cases p; simp_all
  | some ab =>
    obtain ⟨a, b⟩ := ab
    have e := (at_some l a b h).1
    have ha : a.length ≤ 200 := by rw [e, List.length_append] at hl; omega
    refine ⟨_, _, rfl, wr_clo 4 (by decide) _ (Nat.le_trans (upL_le _ _) ha), wr_clo 4 (by decide) _ ?_⟩
    unfold behind
    rw [List.length_tail, List.length_drop]; omega
theorem nf_of_sch (t : List UInt8) (q : P) (hl : t.length ≤ 200) (h : schP P.zero t = some q) : Nf q := by
  unfold schP at h
  split at h
  · rename_i hc
    obtain ⟨_, hs⟩ := hc
    obtain ⟨s, hsx⟩ : ∃ s, s = mk (low (upL [58] t)) := ⟨_, rfl⟩
    have hs' : schL s.data.toList = true := by rw [hsx, mk_data]; exact hs
    rw [← hsx] at h
    obtain ⟨m, hm⟩ : ∃ m, m = t.drop ((upL [58] t).length + 1) := ⟨_, rfl⟩
    have hml : m.length ≤ 200 := by rw [hm, List.length_drop]; omega
    rw [← hm] at h
    split at h
    · rename_i ho
      unfold slaP hosP at h
      obtain ⟨k, hk⟩ : ∃ k, k = m.dropWhile (among [47, 92]) := ⟨_, rfl⟩
      have hkl : k.length ≤ 200 := by rw [hk]; exact Nat.le_trans (List.dropWhile_sublist _).length_le hml
      rw [← hk] at h
      rw [Option.map_eq_some_iff] at h
      obtain ⟨u, hu, he⟩ := h
      unfold autP at hu
      split at hu
      · rename_i hb
        unfold autB at hb
        rw [Bool.and_eq_true] at hb
        have hu' : autQ { P.zero with sc := s, po := -1 } (upL [47, 92, 63, 35] k) = u := by simpa using hu
        have hal : (upL [47, 92, 63, 35] k).length ≤ 200 := Nat.le_trans (upL_le _ _) hkl
        obtain ⟨x, y, ew, cx, cy⟩ := who_shape ({ P.zero with sc := s, po := -1 }) (upL [47, 92, 63, 35] k) hal rfl rfl
        unfold autQ at hu'
        rw [ew] at hu'
        rw [← he]
        unfold patP
        have hdl : (k.drop (upL [47, 92, 63, 35] k).length).length ≤ 200 := by rw [List.length_drop]; omega
        have hpl : (upL [63, 35] (k.drop (upL [47, 92, 63, 35] k).length)).length ≤ 200 := Nat.le_trans (upL_le _ _) hdl
        subst hu'
        refine nf_que _ _ (by rw [List.length_drop]; omega) rfl rfl rfl rfl hs' (.inr ⟨ho, rfl, cx, cy, host_read _ hb.1, port_shape _ _ hb.2, path_ne _ hpl, path_fix _⟩)
      · cases hu
    · rename_i ho
      have h' : opqP { P.zero with sc := s, po := -1 } m = q := by simpa using h
      rw [← h']
      unfold opqP
      have hul : (upL [63, 35] m).length ≤ 200 := Nat.le_trans (upL_le _ _) hml
      refine nf_que _ _ (by rw [List.length_drop]; omega) rfl rfl rfl rfl hs' (.inl ⟨by show ownZ s < 0; omega, rfl, rfl, rfl, rfl, rfl, rfl, rfl, wr_clo 5 (by decide) _ hul, ?_⟩)
      intro c hc
      have hc' : c ∈ enc (isIn 5) (upL [63, 35] m) := by rw [← wr_small 5 _ hul]; exact hc
      unfold enc at hc'
      rw [List.mem_flatMap] at hc'
      obtain ⟨d, hd, hc'⟩ := hc'
      have hfree : among [63, 35] d = false := by
        rcases up_cases [63, 35] m with ⟨e, hh⟩ | ⟨a, x, b, e1, e2, hx, hh⟩
        · rw [e] at hd; exact hh d hd
        · rw [e2] at hd; exact hh d hd
      have hd2 : d ≠ 63 ∧ d ≠ 35 := by
        constructor
        · intro e; rw [e] at hfree; revert hfree; decide
        · intro e; rw [e] at hfree; revert hfree; decide
      have hfs := fig_shr d
      by_cases hi : isIn 5 d = true
      · rw [encB_yes _ _ hi] at hc'
        simp only [List.mem_cons, List.not_mem_nil, or_false] at hc'
        have hfg : ∀ n : _root_.Fin 16, fig n.val ≠ 63 ∧ fig n.val ≠ 35 := by decide
        rcases hc' with rfl | rfl | rfl
        · decide
        · exact hfg ⟨_, hfs.1⟩
        · exact hfg ⟨_, hfs.2⟩
      · rw [encB_no _ _ (by simpa using hi)] at hc'
        simp only [List.mem_cons, List.not_mem_nil, or_false] at hc'
        rw [hc']; exact hd2
  · cases h
theorem read_nf (l : List UInt8) (q : P) (h : getO l = some q) : Nf q ∧ l.length ≤ 200 ∧ q.ps.length ≤ 12 := by
  unfold getO at h
  split at h
  · rename_i hl
    rw [Option.bind_eq_some_iff] at h
    obtain ⟨r, hr, h⟩ := h
    split at h
    · rename_i hc
      have e : r = q := by simpa using h
      subst e
      exact ⟨nf_of_sch _ r (by have := trim_len l; omega) hr, hl, hc.1⟩
    · cases h
  · cases h
theorem ok_getO (q : P) : okP q ↔ getO (writL q) = some q := by
  unfold okP getB getP
  constructor
  · rintro ⟨h1, h2⟩
    cases h : getO (writL q) with
    | none => rw [h] at h1; cases h1
    | some r => rw [h] at h2; exact congrArg some h2
  · intro h
    rw [h]; exact ⟨rfl, rfl⟩
/-- An address is ok just if it is in normal form, and neither it nor its path is too long. -/
theorem ok_iff (q : P) : okP q ↔ Nf q ∧ (writL q).length ≤ 200 ∧ q.ps.length ≤ 12 := by
  rw [ok_getO]
  exact ⟨fun h => read_nf _ q h, fun h => nf_read q h.1 h.2.1 h.2.2⟩
end Go.Proofs.YticbekooadnnlaaGreatDoor
end

section
set_option linter.unusedVariables false
set_option linter.unusedSimpArgs false
namespace Go.Proofs.YticbekooadnnlaaGreatDoor
open Go.RowKit Go.Shelf

def bsP (q : P) : P := { q with hf := false, fr := ⟨#[]⟩ }
theorem bsP_ps (q : P) : (bsP q).ps = q.ps := rfl
end Go.Proofs.YticbekooadnnlaaGreatDoor
end

section
set_option linter.unusedVariables false
set_option linter.unusedSimpArgs false
namespace Go.Proofs.YticbekooadnnlaaGreatDoor
open Go.RowKit Go.Shelf

theorem own_cases (s : ByteArray) : (s = ⟨#[104, 116, 116, 112]⟩ ∧ ownZ s = 80) ∨ (s = ⟨#[104, 116, 116, 112, 115]⟩ ∧ ownZ s = 443) ∨ (s ≠ ⟨#[104, 116, 116, 112]⟩ ∧ s ≠ ⟨#[104, 116, 116, 112, 115]⟩ ∧ ownZ s = -1) := by
  unfold ownZ
  by_cases h1 : s = ⟨#[104, 116, 116, 112]⟩
  · exact .inl ⟨h1, by rw [if_pos h1]⟩
  · by_cases h2 : s = ⟨#[104, 116, 116, 112, 115]⟩
    · exact .inr (.inl ⟨h2, by rw [if_neg h1, if_pos h2]⟩)
    · exact .inr (.inr ⟨h1, h2, by rw [if_neg h1, if_neg h2]⟩)
end Go.Proofs.YticbekooadnnlaaGreatDoor
end

section
set_option linter.unusedVariables false
set_option linter.unusedSimpArgs false
namespace Go.Proofs.YticbekooadnnlaaGreatDoor
open Go.RowKit Go.Shelf

theorem wr_len (set : Int) (l : List UInt8) (hl : l.length ≤ 200) : (wrT set l).data.toList.length ≤ 3 * l.length := by
  rw [wr_small set l hl]; exact enc_length _ l
theorem up_len_add (S l : List UInt8) : (upL S l).length + (l.drop (upL S l).length).length = l.length := by
  have := upL_le S l
  rw [List.length_drop]; omega
theorem pass_cons (S l : List UInt8) (h : passB S l = true) : l.length = l.tail.length + 1 := by
  cases l with
  | nil => cases h
  | cons c r => rfl
theorem frag_len (p : P) (l : List UInt8) (hl : l.length ≤ 200) (h1 : p.hf = false) : (frgL (fragP p l)).length ≤ 3 * l.length := by
  unfold fragP
  split
  · rename_i h
    have := pass_cons _ _ h
    have hw := wr_len 3 l.tail (by omega)
    show (35 :: (wrT 3 l.tail).data.toList).length ≤ _
    rw [List.length_cons]; omega
  · unfold frgL
    rw [if_neg (by rw [h1]; decide)]; exact Nat.zero_le _
theorem que_frag (p : P) (l : List UInt8) : queL (fragP p l) = queL p := by
  unfold fragP; split <;> rfl
theorem tail_len3 (p : P) (l : List UInt8) (hl : l.length ≤ 200) (h0 : p.hq = false) (h1 : p.hf = false) : (tailL (queP p l)).length ≤ 3 * l.length := by
  unfold tailL queP
  split
  · rename_i h
    have hc := pass_cons _ _ h
    have ha := up_len_add [35] l.tail
    have hw := wr_len 2 (upL [35] l.tail) (by omega)
    have hf := frag_len ({ p with hq := true, qu := wrT 2 (upL [35] l.tail) }) (l.tail.drop (upL [35] l.tail).length) (by omega) h1
    rw [que_frag, List.length_append]
    have e : queL { p with hq := true, qu := wrT 2 (upL [35] l.tail) } = 63 :: (wrT 2 (upL [35] l.tail)).data.toList := rfl
    rw [e, List.length_cons]
    omega
  · have hf := frag_len p l hl h1
    have e : queL p = [] := by unfold queL; rw [if_neg (by rw [h0]; decide)]
    rw [que_frag, e, List.nil_append]
    exact hf
theorem que_keeps (p : P) (l : List UInt8) : (queP p l).sc = p.sc ∧ mainL (queP p l) = mainL p := by
  unfold queP fragP
  split <;> split <;> exact ⟨rfl, rfl⟩
theorem host_len (l : List UInt8) (h : getOk l = true) : (putT (gk l) (gn l) (ga l)).length ≤ l.length + 15 := by
  rcases host_read l h with hn | ⟨h1, h2, h3, h4⟩
  · rw [put_named hn]
    have hl : l.length ≤ 200 := by
      unfold getOk at h
      split at h
      · rename_i hl; exact hl
      · cases h
    unfold gn
    rw [if_pos hl]
    unfold hostName
    have hr : (readL l).length ≤ l.length := by unfold readL; rw [low_length]; exact dec_le l
    split
    · exact Nat.zero_le _
    · split
      · rw [mk_data]; omega
      · exact Nat.zero_le _
  · rw [h1, h2]
    have h1' : named 2 ⟨#[]⟩ (ga l) = false := by unfold named; simp
    have h2' : numbered 2 ⟨#[]⟩ (ga l) = true := by unfold numbered; simp; exact ⟨h3, h4⟩
    rw [put_numbered h1' h2']
    have := fourT_len (ga l)
    omega
theorem dg_five (x : Int) (h0 : 0 ≤ x) (h : x ≤ 65535) : (dg x).length ≤ 5 := by
  unfold dg
  have key : ∀ (k u : Nat), u < 10 ^ (k + 1) → (Lib.decDigits u).length ≤ k + 1 := by
    intro k
    induction k with
    | zero => intro u hu; rw [dd_small u (by simpa using hu)]; simp
    | succ k ih =>
      intro u hu
      by_cases h : u < 10
      · rw [dd_small u h]; simp
      · rw [dd_great u h, List.length_append]
        have := ih (u / 10) (by rw [Nat.pow_succ] at hu; omega)
        simp
        exact this
  exact key 4 x.toNat (by show _ < 100000; omega)
theorem behind_len (l : List UInt8) : (upL [58] l).length + (behind l).length ≤ l.length ∧ (behind l ≠ [] → (upL [58] l).length + (behind l).length + 1 ≤ l.length) := by
  have ha := up_len_add [58] l
  unfold behind
  rw [List.length_tail]
  refine ⟨by omega, fun h => ?_⟩
  have : (l.drop (upL [58] l).length).length ≠ 0 := by
    intro e
    apply h
    rw [List.eq_nil_of_length_eq_zero e]; rfl
  omega
theorem aut_len3 (p q : P) (l : List UInt8) (hl : l.length ≤ 200) (hus : p.us = ⟨#[]⟩) (hpw : p.pw = ⟨#[]⟩) (h : autP p l = some q) : (autL q).length ≤ 3 * l.length + 15 := by
  unfold autP at h
  split at h
  · rename_i hb
    unfold autB at hb
    rw [Bool.and_eq_true] at hb
    have e : autQ p l = q := by simpa using h
    -- where the host is
    obtain ⟨b, hbx⟩ : ∃ b, b = whereL l := ⟨_, rfl⟩
    rw [← hbx] at hb
    have hbh := behind_len b
    have hho := host_len _ hb.1
    have hpor : (porL q).length ≤ 3 * (b.length - (upL [58] b).length) := by
      unfold porL
      rw [← e]
      show (if 0 ≤ portV (behind (whereL l)) (ownZ p.sc) then 58 :: dg (portV (behind (whereL l)) (ownZ p.sc)) else []).length ≤ _
      rw [← hbx]
      by_cases hn : behind b = []
      · rw [hn, (portL_empty _).1]; simp
      · have h1 := hbh.2 hn
        have hne : 1 ≤ (behind b).length := by cases hx : behind b with | nil => exact absurd hx hn | cons c r => simp
        split
        · rename_i h0
          have hr := portV_le (behind b) (ownZ p.sc)
          have := dg_five _ h0 hr.2
          rw [List.length_cons]; omega
        · exact Nat.zero_le _
    have hh : (putT q.hk q.hn q.ha).length ≤ (upL [58] b).length + 15 := by
      rw [← e]
      show (putT (gk (upL [58] (whereL l))) (gn (upL [58] (whereL l))) (ga (upL [58] (whereL l)))).length ≤ _
      rw [← hbx]; exact hho
    have hu : (q.us.data.toList ++ (pwL q ++ atL' q)).length + 3 * b.length ≤ 3 * l.length := by
      rw [← e, hbx]
      unfold autQ whereL whoP
      cases hs : atSplit l with
      | none =>
        show (p.us.data.toList ++ (pwL _ ++ atL' _)).length + 3 * l.length ≤ _
        unfold pwL atL'
        show (p.us.data.toList ++ ((if p.pw.data.toList = [] then [] else _) ++ (if p.us.data.toList = [] ∧ p.pw.data.toList = [] then [] else _))).length + 3 * l.length ≤ _
        rw [hus, hpw]
        simp
      | some ab =>
        obtain ⟨x, y⟩ := ab
        have el := (at_some l x y hs).1
        have hxy : l.length = x.length + y.length + 1 := by rw [el]; simp; omega
        have hbx2 := behind_len x
        have w1 := wr_len 4 (upL [58] x) (by have := upL_le [58] x; omega)
        have w2 := wr_len 4 (behind x) (by omega)
        show ((wrT 4 (upL [58] x)).data.toList ++ (pwL _ ++ atL' _)).length + 3 * y.length ≤ _
        unfold pwL atL'
        show ((wrT 4 (upL [58] x)).data.toList ++ ((if (wrT 4 (behind x)).data.toList = [] then [] else 58 :: (wrT 4 (behind x)).data.toList) ++ (if (wrT 4 (upL [58] x)).data.toList = [] ∧ (wrT 4 (behind x)).data.toList = [] then [] else [64]))).length + 3 * y.length ≤ _
        have hat : (if (wrT 4 (upL [58] x)).data.toList = [] ∧ (wrT 4 (behind x)).data.toList = [] then ([] : List UInt8) else [64]).length ≤ 1 := by split <;> simp
        rw [List.length_append, List.length_append]
        by_cases hn : (wrT 4 (behind x)).data.toList = []
        · rw [if_pos hn]; simp only [List.length_nil]; omega
        · have hb0 : behind x ≠ [] := by
            intro e0
            apply hn
            rw [e0, wr_small 4 [] (by simp)]; rfl
          have := hbx2.2 hb0
          rw [if_neg hn, List.length_cons]; omega
    unfold autL
    have e2 : q.us.data.toList ++ (pwL q ++ (atL' q ++ (putT q.hk q.hn q.ha ++ porL q))) = (q.us.data.toList ++ (pwL q ++ atL' q)) ++ (putT q.hk q.hn q.ha ++ porL q) := by simp
    have e3 : (putT q.hk q.hn q.ha ++ porL q).length = (putT q.hk q.hn q.ha).length + (porL q).length := List.length_append
    rw [e2, List.length_append, e3]
    have := upL_le [58] b
    omega
  · cases h
theorem len60 (t : List UInt8) (q : P) (ht : t.length ≤ 60) (h : schP P.zero t = some q) : (writL q).length ≤ 200 := by
  unfold schP at h
  split at h
  · rename_i hc
    obtain ⟨hpass, hs⟩ := hc
    have hpl := pass_cons _ _ hpass
    have hup := up_len_add [58] t
    obtain ⟨s, hsx⟩ : ∃ s, s = mk (low (upL [58] t)) := ⟨_, rfl⟩
    have hsl : s.data.toList.length = (upL [58] t).length := by rw [hsx, mk_data, low_length]
    rw [← hsx] at h
    obtain ⟨m, hm⟩ : ∃ m, m = t.drop ((upL [58] t).length + 1) := ⟨_, rfl⟩
    have hml : m.length + (upL [58] t).length + 1 = t.length := by
      rw [hm, List.length_drop]
      rw [List.length_tail] at hpl
      omega
    rw [← hm] at h
    split at h
    · rename_i ho
      have h4 : 4 ≤ s.data.toList.length := by
        rcases own_cases s with ⟨e, _⟩ | ⟨e, _⟩ | ⟨_, _, e⟩
        · rw [e]; decide
        · rw [e]; decide
        · omega
      unfold slaP hosP at h
      obtain ⟨k, hk⟩ : ∃ k, k = m.dropWhile (among [47, 92]) := ⟨_, rfl⟩
      have hkl : k.length ≤ m.length := by rw [hk]; exact (List.dropWhile_sublist _).length_le
      rw [← hk, Option.map_eq_some_iff] at h
      obtain ⟨u, hu, he⟩ := h
      have hA := up_len_add [47, 92, 63, 35] k
      have hal := aut_len3 _ u _ (by omega) rfl rfl hu
      obtain ⟨d, hd⟩ : ∃ d, d = k.drop (upL [47, 92, 63, 35] k).length := ⟨_, rfl⟩
      rw [← hd] at he hA
      have hB := up_len_add [63, 35] d
      have hpp := putL_path (upL [63, 35] d)
      have husc : u.sc = s ∧ u.hq = false ∧ u.hf = false := by
        unfold autP at hu
        split at hu
        · have e : autQ { P.zero with sc := s, po := -1 } (upL [47, 92, 63, 35] k) = u := by simpa using hu
          rw [← e]
          unfold autQ whoP
          cases atSplit (upL [47, 92, 63, 35] k) <;> exact ⟨rfl, rfl, rfl⟩
        · cases hu
      unfold patP at he
      have hT := tail_len3 ({ u with ps := pathL (upL [63, 35] d) }) (d.drop (upL [63, 35] d).length) (by omega) husc.2.1 husc.2.2
      have hK := que_keeps ({ u with ps := pathL (upL [63, 35] d) }) (d.drop (upL [63, 35] d).length)
      rw [he] at hT hK
      have hM : (mainL q).length ≤ 2 + (autL u).length + (putL (pathL (upL [63, 35] d))).length := by
        rw [hK.2]
        unfold mainL
        rw [if_pos (by show 0 ≤ ownZ u.sc; rw [husc.1]; exact ho)]
        show ([47, 47] ++ (autL u ++ putL (pathL (upL [63, 35] d)))).length ≤ _
        simp only [List.length_append, List.length_cons, List.length_nil]; omega
      have hS : q.sc.data.toList.length = s.data.toList.length := by rw [hK.1]; show u.sc.data.toList.length = _; rw [husc.1]
      unfold writL
      simp only [List.length_append, List.length_cons, List.length_nil]
      omega
    · have e : opqP { P.zero with sc := s, po := -1 } m = q := by simpa using h
      rename_i ho
      unfold opqP at e
      have hB := up_len_add [63, 35] m
      have hw := wr_len 5 (upL [63, 35] m) (by omega)
      have hT := tail_len3 ({ P.zero with sc := s, po := -1, op := wrT 5 (upL [63, 35] m) }) (m.drop (upL [63, 35] m).length) (by omega) rfl rfl
      have hK := que_keeps ({ P.zero with sc := s, po := -1, op := wrT 5 (upL [63, 35] m) }) (m.drop (upL [63, 35] m).length)
      rw [e] at hT hK
      have hM : (mainL q).length ≤ 3 * (upL [63, 35] m).length := by
        rw [hK.2]
        unfold mainL
        rw [if_neg (by show ¬ 0 ≤ ownZ s; exact ho)]
        exact hw
      have hS : q.sc.data.toList.length = s.data.toList.length := by rw [hK.1]
      unfold writL
      simp only [List.length_append, List.length_cons, List.length_nil]
      omega
  · cases h
/-- What is read of at most 60 bytes is ok. -/
theorem read60 (l : List UInt8) (q : P) (h : getO l = some q) (hl : l.length ≤ 60) : okP q := by
  have hr := read_nf l q h
  rw [ok_iff]
  refine ⟨hr.1, ?_, hr.2.2⟩
  unfold getO at h
  split at h
  · rw [Option.bind_eq_some_iff] at h
    obtain ⟨r, hs, h⟩ := h
    split at h
    · have e : r = q := by simpa using h
      subst e
      exact len60 _ r (by have := trim_len l; omega) hs
    · cases h
  · cases h
end Go.Proofs.YticbekooadnnlaaGreatDoor
end

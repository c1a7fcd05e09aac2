/- Plain facts: a host that is written is read as itself; what is read is a host that is ok. Plain facts: an address in its normal form, written, is read as itself. Plain facts: what is read is in normal form; so an address is ok just if it is, and is not too long. Plain facts: a path up to its last slash. -/
import Derived.Test.YtnfhajhdpdidlaaGreatDoorCFnRefer01
import Derived.Test.YtnfhajhdpdidlaaGreatDoorB41
import Derived.Lib.LastIndexByte
set_option linter.unusedVariables false
set_option linter.unusedSimpArgs false
section
namespace Go.Proofs.YtnfhajhdpdidlaaGreatDoor
open Go.RowKit Go.Shelf
def hosC (c : UInt8) : Prop := nmB c = true ∨ c = 46
theorem hosC_facts (c : UInt8) (h : hosC c) : c ≠ 37 ∧ lowB c = c ∧ 33 ≤ c.toNat ∧ c ≠ 58 ∧ c ≠ 64 ∧ c ≠ 47 ∧ c ≠ 92 ∧ c ≠ 63 ∧ c ≠ 35 := by
 have key : ∀ n : _root_.Fin 256, (nmB (UInt8.ofNat n.val) = true ∨ UInt8.ofNat n.val = 46) → UInt8.ofNat n.val ≠ 37 ∧ lowB (UInt8.ofNat n.val) = UInt8.ofNat n.val ∧ 33 ≤ (UInt8.ofNat n.val).toNat ∧ UInt8.ofNat n.val ≠ 58 ∧ UInt8.ofNat n.val ≠ 64 ∧ UInt8.ofNat n.val ≠ 47 ∧ UInt8.ofNat n.val ≠ 92 ∧ UInt8.ofNat n.val ≠ 63 ∧ UInt8.ofNat n.val ≠ 35 := by decide +kernel
 have := key ⟨c.toNat, c.toNat_lt⟩
 simp only [UInt8.ofNat_toNat] at this
 exact this h
theorem low_same (l : List UInt8) (h : ∀ c ∈ l, lowB c = c) : low l = l := by
 unfold low
 conv => rhs; rw [← List.map_id l]
 exact List.map_congr_left (fun c hc => h c hc)
theorem read_same (l : List UInt8) (h : ∀ c ∈ l, hosC c) : readL l = l := by
 unfold readL
 rw [dec_plain l (fun c hc => (hosC_facts c (h c hc)).1), low_same l (fun c hc => (hosC_facts c (h c hc)).2.1)]
theorem fig_hosC (c : UInt8) (h : 48 ≤ c.toNat ∧ c.toNat ≤ 57) : hosC c := by
 left
 unfold nmB figB
 simp
 left; left; right; exact h
theorem dg_hosC (v : Int) : ∀ c ∈ dg v, hosC c := fun c hc => fig_hosC c (dd_fig _ c hc)
theorem dg_no46 (v : Int) : ∀ c ∈ dg v, c ≠ 46 := by
 intro c hc e
 have := dd_fig _ c hc
 rw [e] at this
 revert this; decide
theorem fourT_eq (a : Int) : fourT a = dg (a / 16777216 % 256) ++ 46 :: (dg (a / 65536 % 256) ++ 46 :: (dg (a / 256 % 256) ++ 46 :: dg (a % 256))) := by
 unfold fourT pre3 pre2 pre1; simp
theorem four_cut (a : Int) : cutL 46 (fourT a) = [dg (a / 16777216 % 256), dg (a / 65536 % 256), dg (a / 256 % 256), dg (a % 256)] := by
 rw [fourT_eq, cutL_hit _ _ _ (dg_no46 _), cutL_hit _ _ _ (dg_no46 _), cutL_hit _ _ _ (dg_no46 _), cutL_none _ _ (dg_no46 _)]
theorem dg_ne (v : Int) : dg v ≠ [] := dd_ne _
theorem four_parts (a : Int) : partsL (fourT a) = [dg (a / 16777216 % 256), dg (a / 65536 % 256), dg (a / 256 % 256), dg (a % 256)] := by
 rw [partsL_keep, four_cut]
 right
 rw [four_cut]
 intro e
 simp at e
 exact dg_ne _ e
theorem four_back (a : Int) (h0 : 0 ≤ a) (h1 : a ≤ 4294967295) : fourL (fourT a) = some a := by
 unfold fourL
 rw [if_pos ⟨by have := fourT_len a; omega, by rw [four_parts]; simp⟩, four_parts]
 show fourFrom 4 0 0 _ = _
 rw [four_mid 4 0 0 _ _ _ (part_dg (a / 16777216 % 256) (by omega) (by omega)) (by decide) (by omega)]
 rw [four_mid 4 1 _ _ _ _ (part_dg (a / 65536 % 256) (by omega) (by omega)) (by decide) (by omega)]
 rw [four_mid 4 2 _ _ _ _ (part_dg (a / 256 % 256) (by omega) (by omega)) (by decide) (by omega)]
 rw [four_last 4 3 _ _ _ _ (part_dg (a % 256) (by omega) (by omega)) (by decide) (by show a % 256 < 256; omega)]
 show some _ = some a
 congr 1
 show (((0 * 256 + a / 16777216 % 256) * 256 + a / 65536 % 256) * 256 + a / 256 % 256) * 256 + a % 256 = a
 omega
theorem four_hosC (a : Int) : ∀ c ∈ fourT a, hosC c := by
 rw [fourT_eq]
 intro c hc
 simp only [List.mem_append, List.mem_cons] at hc
 rcases hc with h | h | h | h | h | h | h
 ·exact dg_hosC _ c h
 ·exact .inr h
 ·exact dg_hosC _ c h
 ·exact .inr h
 ·exact dg_hosC _ c h
 ·exact .inr h
 ·exact dg_hosC _ c h
theorem four_ends (a : Int) : endsL (fourT a) = true := by
 have hl : lastP (fourT a) = dg (a % 256) := by
  unfold lastP
  simp only [four_parts]
  rfl
 unfold endsL
 rw [hl]
 have h1 : (dg (a % 256)).isEmpty = false := List.isEmpty_eq_false_iff.2 (dg_ne _)
 have h2 : figsL (dg (a % 256)) = true := figs_dd _
 rw [h1, h2]; rfl
theorem fourFrom_range (n : Nat) (hn : n ≤ 4) : ∀ (ps : List (List UInt8)) (i : Nat) (a r : Int), i + ps.length = n → 0 ≤ a → (i < n → a < midI i) → (i = n → a ≤ 4294967295) → fourFrom n i a ps = some r → 0 ≤ r ∧ r ≤ 4294967295 := by
 intro ps
 induction ps with
 | nil =>
  intro i a r hi h0 h1 h2 h
  have : a = r := by simpa [fourFrom] using h
  have := h2 (by simpa using hi)
  omega
 | cons p ps ih =>
  intro i a r hi h0 h1 h2 h
  have hi' : i + 1 + ps.length = n := by simpa [Nat.add_assoc, Nat.add_comm 1] using hi
  have hm := h1 (by omega)
  cases hp : partN p with
  | none => rw [four_none _ _ _ _ _ hp] at h; cases h
  | some v =>
   have hv0 := partN_ge p v hp
   by_cases hl : i + 1 = n
   ·by_cases hc : v < capI i
    ·rw [four_last n i a v p ps hp hl hc] at h
     refine ih (i + 1) _ r hi' ?_ (fun x => by omega) (fun _ => ?_) h
     ·have : 0 ≤ capI i := by unfold capI; split <;> decide
      have := Int.mul_nonneg h0 this
      omega
     ·have hi3 : i = 0 ∨ i = 1 ∨ i = 2 ∨ i = 3 := by omega
      rcases hi3 with rfl | rfl | rfl | rfl <;> simp only [midI, capI] at hm hc ⊢ <;> omega
    ·rw [four_last_no n i a v p ps hp hl hc] at h; cases h
   ·by_cases hc : v < 256
    ·rw [four_mid n i a v p ps hp hl hc] at h
     refine ih (i + 1) _ r hi' (by omega) (fun x => ?_) (fun x => absurd x hl) h
     have hi3 : i = 0 ∨ i = 1 ∨ i = 2 := by omega
     rcases hi3 with rfl | rfl | rfl <;> simp only [midI] at hm ⊢ <;> omega
    ·rw [four_mid_no n i a v p ps hp hl hc] at h; cases h
theorem fourL_range (l : List UInt8) (a : Int) (h : fourL l = some a) : 0 ≤ a ∧ a ≤ 4294967295 := by
 unfold fourL at h
 split at h
 ·rename_i hc
  have hne := partsL_ne l
  exact fourFrom_range _ hc.2 (partsL l) 0 0 a (by omega) (by omega) (fun _ => by show (0 : Int) < 1; decide) (fun e => by omega) h
 ·cases h
def hostN (k : Int) (s : ByteArray) (a : Int) : Prop := named k s a = true ∨ (k = 2 ∧ s = ⟨#[]⟩ ∧ 0 ≤ a ∧ a ≤ 4294967295)
theorem host_back (k : Int) (s : ByteArray) (a : Int) (h : hostN k s a) : getOk (putT k s a) = true ∧ gk (putT k s a) = k ∧ gn (putT k s a) = s ∧ ga (putT k s a) = a ∧ putT k s a ≠ [] ∧ ∀ c ∈ putT k s a, hosC c := by
 have hlen := putT_len k s a
 rcases h with h | ⟨rfl, rfl, h0, h1⟩
 ·have e := put_named h
  unfold named at h
  simp only [Bool.and_eq_true, decide_eq_true_eq, Bool.not_eq_true'] at h
  obtain ⟨⟨⟨rfl, rfl⟩, hn⟩, he⟩ := h
  have hn' := hn
  unfold nameL at hn'
  have hn2 := of_decide_eq_true hn'
  rw [e] at hlen ⊢
  have hr : readL s.data.toList = s.data.toList := read_same _ hn2.2.2.1
  have hk : hostKind s.data.toList = 1 := by unfold hostKind; rw [if_neg (by rw [he]; decide), if_pos hn]
  refine ⟨?_, ?_, ?_, ?_, ?_, hn2.2.2.1⟩
  ·unfold getOk; rw [if_pos (by omega), hr]; unfold hostOkL; rw [hk]; decide
  ·unfold gk; rw [if_pos (by omega), hr, hk]
  ·unfold gn; rw [if_pos (by omega), hr]; unfold hostName; rw [if_neg (by rw [he]; decide), if_pos hn, mk_list]
  ·unfold ga; rw [if_pos (by omega), hr]; unfold hostAddr; rw [if_neg (by rw [he]; decide)]
  ·intro e0; rw [e0] at hn2; exact absurd hn2.1 (by decide)
 ·have h1' : named 2 ⟨#[]⟩ a = false := by unfold named; simp
  have h2' : numbered 2 ⟨#[]⟩ a = true := by unfold numbered; simp; exact ⟨h0, h1⟩
  have e : putT 2 ⟨#[]⟩ a = fourT a := put_numbered h1' h2'
  rw [e] at hlen ⊢
  have hr : readL (fourT a) = fourT a := read_same _ (four_hosC a)
  have he := four_ends a
  have hf := four_is_some _ _ (four_back a h0 h1)
  have hk : hostKind (fourT a) = 2 := by unfold hostKind; rw [if_pos he, if_pos hf.1]
  refine ⟨?_, ?_, ?_, ?_, ?_, four_hosC a⟩
  ·unfold getOk; rw [if_pos (by omega), hr]; unfold hostOkL; rw [hk]; decide
  ·unfold gk; rw [if_pos (by omega), hr, hk]
  ·unfold gn; rw [if_pos (by omega), hr]; unfold hostName; rw [if_pos he]
  ·unfold ga; rw [if_pos (by omega), hr]; unfold hostAddr; rw [if_pos he, if_pos hf.1, hf.2]
  ·rw [fourT_eq]
   intro e0
   exact absurd (congrArg List.length e0) (by simp)
theorem host_read (l : List UInt8) (h : getOk l = true) : hostN (gk l) (gn l) (ga l) := by
 unfold getOk at h
 by_cases hl : l.length ≤ 200
 ·rw [if_pos hl] at h
  unfold gk gn ga
  rw [if_pos hl, if_pos hl, if_pos hl]
  generalize readL l = t at h ⊢
  unfold hostOkL at h
  have hk := of_decide_eq_true h
  unfold hostKind at hk
  by_cases he : endsL t = true
  ·rw [if_pos he] at hk
   by_cases hf : fourOk t = true
   ·right
    unfold hostKind hostName hostAddr
    rw [if_pos he, if_pos hf, if_pos he, if_pos he, if_pos hf]
    refine ⟨rfl, rfl, ?_⟩
    cases h4 : fourL t with
    | none => rw [(four_is_none t h4).1] at hf; cases hf
    | some z => rw [(four_is_some t z h4).2]; exact fourL_range t z h4
   ·rw [if_neg hf] at hk; exact absurd rfl hk
  ·rw [if_neg he] at hk
   by_cases hn : nameL t = true
   ·left
    unfold hostKind hostName hostAddr
    rw [if_neg he, if_pos hn, if_neg he, if_pos hn, if_neg he]
    unfold named
    rw [mk_data, hn]
    have : endsL t = false := by simpa using he
    rw [this]; rfl
   ·rw [if_neg hn] at hk; exact absurd rfl hk
 ·rw [if_neg hl] at h; cases h
end Go.Proofs.YtnfhajhdpdidlaaGreatDoor
end
section
namespace Go.Proofs.YtnfhajhdpdidlaaGreatDoor
open Go.RowKit Go.Shelf
structure Nf (q : P) : Prop where
 make ::
 sch : schL q.sc.data.toList = true
 que : (q.hq = true ∧ clo 2 q.qu.data.toList) ∨ (q.hq = false ∧ q.qu = ⟨#[]⟩)
 frg : (q.hf = true ∧ clo 3 q.fr.data.toList) ∨ (q.hf = false ∧ q.fr = ⟨#[]⟩)
 main : (ownZ q.sc < 0 ∧ q.us = ⟨#[]⟩ ∧ q.pw = ⟨#[]⟩ ∧ q.hk = 0 ∧ q.hn = ⟨#[]⟩ ∧ q.ha = 0 ∧ q.po = -1 ∧ q.ps = [] ∧ clo 5 q.op.data.toList ∧ ∀ c ∈ q.op.data.toList, c ≠ 63 ∧ c ≠ 35) ∨
  (0 ≤ ownZ q.sc ∧ q.op = ⟨#[]⟩ ∧ clo 4 q.us.data.toList ∧ clo 4 q.pw.data.toList ∧ hostN q.hk q.hn q.ha ∧ (q.po = -1 ∨ (0 ≤ q.po ∧ q.po ≤ 65535 ∧ q.po ≠ ownZ q.sc)) ∧ q.ps ≠ [] ∧ ∀ p ∈ q.ps, fixP p)
theorem schB_facts (c : UInt8) (h : schB c = true) : lowB c = c ∧ 33 ≤ c.toNat ∧ c ≠ 58 := by
 have key : ∀ n : _root_.Fin 256, schB (UInt8.ofNat n.val) = true → lowB (UInt8.ofNat n.val) = UInt8.ofNat n.val ∧ 33 ≤ (UInt8.ofNat n.val).toNat ∧ UInt8.ofNat n.val ≠ 58 := by decide +kernel
 have := key ⟨c.toNat, c.toNat_lt⟩
 simp only [UInt8.ofNat_toNat] at this
 exact this h
theorem sch_bytes (l : List UInt8) (h : schL l = true) : ∀ c ∈ l, schB c = true := by
 cases l with
 | nil => intro c hc; cases hc
 | cons d r =>
  have h' : (smallB d && r.all schB) = true := h
  rw [Bool.and_eq_true, List.all_eq_true] at h'
  intro c hc
  rcases List.mem_cons.1 hc with rfl | hc
  ·unfold schB; rw [h'.1]; rfl
  ·exact h'.2 c hc
theorem fix_clo (p : List UInt8) (h : fixP p) : clo 1 p := by
 have := enc_clo 1 (by decide) p
 have e : enc (isIn 1) p = p := h.2.1
 rw [e] at this
 exact this
theorem up_tail (S a t : List UInt8) (h : ∀ d ∈ a, among S d = false) (ht : t = [] ∨ ∃ c r, t = c :: r ∧ among S c = true) : upL S (a ++ t) = a := by
 rcases ht with rfl | ⟨c, r, rfl, hc⟩
 ·rw [List.append_nil]; exact up_all S a h
 ·exact up_hit S a r c h hc
theorem frg_head (q : P) : frgL q = [] ∨ ∃ r, frgL q = 35 :: r := by
 unfold frgL; split
 ·exact .inr ⟨_, rfl⟩
 ·exact .inl rfl
theorem tail_head (q : P) : tailL q = [] ∨ ∃ c r, tailL q = c :: r ∧ (c = 63 ∨ c = 35) := by
 unfold tailL queL
 split
 ·exact .inr ⟨63, _, rfl, .inl rfl⟩
 ·rw [List.nil_append]
  rcases frg_head q with h | ⟨r, h⟩
  ·exact .inl h
  ·exact .inr ⟨35, r, h, .inr rfl⟩
theorem tail_len1 (q : P) : (q.hq = true → q.qu.data.toList.length ≤ (tailL q).length) ∧ (q.hf = true → q.fr.data.toList.length ≤ (tailL q).length) := by
 unfold tailL queL frgL
 constructor
 ·intro h; rw [if_pos h]; simp; omega
 ·intro h; rw [if_pos h]; simp; omega
theorem frag_read (p q : P) (h1 : p.hf = false) (h2 : p.fr = ⟨#[]⟩) (hf : (q.hf = true ∧ clo 3 q.fr.data.toList) ∨ (q.hf = false ∧ q.fr = ⟨#[]⟩)) (hl : q.hf = true → q.fr.data.toList.length ≤ 200) : fragP p (frgL q) = { p with hf := q.hf, fr := q.fr } := by
 rcases hf with ⟨h, hc⟩ | ⟨h, hc⟩
 ·have e : frgL q = 35 :: q.fr.data.toList := by unfold frgL; rw [if_pos h]
  unfold fragP
  rw [e, if_pos (by show passB [35] (35 :: _) = true; rfl)]
  show ({ p with hf := true, fr := wrT 3 q.fr.data.toList } : P) = _
  rw [wr_same 3 _ hc (hl h), h]
 ·have e : frgL q = [] := by unfold frgL; rw [if_neg (by rw [h]; decide)]
  unfold fragP
  rw [e, if_neg (by decide), h, hc]
  cases p; simp_all
theorem tail_read (p q : P) (h0 : p.hq = false) (h0' : p.qu = ⟨#[]⟩) (h1 : p.hf = false) (h2 : p.fr = ⟨#[]⟩) (hq : (q.hq = true ∧ clo 2 q.qu.data.toList) ∨ (q.hq = false ∧ q.qu = ⟨#[]⟩)) (hf : (q.hf = true ∧ clo 3 q.fr.data.toList) ∨ (q.hf = false ∧ q.fr = ⟨#[]⟩)) (hl : (tailL q).length ≤ 200) : queP p (tailL q) = { p with hq := q.hq, qu := q.qu, hf := q.hf, fr := q.fr } := by
 have hlq := (tail_len1 q).1
 have hlf := (tail_len1 q).2
 rcases hq with ⟨h, hc⟩ | ⟨h, hc⟩
 ·have e : tailL q = 63 :: (q.qu.data.toList ++ frgL q) := by unfold tailL queL; rw [if_pos h]; rfl
  unfold queP
  rw [e, if_pos (by show passB [63] (63 :: _) = true; rfl)]
  have hu : upL [35] (63 :: (q.qu.data.toList ++ frgL q)).tail = q.qu.data.toList := by
   show upL [35] (q.qu.data.toList ++ frgL q) = _
   refine up_tail _ _ _ (fun d hd => ?_) ?_
   ·have := clo_ne hc 35 (by decide) d hd
    rw [among_one]; simpa using this
   ·rcases frg_head q with h | ⟨r, h⟩
    ·exact .inl h
    ·exact .inr ⟨35, r, h, by decide⟩
  rw [hu, wr_same 2 _ hc (by have := hlq h; omega)]
  have hd : (63 :: (q.qu.data.toList ++ frgL q)).tail.drop q.qu.data.toList.length = frgL q := by
   show (q.qu.data.toList ++ frgL q).drop _ = _
   rw [List.drop_left]
  rw [hd]
  have := frag_read ({ p with hq := true, qu := q.qu }) q h1 h2 hf (fun x => by have := hlf x; omega)
  rw [this, h]
 ·have e : tailL q = frgL q := by unfold tailL queL; rw [if_neg (by rw [h]; decide)]; rfl
  unfold queP
  rw [e, if_neg (by rcases frg_head q with h | ⟨r, h⟩ <;> rw [h]
                    · decide
                    · show ¬ passB [63] (35 :: r) = true
                      show ¬ among [63] 35 = true
                      decide)]
  rw [frag_read _ q h1 h2 hf (fun x => by have := hlf x; omega), h, hc]
  cases p; simp_all
theorem among4 (c : UInt8) (h1 : c ≠ 47) (h2 : c ≠ 92) (h3 : c ≠ 63) (h4 : c ≠ 35) : among [47, 92, 63, 35] c = false := by unfold among; simp [h1, h2, h3, h4]
theorem among2 (c : UInt8) (h3 : c ≠ 63) (h4 : c ≠ 35) : among [63, 35] c = false := by unfold among; simp [h3, h4]
theorem amongS (c : UInt8) (h1 : c ≠ 47) (h2 : c ≠ 92) : among [47, 92] c = false := by unfold among; simp [h1, h2]
theorem us_facts {l : List UInt8} (h : clo 4 l) : ∀ c ∈ l, 33 ≤ c.toNat ∧ c ≠ 58 ∧ c ≠ 64 ∧ c ≠ 47 ∧ c ≠ 92 ∧ c ≠ 63 ∧ c ≠ 35 := fun c hc =>
 ⟨clo_vis (by decide) h c hc, clo_ne h 58 (by decide) c hc, clo_ne h 64 (by decide) c hc, clo_ne h 47 (by decide) c hc, clo_ne h 92 (by decide) c hc, clo_ne h 63 (by decide) c hc, clo_ne h 35 (by decide) c hc⟩
theorem por_facts (q : P) : ∀ c ∈ porL q, 33 ≤ c.toNat ∧ c ≠ 64 ∧ c ≠ 47 ∧ c ≠ 92 ∧ c ≠ 63 ∧ c ≠ 35 := by
 intro c hc
 unfold porL at hc
 split at hc
 ·rcases List.mem_cons.1 hc with rfl | hc
  ·decide
  ·have := hosC_facts c (dg_hosC _ c hc)
   exact ⟨this.2.2.1, this.2.2.2.2.1, this.2.2.2.2.2.1, this.2.2.2.2.2.2.1, this.2.2.2.2.2.2.2.1, this.2.2.2.2.2.2.2.2⟩
 ·cases hc
theorem aut_facts (q : P) (h1 : clo 4 q.us.data.toList) (h2 : clo 4 q.pw.data.toList) (h3 : hostN q.hk q.hn q.ha) : ∀ c ∈ autL q, 33 ≤ c.toNat ∧ c ≠ 47 ∧ c ≠ 92 ∧ c ≠ 63 ∧ c ≠ 35 := by
 intro c hc
 unfold autL at hc
 simp only [List.mem_append] at hc
 rcases hc with hc | hc | hc | hc | hc
 ·have := us_facts h1 c hc
  exact ⟨this.1, this.2.2.2⟩
 ·unfold pwL at hc
  split at hc
  ·cases hc
  ·rcases List.mem_cons.1 hc with rfl | hc
   ·decide
   ·have := us_facts h2 c hc
    exact ⟨this.1, this.2.2.2⟩
 ·unfold atL' at hc
  split at hc
  ·cases hc
  ·simp only [List.mem_cons, List.not_mem_nil, or_false] at hc
   rw [hc]; decide
 ·have := hosC_facts c ((host_back _ _ _ h3).2.2.2.2.2 c hc)
  exact ⟨this.2.2.1, this.2.2.2.2.2⟩
 ·have := por_facts q c hc
  exact ⟨this.1, this.2.2⟩
theorem put_facts (ps : List (List UInt8)) (h : ∀ p ∈ ps, fixP p) : ∀ c ∈ putL ps, 33 ≤ c.toNat ∧ c ≠ 63 ∧ c ≠ 35 := by
 intro c hc
 unfold putL at hc
 rw [List.mem_flatMap] at hc
 obtain ⟨p, hp, hc⟩ := hc
 rcases List.mem_cons.1 hc with rfl | hc
 ·decide
 ·have := fix_clo p (h p hp)
  exact ⟨clo_vis (by decide) this c hc, clo_ne this 63 (by decide) c hc, clo_ne this 35 (by decide) c hc⟩
theorem tail_vis (q : P) (hq : (q.hq = true ∧ clo 2 q.qu.data.toList) ∨ (q.hq = false ∧ q.qu = ⟨#[]⟩)) (hf : (q.hf = true ∧ clo 3 q.fr.data.toList) ∨ (q.hf = false ∧ q.fr = ⟨#[]⟩)) : ∀ c ∈ tailL q, 33 ≤ c.toNat := by
 intro c hc
 unfold tailL queL frgL at hc
 rcases List.mem_append.1 hc with hc | hc
 ·rcases hq with ⟨h, hh⟩ | ⟨h, hh⟩
  ·rw [if_pos h] at hc
   rcases List.mem_cons.1 hc with rfl | hc
   ·decide
   ·exact clo_vis (by decide) hh c hc
  ·rw [if_neg (by rw [h]; decide)] at hc; cases hc
 ·rcases hf with ⟨h, hh⟩ | ⟨h, hh⟩
  ·rw [if_pos h] at hc
   rcases List.mem_cons.1 hc with rfl | hc
   ·decide
   ·exact clo_vis (by decide) hh c hc
  ·rw [if_neg (by rw [h]; decide)] at hc; cases hc
theorem writ_vis (q : P) (h : Nf q) : ∀ c ∈ writL q, 33 ≤ c.toNat := by
 intro c hc
 unfold writL at hc
 simp only [List.mem_append] at hc
 rcases hc with hc | hc | hc | hc
 ·exact (schB_facts c (sch_bytes _ h.sch c hc)).2.1
 ·simp only [List.mem_cons, List.not_mem_nil, or_false] at hc
  rw [hc]; decide
 ·unfold mainL at hc
  rcases h.main with ⟨h0, _, _, _, _, _, _, _, hop, _⟩ | ⟨h0, _, hu, hw, hh, _, _, hp⟩
  ·rw [if_neg (by omega)] at hc
   exact clo_vis (by decide) hop c hc
  ·rw [if_pos h0] at hc
   simp only [List.mem_append, List.mem_cons, List.not_mem_nil, or_false] at hc
   rcases hc with (rfl | rfl) | hc | hc
   ·decide
   ·decide
   ·exact (aut_facts q hu hw hh c hc).1
   ·exact (put_facts q.ps hp c hc).1
 ·exact tail_vis q h.que h.frg c hc
theorem aut_read (p q : P) (hsc : p.sc = q.sc) (hus : p.us = ⟨#[]⟩) (hpw : p.pw = ⟨#[]⟩) (h1 : clo 4 q.us.data.toList) (h2 : clo 4 q.pw.data.toList) (h3 : hostN q.hk q.hn q.ha) (hpo : q.po = -1 ∨ (0 ≤ q.po ∧ q.po ≤ 65535 ∧ q.po ≠ ownZ q.sc)) (hl : (autL q).length ≤ 200) : autP p (autL q) = some { p with us := q.us, pw := q.pw, hk := q.hk, hn := q.hn, ha := q.ha, po := q.po } := by
 obtain ⟨b1, b2, b3, b4, b5, b6⟩ := host_back _ _ _ h3
 obtain ⟨H, hH⟩ : ∃ H, H = putT q.hk q.hn q.ha ++ porL q := ⟨_, rfl⟩
 have hfree : ∀ c ∈ H, c ≠ 64 := by
  intro c hc
  rw [hH] at hc
  rcases List.mem_append.1 hc with hc | hc
  ·exact (hosC_facts c (b6 c hc)).2.2.2.2.1
  ·exact (por_facts q c hc).2.1
 have hlen : q.us.data.toList.length ≤ 200 ∧ q.pw.data.toList.length ≤ 200 := by
  unfold autL at hl
  simp only [List.length_append] at hl
  refine ⟨by omega, ?_⟩
  unfold pwL at hl
  split at hl
  ·rename_i e; rw [e]; simp
  ·simp only [List.length_cons] at hl; omega
 have hup : upL [58] H = putT q.hk q.hn q.ha := by
  rw [hH]
  refine up_tail _ _ _ (fun d hd => ?_) ?_
  ·have := (hosC_facts d (b6 d hd)).2.2.2.1
   rw [among_one]; simpa using this
  ·unfold porL; split
   ·exact .inr ⟨58, _, rfl, by decide⟩
   ·exact .inl rfl
 have hbe : behind H = (porL q).tail := by
  unfold behind
  rw [hup, hH, List.drop_left]
 have hport : portB (porL q).tail (ownZ q.sc) = true ∧ portV (porL q).tail (ownZ q.sc) = q.po := by
  rcases hpo with h | ⟨h, h', h''⟩
  ·have e : porL q = [] := by unfold porL; rw [if_neg (by omega)]
   rw [e, h]
   exact ⟨(portL_empty _).2, (portL_empty _).1⟩
  ·have e : (porL q).tail = dg q.po := by unfold porL; rw [if_pos h]; rfl
   have hp : portN 0 (dg q.po) = some q.po := by
    unfold dg
    rw [dd_port _ (by omega)]
    congr 1
    omega
   rw [e]
   have := portL_some (dg q.po) (ownZ q.sc) q.po (figs_dd _) (dg_ne _) hp h''
   exact ⟨this.2, this.1⟩
 have hwho : whereL (autL q) = H ∧ whoP p (autL q) = { p with us := q.us, pw := q.pw } := by
  by_cases h0 : q.us.data.toList = [] ∧ q.pw.data.toList = []
  ·have e : autL q = H := by
    unfold autL pwL atL'
    rw [if_pos h0.2, if_pos h0, h0.1, hH]; rfl
   rw [e]
   unfold whereL whoP
   rw [at_free H hfree]
   refine ⟨rfl, ?_⟩
   rw [text_none q.us h0.1, text_none q.pw h0.2]
   cases p; simp_all
  ·have e : autL q = (q.us.data.toList ++ pwL q) ++ 64 :: H := by
    unfold autL atL'
    rw [if_neg h0, hH]; simp
   rw [e]
   unfold whereL whoP
   rw [at_split _ H hfree]
   refine ⟨rfl, ?_⟩
   have hu : upL [58] (q.us.data.toList ++ pwL q) = q.us.data.toList := by
    refine up_tail _ _ _ (fun d hd => ?_) ?_
    ·have := (us_facts h1 d hd).2.1
     rw [among_one]; simpa using this
    ·unfold pwL; split
     ·exact .inl rfl
     ·exact .inr ⟨58, _, rfl, by decide⟩
   have hb : behind (q.us.data.toList ++ pwL q) = q.pw.data.toList := by
    unfold behind
    rw [hu, List.drop_left]
    unfold pwL; split
    ·rename_i e; rw [e]; rfl
    ·rfl
   show ({ p with us := wrT 4 (upL [58] (q.us.data.toList ++ pwL q)), pw := wrT 4 (behind (q.us.data.toList ++ pwL q)) } : P) = _
   rw [hu, hb, wr_same 4 _ h1 hlen.1, wr_same 4 _ h2 hlen.2]
 unfold autP autB autQ
 rw [hwho.1, hwho.2, hup, hbe, hsc, hport.1, hport.2, b1, b2, b3, b4]
 rfl
theorem main_len (q : P) : (tailL q).length ≤ (writL q).length ∧ (0 ≤ ownZ q.sc → (autL q).length ≤ (writL q).length ∧ (putL q.ps).length ≤ (writL q).length) ∧ (ownZ q.sc < 0 → q.op.data.toList.length ≤ (writL q).length) := by
 unfold writL mainL
 refine ⟨by simp; omega, fun h => ?_, fun h => ?_⟩
 ·rw [if_pos h]; simp; omega
 ·rw [if_neg (by omega)]; simp; omega
theorem nf_sch (q : P) (h : Nf q) (hl : (writL q).length ≤ 200) : schP P.zero (writL q) = some q := by
 obtain ⟨m1, m2, m3⟩ := main_len q
 have e1 : upL [58] (writL q) = q.sc.data.toList := by
  unfold writL
  refine up_hit _ _ _ 58 (fun d hd => ?_) (by decide)
  have := (schB_facts d (sch_bytes _ h.sch d hd)).2.2
  rw [among_one]; simpa using this
 have e2 : (writL q).drop q.sc.data.toList.length = 58 :: (mainL q ++ tailL q) := by unfold writL; rw [List.drop_left]; rfl
 have e3 : (writL q).drop (q.sc.data.toList.length + 1) = mainL q ++ tailL q := by rw [← List.drop_drop, e2]; rfl
 have e4 : low q.sc.data.toList = q.sc.data.toList := low_same _ (fun c hc => (schB_facts c (sch_bytes _ h.sch c hc)).1)
 unfold schP
 rw [e1, e2, e4, mk_list, e3, if_pos ⟨rfl, h.sch⟩]
 have hth : tailL q = [] ∨ ∃ c r, tailL q = c :: r ∧ among [63, 35] c = true := by
  rcases tail_head q with h | ⟨c, r, h, hc⟩
  ·exact .inl h
  ·exact .inr ⟨c, r, h, by rcases hc with rfl | rfl <;> decide⟩
 rcases h.main with ⟨h0, g1, g2, g3, g4, g5, g6, g7, hop, hno⟩ | ⟨h0, g1, hu, hw, hh, hp, hne, hfx⟩
 ·rw [if_neg (by omega)]
  have em : mainL q = q.op.data.toList := by unfold mainL; rw [if_neg (by omega)]
  have eu : upL [63, 35] (q.op.data.toList ++ tailL q) = q.op.data.toList := up_tail _ _ _ (fun d hd => among2 d (hno d hd).1 (hno d hd).2) hth
  rw [em]
  unfold opqP
  rw [eu, List.drop_left, wr_same 5 _ hop (by have := m3 h0; omega)]
  rw [tail_read _ q rfl rfl rfl rfl h.que h.frg (by omega)]
  congr 1
  cases q
  simp_all [P.zero]
 ·rw [if_pos h0]
  have em : mainL q = 47 :: 47 :: (autL q ++ putL q.ps) := by unfold mainL; rw [if_pos h0]; rfl
  have ha := aut_facts q hu hw hh
  have hane : autL q ≠ [] := by
   unfold autL
   intro e
   simp only [List.append_eq_nil_iff] at e
   exact (host_back _ _ _ hh).2.2.2.2.1 e.2.2.2.1
  have es : (mainL q ++ tailL q).dropWhile (among [47, 92]) = autL q ++ (putL q.ps ++ tailL q) := by
   rw [em]
   obtain ⟨c, r, hcr⟩ : ∃ c r, autL q = c :: r := by
    cases hx : autL q with
    | nil => exact absurd hx hane
    | cons c r => exact ⟨c, r, rfl⟩
   have hc := ha c (by rw [hcr]; exact List.mem_cons_self ..)
   rw [List.cons_append, List.cons_append, List.dropWhile_cons, if_pos (by decide), List.dropWhile_cons, if_pos (by decide), List.append_assoc, hcr, List.cons_append, List.dropWhile_cons, if_neg (by rw [amongS c hc.2.1 hc.2.2.1]; decide)]
  obtain ⟨p0, ps, hps⟩ : ∃ p0 ps, q.ps = p0 :: ps := by
   cases hx : q.ps with
   | nil => exact absurd hx hne
   | cons p0 ps => exact ⟨p0, ps, rfl⟩
  have eh : upL [47, 92, 63, 35] (autL q ++ (putL q.ps ++ tailL q)) = autL q := by
   refine up_tail _ _ _ (fun d hd => among4 d (ha d hd).2.1 (ha d hd).2.2.1 (ha d hd).2.2.2.1 (ha d hd).2.2.2.2) (.inr ⟨47, p0 ++ putL ps ++ tailL q, ?_, by decide⟩)
   rw [hps]; simp [putL]
  have ep : upL [63, 35] (putL q.ps ++ tailL q) = putL q.ps := up_tail _ _ _ (fun d hd => among2 d (put_facts q.ps hfx d hd).2.1 (put_facts q.ps hfx d hd).2.2) hth
  unfold slaP hosP
  rw [es, eh, List.drop_left]
  have har := aut_read ({ P.zero with sc := q.sc, po := -1 }) q rfl rfl rfl hu hw hh hp (by have := (m2 h0).1; omega)
  rw [har]
  show some (patP _ _) = _
  unfold patP
  rw [ep, List.drop_left, path_put q.ps hne hfx (by have := (m2 h0).2; omega)]
  rw [tail_read _ q rfl rfl rfl rfl h.que h.frg (by omega)]
  congr 1
  cases q
  simp_all [P.zero]
theorem nf_read (q : P) (h : Nf q) (hl : (writL q).length ≤ 200) (hp : q.ps.length ≤ 12) : getO (writL q) = some q := by
 unfold getO
 rw [if_pos hl, trim_vis _ (writ_vis q h), nf_sch q h hl]
 show (if q.ps.length ≤ 12 ∧ (writL q).length ≤ 600 then some q else none) = some q
 rw [if_pos ⟨hp, by omega⟩]
end Go.Proofs.YtnfhajhdpdidlaaGreatDoor
end
section
namespace Go.Proofs.YtnfhajhdpdidlaaGreatDoor
open Go.RowKit Go.Shelf
theorem frag_shape (p : P) (l : List UInt8) (hl : l.length ≤ 200) (h1 : p.hf = false) (h2 : p.fr = ⟨#[]⟩) : ∃ c d, fragP p l = { p with hf := c, fr := d } ∧ ((c = true ∧ clo 3 d.data.toList) ∨ (c = false ∧ d = ⟨#[]⟩)) := by
 unfold fragP
 split
 ·refine ⟨true, _, rfl, .inl ⟨rfl, wr_clo 3 (by decide) _ (by rw [List.length_tail]; omega)⟩⟩
 ·refine ⟨false, ⟨#[]⟩, ?_, .inr ⟨rfl, rfl⟩⟩
  cases p; simp_all
theorem que_shape (p : P) (l : List UInt8) (hl : l.length ≤ 200) (h0 : p.hq = false) (h0' : p.qu = ⟨#[]⟩) (h1 : p.hf = false) (h2 : p.fr = ⟨#[]⟩) :
  ∃ a b c d, queP p l = { p with hq := a, qu := b, hf := c, fr := d } ∧ ((a = true ∧ clo 2 b.data.toList) ∨ (a = false ∧ b = ⟨#[]⟩)) ∧ ((c = true ∧ clo 3 d.data.toList) ∨ (c = false ∧ d = ⟨#[]⟩)) := by
 unfold queP
 have ht : l.tail.length ≤ 200 := by rw [List.length_tail]; omega
 split
 ·have hu : (upL [35] l.tail).length ≤ 200 := Nat.le_trans (upL_le _ _) ht
  obtain ⟨c, d, e, h⟩ := frag_shape ({ p with hq := true, qu := wrT 2 (upL [35] l.tail) }) (l.tail.drop (upL [35] l.tail).length) (by rw [List.length_drop]; omega) h1 h2
  exact ⟨true, wrT 2 (upL [35] l.tail), c, d, e, .inl ⟨rfl, wr_clo 2 (by decide) _ hu⟩, h⟩
 ·obtain ⟨c, d, e, h⟩ := frag_shape p l hl h1 h2
  refine ⟨false, ⟨#[]⟩, c, d, ?_, .inr ⟨rfl, rfl⟩, h⟩
  rw [e]
  cases p; simp_all
theorem nf_que (p : P) (l : List UInt8) (hl : l.length ≤ 200) (h0 : p.hq = false) (h0' : p.qu = ⟨#[]⟩) (h1 : p.hf = false) (h2 : p.fr = ⟨#[]⟩) (hs : schL p.sc.data.toList = true)
  (hm : (ownZ p.sc < 0 ∧ p.us = ⟨#[]⟩ ∧ p.pw = ⟨#[]⟩ ∧ p.hk = 0 ∧ p.hn = ⟨#[]⟩ ∧ p.ha = 0 ∧ p.po = -1 ∧ p.ps = [] ∧ clo 5 p.op.data.toList ∧ ∀ c ∈ p.op.data.toList, c ≠ 63 ∧ c ≠ 35) ∨
   (0 ≤ ownZ p.sc ∧ p.op = ⟨#[]⟩ ∧ clo 4 p.us.data.toList ∧ clo 4 p.pw.data.toList ∧ hostN p.hk p.hn p.ha ∧ (p.po = -1 ∨ (0 ≤ p.po ∧ p.po ≤ 65535 ∧ p.po ≠ ownZ p.sc)) ∧ p.ps ≠ [] ∧ ∀ x ∈ p.ps, fixP x)) : Nf (queP p l) := by
 obtain ⟨a, b, c, d, e, hq, hf⟩ := que_shape p l hl h0 h0' h1 h2
 rw [e]
 exact ⟨hs, hq, hf, hm⟩
theorem port_shape (l : List UInt8) (own : Int) (h : portB l own = true) : portV l own = -1 ∨ (0 ≤ portV l own ∧ portV l own ≤ 65535 ∧ portV l own ≠ own) := by
 by_cases hf : figsL l = true
 ·by_cases h0 : l = []
  ·rw [h0]; exact .inl (portL_empty own).1
  ·cases hn : portN 0 l with
   | none => rw [(portL_none l own hf h0 hn).2] at h; cases h
   | some n =>
    by_cases he : n = own
    ·rw [he] at hn; exact .inl (portL_own l own hf h0 hn).1
    ·rw [(portL_some l own n hf h0 hn he).1]
     have := portN_le l 0 n (by decide) (by decide) (figs_low l hf) hn
     exact .inr ⟨this.1, this.2, he⟩
 ·rw [(portL_nofig l own (by simpa using hf)).2] at h; cases h
theorem who_shape (p : P) (l : List UInt8) (hl : l.length ≤ 200) (h1 : p.us = ⟨#[]⟩) (h2 : p.pw = ⟨#[]⟩) : ∃ a b, whoP p l = { p with us := a, pw := b } ∧ clo 4 a.data.toList ∧ clo 4 b.data.toList := by
 unfold whoP
 cases h : atSplit l with
 | none =>
  refine ⟨⟨#[]⟩, ⟨#[]⟩, ?_, clo_nil 4, clo_nil 4⟩
  cases p; simp_all
 | some ab =>
  obtain ⟨a, b⟩ := ab
  have e := (at_some l a b h).1
  have ha : a.length ≤ 200 := by rw [e, List.length_append] at hl; omega
  refine ⟨_, _, rfl, wr_clo 4 (by decide) _ (Nat.le_trans (upL_le _ _) ha), wr_clo 4 (by decide) _ ?_⟩
  unfold behind
  rw [List.length_tail, List.length_drop]; omega
theorem nf_of_sch (t : List UInt8) (q : P) (hl : t.length ≤ 200) (h : schP P.zero t = some q) : Nf q := by
 unfold schP at h
 split at h
 ·rename_i hc
  obtain ⟨_, hs⟩ := hc
  obtain ⟨s, hsx⟩ : ∃ s, s = mk (low (upL [58] t)) := ⟨_, rfl⟩
  have hs' : schL s.data.toList = true := by rw [hsx, mk_data]; exact hs
  rw [← hsx] at h
  obtain ⟨m, hm⟩ : ∃ m, m = t.drop ((upL [58] t).length + 1) := ⟨_, rfl⟩
  have hml : m.length ≤ 200 := by rw [hm, List.length_drop]; omega
  rw [← hm] at h
  split at h
  ·rename_i ho
   unfold slaP hosP at h
   obtain ⟨k, hk⟩ : ∃ k, k = m.dropWhile (among [47, 92]) := ⟨_, rfl⟩
   have hkl : k.length ≤ 200 := by rw [hk]; exact Nat.le_trans (List.dropWhile_sublist _).length_le hml
   rw [← hk] at h
   rw [Option.map_eq_some_iff] at h
   obtain ⟨u, hu, he⟩ := h
   unfold autP at hu
   split at hu
   ·rename_i hb
    unfold autB at hb
    rw [Bool.and_eq_true] at hb
    have hu' : autQ { P.zero with sc := s, po := -1 } (upL [47, 92, 63, 35] k) = u := by simpa using hu
    have hal : (upL [47, 92, 63, 35] k).length ≤ 200 := Nat.le_trans (upL_le _ _) hkl
    obtain ⟨x, y, ew, cx, cy⟩ := who_shape ({ P.zero with sc := s, po := -1 }) (upL [47, 92, 63, 35] k) hal rfl rfl
    unfold autQ at hu'
    rw [ew] at hu'
    rw [← he]
    unfold patP
    have hdl : (k.drop (upL [47, 92, 63, 35] k).length).length ≤ 200 := by rw [List.length_drop]; omega
    have hpl : (upL [63, 35] (k.drop (upL [47, 92, 63, 35] k).length)).length ≤ 200 := Nat.le_trans (upL_le _ _) hdl
    subst hu'
    refine nf_que _ _ (by rw [List.length_drop]; omega) rfl rfl rfl rfl hs' (.inr ⟨ho, rfl, cx, cy, host_read _ hb.1, port_shape _ _ hb.2, path_ne _ hpl, path_fix _⟩)
   ·cases hu
  ·rename_i ho
   have h' : opqP { P.zero with sc := s, po := -1 } m = q := by simpa using h
   rw [← h']
   unfold opqP
   have hul : (upL [63, 35] m).length ≤ 200 := Nat.le_trans (upL_le _ _) hml
   refine nf_que _ _ (by rw [List.length_drop]; omega) rfl rfl rfl rfl hs' (.inl ⟨by show ownZ s < 0; omega, rfl, rfl, rfl, rfl, rfl, rfl, rfl, wr_clo 5 (by decide) _ hul, ?_⟩)
   intro c hc
   have hc' : c ∈ enc (isIn 5) (upL [63, 35] m) := by rw [← wr_small 5 _ hul]; exact hc
   unfold enc at hc'
   rw [List.mem_flatMap] at hc'
   obtain ⟨d, hd, hc'⟩ := hc'
   have hfree : among [63, 35] d = false := by
    rcases up_cases [63, 35] m with ⟨e, hh⟩ | ⟨a, x, b, e1, e2, hx, hh⟩
    ·rw [e] at hd; exact hh d hd
    ·rw [e2] at hd; exact hh d hd
   have hd2 : d ≠ 63 ∧ d ≠ 35 := by
    constructor
    ·intro e; rw [e] at hfree; revert hfree; decide
    ·intro e; rw [e] at hfree; revert hfree; decide
   have hfs := fig_shr d
   by_cases hi : isIn 5 d = true
   ·rw [encB_yes _ _ hi] at hc'
    simp only [List.mem_cons, List.not_mem_nil, or_false] at hc'
    have hfg : ∀ n : _root_.Fin 16, fig n.val ≠ 63 ∧ fig n.val ≠ 35 := by decide
    rcases hc' with rfl | rfl | rfl
    ·decide
    ·exact hfg ⟨_, hfs.1⟩
    ·exact hfg ⟨_, hfs.2⟩
   ·rw [encB_no _ _ (by simpa using hi)] at hc'
    simp only [List.mem_cons, List.not_mem_nil, or_false] at hc'
    rw [hc']; exact hd2
 ·cases h
theorem read_nf (l : List UInt8) (q : P) (h : getO l = some q) : Nf q ∧ l.length ≤ 200 ∧ q.ps.length ≤ 12 := by
 unfold getO at h
 split at h
 ·rename_i hl
  rw [Option.bind_eq_some_iff] at h
  obtain ⟨r, hr, h⟩ := h
  split at h
  ·rename_i hc
   have e : r = q := by simpa using h
   subst e
   exact ⟨nf_of_sch _ r (by have := trim_len l; omega) hr, hl, hc.1⟩
  ·cases h
 ·cases h
theorem ok_getO (q : P) : okP q ↔ getO (writL q) = some q := by
 unfold okP getB getP
 constructor
 ·rintro ⟨h1, h2⟩
  cases h : getO (writL q) with
  | none => rw [h] at h1; cases h1
  | some r => rw [h] at h2; exact congrArg some h2
 ·intro h
  rw [h]; exact ⟨rfl, rfl⟩
theorem ok_iff (q : P) : okP q ↔ Nf q ∧ (writL q).length ≤ 200 ∧ q.ps.length ≤ 12 := by
 rw [ok_getO]
 exact ⟨fun h => read_nf _ q h, fun h => nf_read q h.1 h.2.1 h.2.2⟩
end Go.Proofs.YtnfhajhdpdidlaaGreatDoor
end
section
namespace Go.Proofs.YtnfhajhdpdidlaaGreatDoor
open Go.RowKit Go.Shelf
def cutK (s : ByteArray) : Nat := max (Lib.lastIndexByte s 47).toNat 1
def pofT (b : Bool) (l : List UInt8) : ByteArray := if b = true then (mk l).extract 0 (cutK (mk l)) else ⟨#[47]⟩
theorem bang_get (s : ByteArray) (j : Nat) (hj : j < s.size) : s.data[j]! = s[j] := by
 rw [ByteArray.getElem_eq_getElem_data]
 exact getElem!_pos _ _ _
theorem b47_iff (c : UInt8) : ((c.toNat : Int) = 47) ↔ c = 47 := by
 constructor
 ·intro e; apply UInt8.toNat_inj.1; show c.toNat = 47; omega
 ·intro e; rw [e]; rfl
theorem last_here (s : ByteArray) (k : Nat) (hk : k < s.size) (h : s[k] = 47) (hn : ∀ j, k < j → (hj : j < s.size) → s[j] ≠ 47) : Lib.lastIndexByte s 47 = k := by
 rcases Lib.lastIndexByte_spec s 47 with ⟨_, h2⟩ | ⟨i, hi, e, hc, h2⟩
 ·exact absurd ((b47_iff _).2 h) (by rw [← bang_get s k hk]; exact h2 k hk)
 ·rw [e]
  rcases Nat.lt_trichotomy i k with hlt | heq | hgt
  ·exact absurd ((b47_iff _).2 h) (by rw [← bang_get s k hk]; exact h2 k hlt hk)
  ·rw [heq]
  ·rw [bang_get s i hi] at hc
   exact absurd ((b47_iff _).1 hc) (hn i hgt hi)
theorem put_first (ps : List (List UInt8)) (h : ps ≠ []) : ∃ r, putL ps = 47 :: r := by
 cases ps with
 | nil => exact absurd rfl h
 | cons p ps => exact ⟨p ++ putL ps, rfl⟩
theorem ext_slash (s : ByteArray) (h : 0 < s.size) (h0 : s[0] = 47) : s.extract 0 1 = ⟨#[47]⟩ := by
 apply ByteArray.ext
 rw [ByteArray.data_extract]
 apply Array.ext'
 have hl : s.data.toList.length = s.size := by simp
 rw [Array.toList_extract, List.extract_eq_take_drop]
 cases hx : s.data.toList with
 | nil => rw [hx] at hl; simp at hl; omega
 | cons c r =>
  have : s[0] = c := by
   rw [ByteArray.getElem_eq_getElem_data]
   have := Array.getElem_toList (xs := s.data) (i := 0) (by simpa using h)
   rw [← this]; simp [hx]
  rw [← this, h0]; rfl
theorem cut_zero (s : ByteArray) (h0 : 0 < s.size) (h : s[0] = 47) (hn : ∀ j, 0 < j → (hj : j < s.size) → s[j] ≠ 47) : s.extract 0 (cutK s) = ⟨#[47]⟩ := by
 unfold cutK
 rw [last_here s 0 h0 h hn]
 exact ext_slash s h0 h
theorem cut_more (s : ByteArray) (k : Nat) (hk : k + 1 < s.size) (h : s[k + 1] = 47) (hn : ∀ j, k + 1 < j → (hj : j < s.size) → s[j] ≠ 47) : cutK s = k + 1 := by
 unfold cutK
 rw [last_here s (k + 1) hk h hn]
 omega
theorem last_cases (s : ByteArray) (h0 : 0 < s.size) (h : s[0] = 47) : (∃ k : Nat, k < s.size ∧ Lib.lastIndexByte s 47 = k) := by
 rcases Lib.lastIndexByte_spec s 47 with ⟨_, h2⟩ | ⟨i, hi, e, hc, h2⟩
 ·exact absurd ((b47_iff _).2 h) (by rw [← bang_get s 0 h0]; exact h2 0 h0)
 ·exact ⟨i, hi, e⟩
theorem mk_first (l r : List UInt8) (h : l = 47 :: r) : ∃ h0 : 0 < (mk l).size, (mk l)[0] = 47 := by
 subst h
 exact ⟨by rw [mk_size]; simp, rfl⟩
theorem ok_host (q : P) (h : okP q) : (ownZ q.sc < 0 ↔ q.hk = 0) ∧ (0 ≤ ownZ q.sc → q.ps ≠ []) := by
 rcases ((ok_iff q).1 h).1.main with ⟨h0, _, _, hk, _⟩ | ⟨h0, _, _, _, hh, _, hp, _⟩
 ·exact ⟨⟨fun _ => hk, fun _ => h0⟩, fun h => by omega⟩
 ·refine ⟨⟨fun h => by omega, fun e => ?_⟩, fun _ => hp⟩
  rcases hh with hh | ⟨hh, _⟩
  ·have := (named_facts hh).1; omega
  ·omega
end Go.Proofs.YtnfhajhdpdidlaaGreatDoor
end

/- spec.OriginPut: an origin, written. Plain facts: an address without who and end; an origin's own address; what an origin's text is read as. What Refer answers, plain. The law FnOriginText answers true, whatever the codes. -/
import Derived.Test.YtnfhajhdpdidlaaGreatDoorCFnOriginText08
import Derived.Test.YtnfhajhdpdidlaaGreatDoorB34
import Derived.Test.YtnfhajhdpdidlaaGreatDoorCFnOriginText07
import Derived.Test.YtnfhajhdpdidlaaGreatDoorCFnOriginText01
import Derived.Test.YtnfhajhdpdidlaaGreatDoorCFnOriginText06
import Derived.Test.YtnfhajhdpdidlaaGreatDoorB42
import Derived.Deep.Cut
import Derived.Deep.RegionHeld3
set_option linter.unusedVariables false
set_option linter.unusedSimpArgs false
set_option maxHeartbeats 8000000
set_option maxRecDepth 100000
section
namespace Go.Proofs.YtnfhajhdpdidlaaGreatDoor
open Go.RowKit Go.Shelf
theorem specOrigin (c : ByteArray) (k : Int) (s : ByteArray) (a p : Int) (w : World) (hs : s.size ≤ 1048576) :
  Calls Tryz.prog 27 #[.agg #[.string c, .int .i64 k, .string s, .int .i64 a, .int .i64 p]] w fun e w' => e = .returned (.string (orgT c k s a p)) ∧ Below w.heap.size w w' := by
 have CO : Hid (∀ W, Calls Tryz.prog 76 #[.agg #[.int .i64 k, .string s, .int .i64 a]] W fun e w' => e = .returned (.bool (okH k s a)) ∧ Below W.heap.size W w') := fun W => specOk k s a W hs
 have CP : Hid (∀ W, Calls Tryz.prog 78 #[.agg #[.int .i64 k, .string s, .int .i64 a]] W fun e w' => e = .returned (.string (mk (putT k s a))) ∧ Below W.heap.size W w') := fun W => specPut k s a W hs
 have hpl : (mk (putT k s a)).size ≤ 60 := by rw [mk_size]; exact putT_len k s a
 have CW : Hid (∀ W, Calls Tryz.prog 62 #[.string c] W fun e w' => e = .returned (.int .i64 (ownZ c)) ∧ w' = W) := fun W => l3Own c W
 have hB0 : Below w.heap.size w (w.alloc (Obj.cells #[.string c, .int .i64 k, .string s, .int .i64 a, .int .i64 p] 48)) := (Below.refl _ w).alloc (Nat.le_refl _) _
 rcases own_cases c with ho | ho
 ·have HR : Hid (orgT c k s a p = ⟨#[110, 117, 108, 108]⟩) := by show _ = _; unfold orgT orgOk; rw [ho]; rfl
  have ho' : ownZ c < 0 := by omega
  clear ho
  go_enter Tryz.func27, Tryz.ntmps27
  go_wp2_with fail
  refine (CW.out _).mono ?_
  rintro e W1 ⟨rfl, rfl⟩
  go_wp2
  go_ret
  exact ⟨by rw [HR.out]; rfl, hB0⟩
 obtain ⟨hc5, ho2⟩ := own_small ho
 cases hok : okH k s a with
 | false =>
  have HR : Hid (orgT c k s a p = ⟨#[110, 117, 108, 108]⟩) := by show _ = _; unfold orgT orgOk; rw [hok]; simp
  rw [hok] at CO
  clear hok
  go_enter Tryz.func27, Tryz.ntmps27
  go_wp2_with fail
  refine (CW.out _).mono ?_
  rintro e W1 ⟨rfl, rfl⟩
  go_wp2_with fail
  refine (CO.out _).mono ?_
  rintro e W2 ⟨rfl, d2⟩
  have b2 := hB0.trans (d2.mono hB0.size)
  go_wp2
  go_ret
  exact ⟨by rw [HR.out]; rfl, b2⟩
 | true =>
  rw [hok] at CO
  by_cases hp : 0 ≤ p ∧ p ≤ 65535
  ·have CN : Hid (∀ W, Calls Tryz.prog 77 #[.int .i64 p, .int .i64 0, .int .i64 65535] W fun e w' => e = .returned (.bool true) ∧ w' = W) := fun W => l1In_yes _ _ _ W hp
   obtain ⟨hp0, hp1⟩ := hp
   have CI : Hid (∀ W, Calls Tryz.prog 79 #[.int .i64 p] W fun e w' => e = .returned (.string (mk (dg p))) ∧ Below W.heap.size W w') := fun W => l1DecM p W hp0 (by omega)
   have hdl : (mk (dg p)).size ≤ 5 := by rw [mk_size]; exact dg_len5 p (by omega)
   have hyes : orgOk c k s a p = true := by unfold orgOk; rw [hok, decide_eq_true ho, decide_eq_true ⟨hp0, hp1⟩]; rfl
   have HR1 : Hid (p = ownZ c → orgT c k s a p = c ++ ⟨#[58, 47, 47]⟩ ++ mk (putT k s a)) := by intro h; unfold orgT; rw [if_pos hyes, if_pos h]
   have HR2 : Hid (¬ p = ownZ c → orgT c k s a p = c ++ ⟨#[58, 47, 47]⟩ ++ mk (putT k s a) ++ ⟨#[58]⟩ ++ mk (dg p)) := by intro h; unfold orgT; rw [if_pos hyes, if_neg h, ByteArray.append_assoc (c := mk (dg p))]
   clear hyes hok
   generalize mk (putT k s a) = P at *
   generalize mk (dg p) = D at *
   generalize orgT c k s a p = R at *
   generalize ownZ c = o at *
   have z1 : c.size + 3 ≤ 8 := by omega
   go_enter Tryz.func27, Tryz.ntmps27
   go_wp2_with fail
   refine (CW.out _).mono ?_
   rintro e W1 ⟨rfl, rfl⟩
   go_wp2_with fail
   refine (CO.out _).mono ?_
   rintro e W2 ⟨rfl, d2⟩
   have b2 := hB0.trans (d2.mono hB0.size)
   have q0 : W2.cell? ⟨w.heap.size, 0, none⟩ = some (.string c) := box_cell d2 0
   have q1 : W2.cell? ⟨w.heap.size, 1, none⟩ = some (.int .i64 k) := box_cell d2 1
   have q2 : W2.cell? ⟨w.heap.size, 2, none⟩ = some (.string s) := box_cell d2 2
   have q3 : W2.cell? ⟨w.heap.size, 3, none⟩ = some (.int .i64 a) := box_cell d2 3
   have q4 : W2.cell? ⟨w.heap.size, 4, none⟩ = some (.int .i64 p) := box_cell d2 4
   have hlt2 : w.heap.size < W2.heap.size := cell_lt q0
   clear d2
   go_wp2_with (first | (go_at_call 77; refine (CN.out _).mono ?_; rintro e W9 ⟨rfl, hW⟩; have hW2 := hW.symm; subst hW2) | fail)
   refine (fun (key : Hid ?restT) => ?restB) ?restP
   case restB =>
    go_region_with (first
     | (go_at_call 78; refine (CP.out _).mono ?_; rintro e W3 ⟨rfl, d3⟩; have p4 : W3.cell? ⟨w.heap.size, 4, none⟩ = some (.int .i64 p) := (d3.cell (p := ⟨w.heap.size, 4, none⟩) hlt2).trans q4; have p0 : W3.cell? ⟨w.heap.size, 0, none⟩ = some (.string c) := (d3.cell (p := ⟨w.heap.size, 0, none⟩) hlt2).trans q0)
     | fail)
    all_goals
     have b3 : Below w.heap.size w W3 := b2.drew.trans (d3.mono b2.size)
     clear d3
     revert p0 p4 b3
     revert W3
     exact key.out
   case restP =>
    intro W3 p0 p4 b3
    clear q0 q1 q2 q3 q4
    by_cases hpo : p = o
    ·have HR : Hid (R = c ++ ⟨#[58, 47, 47]⟩ ++ P) := HR1.out hpo
     subst hpo
     clear HR1 HR2
     go_wp2
     go_region_with (first
      | (go_at_call 62; refine (CW.out _).mono ?_; rintro e W9 ⟨rfl, hW⟩; have hW2 := hW.symm; subst hW2)
      | fail)
     all_goals
      go_wp2
      go_ret
      exact ⟨by rw [HR.out]; rfl, b3.drew⟩
    ·have HR : Hid (R = c ++ ⟨#[58, 47, 47]⟩ ++ P ++ ⟨#[58]⟩ ++ D) := HR2.out hpo
     have hpo' : (p == o) = false := beq_eq_false_iff_ne.2 hpo
     clear HR1 HR2
     go_wp2
     go_region_with (first
      | (go_at_call 62; refine (CW.out _).mono ?_; rintro e W9 ⟨rfl, hW⟩; have hW2 := hW.symm; subst hW2)
      | fail)
     all_goals
      go_wp2_with fail
      refine (CI.out _).mono ?_
      rintro e W4 ⟨rfl, d4⟩
      have b4 : Below w.heap.size w W4 := b3.drew.trans (d4.mono b3.size)
      clear d4
      go_wp2
      go_ret
      exact ⟨by rw [HR.out]; rfl, b4⟩
  ·have HR : Hid (orgT c k s a p = ⟨#[110, 117, 108, 108]⟩) := by show _ = _; unfold orgT orgOk; rw [decide_eq_false hp]; simp
   have CN : Hid (∀ W, Calls Tryz.prog 77 #[.int .i64 p, .int .i64 0, .int .i64 65535] W fun e w' => e = .returned (.bool false) ∧ w' = W) := fun W => l1In_no _ _ _ W hp
   clear hok hp
   go_enter Tryz.func27, Tryz.ntmps27
   go_wp2_with fail
   refine (CW.out _).mono ?_
   rintro e W1 ⟨rfl, rfl⟩
   go_wp2_with fail
   refine (CO.out _).mono ?_
   rintro e W2 ⟨rfl, d2⟩
   have b2 := hB0.trans (d2.mono hB0.size)
   have q4 : W2.cell? ⟨w.heap.size, 4, none⟩ = some (.int .i64 p) := box_cell d2 4
   go_wp2_with (first | (go_at_call 77; refine (CN.out _).mono ?_; rintro e W9 ⟨rfl, hW⟩; have hW2 := hW.symm; subst hW2) | fail)
   go_ret
   exact ⟨by rw [HR.out]; rfl, b2⟩
end Go.Proofs.YtnfhajhdpdidlaaGreatDoor
end
section
namespace Go.Proofs.YtnfhajhdpdidlaaGreatDoor
open Go.RowKit Go.Shelf
theorem ok_prt (q : P) (h : okP q) : (q.po = -1 ∨ (0 ≤ q.po ∧ q.po ≤ 65535 ∧ q.po ≠ ownZ q.sc ∧ 0 ≤ ownZ q.sc)) := by
 rw [ok_iff] at h
 rcases h.1.main with ⟨_, _, _, _, _, _, h, _⟩ | ⟨h0, _, _, _, _, h, _⟩
 ·exact .inl h
 ·rcases h with h | ⟨h1, h2, h3⟩
  ·exact .inl h
  ·exact .inr ⟨h1, h2, h3, h0⟩
def keyP (q : P) : P := { q with us := ⟨#[]⟩, pw := ⟨#[]⟩, hf := false, fr := ⟨#[]⟩ }
def rootP (q : P) : P := { P.zero with sc := q.sc, hk := q.hk, hn := q.hn, ha := q.ha, po := q.po, ps := [[]] }
def ptP (q : P) : Int := if q.po < 0 then ownZ q.sc else q.po
def ogT (q : P) : ByteArray := orgT q.sc q.hk q.hn q.ha (ptP q)
theorem writ_key (q : P) : (writL (keyP q)).length ≤ (writL q).length := by
 have e1 : tailL (keyP q) = queL q := by unfold tailL; rw [show frgL (keyP q) = [] from rfl, List.append_nil]; rfl
 have e2 : autL (keyP q) = putT q.hk q.hn q.ha ++ porL q := rfl
 have e3 : (queL q).length ≤ (tailL q).length := by unfold tailL; simp
 have e4 : (putT q.hk q.hn q.ha ++ porL q).length ≤ (autL q).length := by unfold autL; simp; omega
 have e5 : (mainL (keyP q)).length ≤ (mainL q).length := by
  unfold mainL
  rw [show ownZ (keyP q).sc = ownZ q.sc from rfl, e2]
  split
  ·simp only [List.length_append] at e4 ⊢; rw [show (keyP q).ps = q.ps from rfl]; omega
  ·exact Nat.le_refl _
 unfold writL
 rw [e1, show (keyP q).sc = q.sc from rfl]
 simp only [List.length_append]; omega
theorem ok_key (q : P) (h : okP q) (ho : 0 ≤ ownZ q.sc) : okP (keyP q) := by
 obtain ⟨hn, hl, hp⟩ := (ok_iff q).1 h
 refine (ok_iff _).2 ⟨⟨hn.sch, hn.que, .inr ⟨rfl, rfl⟩, ?_⟩, Nat.le_trans (writ_key q) hl, hp⟩
 rcases hn.main with ⟨h0, _⟩ | ⟨h0, g1, g2, g3, g4, g5, g6, g7⟩
 ·omega
 ·exact .inr ⟨h0, g1, clo_nil 4, clo_nil 4, g4, g5, g6, g7⟩
theorem ok_pt (q : P) (h : okP q) (ho : 0 ≤ ownZ q.sc) : 0 ≤ ptP q ∧ ptP q ≤ 65535 ∧ (ptP q = ownZ q.sc ↔ q.po < 0) := by
 have hs := own_small ho
 unfold ptP
 rcases ok_prt q h with e | ⟨e1, e2, e3, _⟩
 ·rw [if_pos (by omega)]
  exact ⟨ho, by omega, by simp; omega⟩
 ·rw [if_neg (by omega)]
  exact ⟨e1, e2, by constructor <;> intro h <;> omega⟩
theorem ok_hostN (q : P) (h : okP q) (ho : 0 ≤ ownZ q.sc) : hostN q.hk q.hn q.ha := by
 rcases ((ok_iff q).1 h).1.main with ⟨h0, _⟩ | ⟨_, _, _, _, g4, _⟩
 ·omega
 ·exact g4
theorem hostN_ok (k : Int) (s : ByteArray) (a : Int) (h : hostN k s a) : okH k s a = true := by
 unfold okH
 rcases h with h | ⟨rfl, rfl, h0, h1⟩
 ·rw [h]; simp
 ·have : numbered 2 ⟨#[]⟩ a = true := by unfold numbered; simp [h0, h1]
  rw [this]; simp
theorem app_mk (a b : List UInt8) : mk a ++ mk b = mk (a ++ b) := by
 apply ByteArray.ext; apply Array.ext'; simp [mk]
theorem og_text (q : P) (h : okP q) (ho : 0 ≤ ownZ q.sc) : ogT q = mk (q.sc.data.toList ++ ([58, 47, 47] ++ autL (rootP q))) := by
 obtain ⟨p0, p1, p2⟩ := ok_pt q h ho
 have hk := hostN_ok _ _ _ (ok_hostN q h ho)
 have hok : orgOk q.sc q.hk q.hn q.ha (ptP q) = true := by
  unfold orgOk; rw [decide_eq_true ho, hk, decide_eq_true ⟨p0, p1⟩]; rfl
 have ea : autL (rootP q) = putT q.hk q.hn q.ha ++ porL q := rfl
 have ec : q.sc = mk q.sc.data.toList := (mk_list q.sc).symm
 have e3 : (⟨#[58, 47, 47]⟩ : ByteArray) = mk [58, 47, 47] := rfl
 have e1 : (⟨#[58]⟩ : ByteArray) = mk [58] := rfl
 unfold ogT orgT
 rw [if_pos hok, ea]
 by_cases hp : q.po < 0
 ·rw [if_pos (p2.2 hp)]
  have : porL q = [] := by unfold porL; rw [if_neg (by omega)]
  rw [this, List.append_nil]
  conv => lhs; rw [ec, e3, app_mk, app_mk]
  simp
 ·rw [if_neg (fun e => hp (p2.1 e))]
  have e4 : ptP q = q.po := by unfold ptP; rw [if_neg hp]
  have : porL q = 58 :: dg q.po := by unfold porL; rw [if_pos (by omega)]
  rw [this, e4]
  conv => lhs; rw [ec, e3, e1, app_mk, app_mk, app_mk, app_mk]
  simp
theorem og_slash (q : P) (h : okP q) (ho : 0 ≤ ownZ q.sc) : ogT q ++ ⟨#[47]⟩ = mk (writL (rootP q)) := by
 rw [og_text q h ho, show (⟨#[47]⟩ : ByteArray) = mk [47] from rfl, app_mk]
 congr 1
 have e1 : mainL (rootP q) = [47, 47] ++ (autL (rootP q) ++ putL [[]]) := by unfold mainL; rw [if_pos (show 0 ≤ ownZ (rootP q).sc from ho)]; rfl
 unfold writL
 rw [e1, show tailL (rootP q) = [] from rfl, show putL [[]] = [47] from rfl, show (rootP q).sc = q.sc from rfl]
 simp
theorem writ_root (q : P) (h : okP q) (ho : 0 ≤ ownZ q.sc) : (writL (rootP q)).length ≤ (writL q).length := by
 have hne : q.ps ≠ [] := by
  rcases ((ok_iff q).1 h).1.main with ⟨h0, _⟩ | ⟨_, _, _, _, _, _, g6, _⟩
  ·omega
  ·exact g6
 have e1 : mainL (rootP q) = [47, 47] ++ (autL (rootP q) ++ putL [[]]) := by unfold mainL; rw [if_pos (show 0 ≤ ownZ (rootP q).sc from ho)]; rfl
 have e2 : mainL q = [47, 47] ++ (autL q ++ putL q.ps) := by unfold mainL; rw [if_pos ho]
 have e4 : (autL (rootP q)).length ≤ (autL q).length := by
  rw [show autL (rootP q) = putT q.hk q.hn q.ha ++ porL q from rfl]; unfold autL; simp; omega
 have e5 : 1 ≤ (putL q.ps).length := by
  rw [putL_len]
  cases hq : q.ps with
  | nil => exact absurd hq hne
  | cons p ps => simp; omega
 unfold writL
 rw [e1, e2, show tailL (rootP q) = [] from rfl, show putL [[]] = [47] from rfl, show (rootP q).sc = q.sc from rfl]
 simp only [List.length_append, List.length_cons, List.length_nil] at e4 ⊢; omega
theorem ok_root (q : P) (h : okP q) (ho : 0 ≤ ownZ q.sc) : okP (rootP q) := by
 obtain ⟨hn, hl, hp⟩ := (ok_iff q).1 h
 refine (ok_iff _).2 ⟨⟨hn.sch, .inr ⟨rfl, rfl⟩, .inr ⟨rfl, rfl⟩, ?_⟩, Nat.le_trans (writ_root q h ho) hl, by show ([[]] : List (List UInt8)).length ≤ 12; decide⟩
 rcases hn.main with ⟨h0, _⟩ | ⟨h0, g1, g2, g3, g4, g5, g6, g7⟩
 ·omega
 ·refine .inr ⟨h0, rfl, clo_nil 4, clo_nil 4, g4, g5, by show ([[]] : List (List UInt8)) ≠ []; simp, ?_⟩
  intro p hp
  have : p = [] := by simpa [rootP] using hp
  rw [this]; exact fix_nil
theorem og_read (q : P) (h : okP q) (ho : 0 ≤ ownZ q.sc) : getO (q.sc.data.toList ++ ([58, 47, 47] ++ autL (rootP q))) = some (rootP q) := by
 obtain ⟨hn, hl, hp⟩ := (ok_iff _).1 (ok_root q h ho)
 obtain ⟨r, hr⟩ : ∃ r, r = rootP q := ⟨_, rfl⟩
 have hsc : q.sc = r.sc := by rw [hr]; rfl
 have ho' : 0 ≤ ownZ r.sc := by rw [← hsc]; exact ho
 have hps : r.ps = [[]] := by rw [hr]; rfl
 have htl : tailL r = [] := by rw [hr]; rfl
 have hz : r = { ({ P.zero with sc := r.sc, po := -1 } : P) with us := r.us, pw := r.pw, hk := r.hk, hn := r.hn, ha := r.ha, po := r.po, ps := [[]] } := by rw [hr]; rfl
 rw [hsc, ← hr]
 rw [← hr] at hn hl hp
 rcases hn.main with ⟨h0, _⟩ | ⟨h0, g1, hu, hw, hh, hpo, hne, hfx⟩
 ·omega
 have hwl : writL r = (r.sc.data.toList ++ ([58, 47, 47] ++ autL r)) ++ [47] := by
  unfold writL mainL
  rw [if_pos ho', htl, hps, show putL [[]] = [47] from rfl]; simp
 have hl1 : (r.sc.data.toList ++ ([58, 47, 47] ++ autL r)).length + 1 ≤ 200 := by
  rw [hwl, List.length_append] at hl; simpa using hl
 have hal : (autL r).length ≤ 200 := by
  simp only [List.length_append] at hl1; omega
 have hvis : ∀ c ∈ r.sc.data.toList ++ ([58, 47, 47] ++ autL r), 33 ≤ c.toNat := by
  intro c hc
  exact writ_vis r hn c (by rw [hwl]; exact List.mem_append_left _ hc)
 have e1 : upL [58] (r.sc.data.toList ++ ([58, 47, 47] ++ autL r)) = r.sc.data.toList := by
  refine up_hit _ _ _ 58 (fun d hd => ?_) (by decide)
  have := (schB_facts d (sch_bytes _ hn.sch d hd)).2.2
  rw [among_one]; simpa using this
 have e2 : (r.sc.data.toList ++ ([58, 47, 47] ++ autL r)).drop r.sc.data.toList.length = 58 :: ([47, 47] ++ autL r) := by rw [List.drop_left]; rfl
 have e3 : (r.sc.data.toList ++ ([58, 47, 47] ++ autL r)).drop (r.sc.data.toList.length + 1) = [47, 47] ++ autL r := by rw [← List.drop_drop, e2]; rfl
 have e4 : low r.sc.data.toList = r.sc.data.toList := low_same _ (fun c hc => (schB_facts c (sch_bytes _ hn.sch c hc)).1)
 have ha := aut_facts r hu hw hh
 have hane : autL r ≠ [] := by
  unfold autL
  intro e
  simp only [List.append_eq_nil_iff] at e
  exact (host_back _ _ _ hh).2.2.2.2.1 e.2.2.2.1
 have es : ([47, 47] ++ autL r).dropWhile (among [47, 92]) = autL r := by
  obtain ⟨c, t, hct⟩ : ∃ c t, autL r = c :: t := by
   cases hx : autL r with
   | nil => exact absurd hx hane
   | cons c t => exact ⟨c, t, rfl⟩
  have hc := ha c (by rw [hct]; exact List.mem_cons_self ..)
  show (47 :: 47 :: autL r).dropWhile (among [47, 92]) = autL r
  rw [List.dropWhile_cons, if_pos (by decide), List.dropWhile_cons, if_pos (by decide), hct, List.dropWhile_cons, if_neg (by rw [amongS c hc.2.1 hc.2.2.1]; decide)]
 have eh : upL [47, 92, 63, 35] (autL r) = autL r := by
  have := up_tail [47, 92, 63, 35] (autL r) [] (fun d hd => among4 d (ha d hd).2.1 (ha d hd).2.2.1 (ha d hd).2.2.2.1 (ha d hd).2.2.2.2) (.inl rfl)
  rw [List.append_nil] at this
  exact this
 have hsch : schP P.zero (r.sc.data.toList ++ ([58, 47, 47] ++ autL r)) = some r := by
  unfold schP
  rw [e1, e2, e4, mk_list, e3, if_pos ⟨rfl, hn.sch⟩, if_pos ho']
  unfold slaP hosP
  rw [es, eh]
  have har := aut_read ({ P.zero with sc := r.sc, po := -1 }) r rfl rfl rfl hu hw hh hpo hal
  rw [har, show (autL r).drop (autL r).length = [] from List.drop_length ..]
  show some (patP _ []) = _
  congr 1
  rw [hz]
  rfl
 unfold getO
 rw [if_pos (by omega), trim_vis _ hvis, hsch]
 show (if r.ps.length ≤ 12 ∧ (writL r).length ≤ 600 then some r else none) = some r
 rw [if_pos ⟨hp, by omega⟩]
end Go.Proofs.YtnfhajhdpdidlaaGreatDoor
end
section
namespace Go.Proofs.YtnfhajhdpdidlaaGreatDoor
open Go.RowKit Go.Shelf
def refT (y x : Bool) (p : P) : ByteArray := if y = true then (if x = true then mk (writL (keyP p)) else ogT p ++ ⟨#[47]⟩) else ⟨#[]⟩
def Https (s : ByteArray) : Prop := s = ⟨#[104, 116, 116, 112, 115]⟩
theorem not_https {s : ByteArray} (h : ¬ Https s) (ho : 0 ≤ ownZ s) : s = ⟨#[104, 116, 116, 112]⟩ := by
 by_cases h1 : s = ⟨#[104, 116, 116, 112]⟩
 ·exact h1
 ·unfold ownZ at ho
  unfold Https at h
  rw [if_neg h1, if_neg h] at ho
  omega
theorem og_org (q : P) (ho : 0 ≤ ownZ q.sc) : orgV q = #[.string q.sc, .int .i64 q.hk, .string q.hn, .int .i64 q.ha, .int .i64 (ptP q)] := by
 unfold orgV ptP
 rw [if_neg (by omega)]
theorem og_size (q : P) (h : okP q) (ho : 0 ≤ ownZ q.sc) : (ogT q).size ≤ 200 := by
 have e := og_slash q h ho
 have h2 := ((ok_iff _).1 (ok_root q h ho)).2.1
 have e2 := congrArg ByteArray.size e
 rw [mk_size, ByteArray.size_append] at e2
 have : (⟨#[47]⟩ : ByteArray).size = 1 := rfl
 omega
end Go.Proofs.YtnfhajhdpdidlaaGreatDoor
end
section
namespace Go.Proofs.YtnfhajhdpdidlaaGreatDoor
open Go.RowKit Go.Shelf
theorem code_below2 {B : Nat} {w w' : World} {a : Option Addr} {len cap : Nat} (h : Code B w a len cap) (hb : Below B w w') : Code B w' a len cap := by
 obtain ⟨hl, hm, hc⟩ := h
 refine ⟨hl, hm, ?_⟩
 rcases hc with hc | ⟨b, off, ha, hbl, z, hc⟩
 ·exact .inl hc
 ·refine .inr ⟨b, off, ha, hbl, z, fun i hi => ⟨?_, (hc i hi).2⟩⟩
  have : w'.cell? ⟨b, off + i, none⟩ = w.cell? ⟨b, off + i, none⟩ := by unfold World.cell?; rw [hb.block b hbl]
  rw [this]; exact (hc i hi).1
def Sog (g : Nat) (v0 : ByteArray) (v1 : Int) (v2 : ByteArray) (v3 v4 : Int) (W : World) : Prop := W.cell? ⟨g, 0, none⟩ = some (.string v0) ∧ W.cell? ⟨g, 1, none⟩ = some (.int .i64 v1) ∧ W.cell? ⟨g, 2, none⟩ = some (.string v2) ∧ W.cell? ⟨g, 3, none⟩ = some (.int .i64 v3) ∧ W.cell? ⟨g, 4, none⟩ = some (.int .i64 v4)
theorem orgB_shp (b : Bool) (q : P) : ∃ s k t x p, orgB b q = #[.string s, .int .i64 k, .string t, .int .i64 x, .int .i64 p] := by
 unfold orgB
 split
 ·exact orgV_shape q
 ·exact ⟨_, _, _, _, _, rfl⟩
theorem org_vs (b : Bool) (q : P) (h : q.tot ≤ 1048576) (v0 : ByteArray) (v1 : Int) (v2 : ByteArray) (v3 v4 : Int) (hv : orgB b q = #[.string v0, .int .i64 v1, .string v2, .int .i64 v3, .int .i64 v4]) : v2.size ≤ 1048576 := by
 have hq : q.hn.size ≤ 1048576 := by unfold P.tot at h; omega
 have hz : (ByteArray.mk #[]).size ≤ 1048576 := by decide
 unfold orgB orgV at hv
 split at hv
 ·split at hv
  ·simp only [Array.mk.injEq, List.cons.injEq, Value.string.injEq] at hv
   rw [← hv.2.2.1]; exact hz
  ·simp only [Array.mk.injEq, List.cons.injEq, Value.string.injEq] at hv
   rw [← hv.2.2.1]; exact hq
 ·simp only [Array.mk.injEq, List.cons.injEq, Value.string.injEq] at hv
  rw [← hv.2.2.1]; exact hz
theorem fnOriginText_walk (w : World) (hL : Lean1 w) (a0 : Option Addr) (len0 cap0 : Nat) (z0 : List Int) (h0 : IsRow .u8 w a0 len0 cap0 z0) (a1 : Option Addr) (len1 cap1 : Nat) (z1 : List Int) (h1 : IsRow .u8 w a1 len1 cap1 z1) :
  Calls Tryz.prog 8 #[.slice a0 len0 cap0, .slice a1 len1 cap1] w fun e w' => e = .returned (.bool true) ∧ Below w.heap.size w w' := by
 have hC := code_of_row h0
 have hD := code_of_row h1
 by_cases hbig : (1048576 : Int) < (len0 : Int)
 ·go_enter Tryz.func8, Tryz.ntmps8
  go_wp2
  go_ret
  exact ⟨rfl, Below.refl _ _⟩
 by_cases hbig1 : (1048576 : Int) < (len1 : Int)
 ·go_enter Tryz.func8, Tryz.ntmps8
  go_wp2
  go_ret
  exact ⟨rfl, Below.refl _ _⟩
 have hbig2 : (len0 : Int) ≤ 1048576 := by omega
 have hbig3 : (len1 : Int) ≤ 1048576 := by omega
 have A0 : Hid (Wat w w) := Wat.start hL
 clear hbig hbig1 hL h0 h1
 go_enter Tryz.func8, Tryz.ntmps8
 go_wp2_with fail
 refine (drawOriginPut w.heap.size a0 len0 cap0 _ (Nat.le_refl _) hC).mono ?_
 rintro e w1 ⟨c0, h0, s0, x0, p0, rfl, hc1, hs1, b1⟩
 obtain ⟨V1, hV1⟩ : ∃ V, V = w1.alloc (.cells #[.string c0, .int .i64 h0, .string s0, .int .i64 x0, .int .i64 p0] 48) := ⟨_, rfl⟩
 have B1 : Hid (Blk w1.heap.size #[.string c0, .int .i64 h0, .string s0, .int .i64 x0, .int .i64 p0] 48 V1) := by show Blk _ _ _ _; rw [hV1]; exact Blk.new w1 _ _
 have A1 : Hid (Wat w V1) := A0.out.step (by rw [hV1]; exact b1.trans ((below_new _ _).mono b1.size))
 have HD : Hid (∀ W, Below w.heap.size w W → Code w.heap.size W a1 len1 cap1) := fun W d => code_below2 hD d
 clear b1 A0 hC hD
 obtain ⟨t, ht⟩ : ∃ t, t = orgT c0 h0 s0 x0 p0 := ⟨_, rfl⟩
 have CI : Hid (∀ W, Lean1 W → Calls Tryz.prog 26 #[.agg #[.string c0, .int .i64 h0, .string s0, .int .i64 x0, .int .i64 p0]] W fun e w' => e = .returned (.string t) ∧ Below W.heap.size W w') := fun W hW => by rw [ht]; exact implOrigin c0 h0 s0 x0 p0 W hW.base.mx hW.base.lt hW.base.tab (by omega)
 have CS : Hid (∀ W, Calls Tryz.prog 27 #[.agg #[.string c0, .int .i64 h0, .string s0, .int .i64 x0, .int .i64 p0]] W fun e w' => e = .returned (.string t) ∧ Below W.heap.size W w') := fun W => by rw [ht]; exact specOrigin c0 h0 s0 x0 p0 W (by omega)
 clear ht hc1 hs1
 go_upto_region 4 with fail
 rw [← hV1]
 clear hV1
 generalize w1.heap.size = g1 at *
 obtain ⟨o0, o1, o2, o3, o4⟩ := Blk.cells5 B1.out
 go_wp2_with fail
 refine (CI.out _ A1.out.le).mono ?_
 rintro e w2 ⟨rfl, d2⟩
 have B2 : Hid (Blk g1 #[.string c0, .int .i64 h0, .string s0, .int .i64 x0, .int .i64 p0] 48 w2) := B1.out.below d2 B1.out.lt
 have A2 : Hid (Wat w w2) := A1.out.step d2
 clear d2 B1 A1 CI o0 o1 o2 o3 o4
 obtain ⟨o0, o1, o2, o3, o4⟩ := Blk.cells5 B2.out
 go_wp2_with fail
 refine (CS.out _).mono ?_
 rintro e w3 ⟨rfl, d3⟩
 have A3 : Hid (Wat w w3) := A2.out.step d3
 clear d3 A2 B2 CS o0 o1 o2 o3 o4
 go_wp2_with fail
 refine (drawOriginOf w.heap.size a1 len1 cap1 _ A3.out.bw.size (HD.out _ A3.out.bw)).mono ?_
 rintro e w4 ⟨q, a, n, c, rfl, s1, hF, b1⟩
 obtain ⟨V4, hV4⟩ : ∃ V, V = w4.alloc (.cells #[(.string q.sc), (.string q.us), (.string q.pw), (.int .i64 q.hk), (.string q.hn), (.int .i64 q.ha), (.int .i64 q.po), (.slice a n c), (.string q.op), (.bool q.hq), (.string q.qu), (.bool q.hf), (.string q.fr)] 31) := ⟨_, rfl⟩
 have U4 : Hid (Va w4.heap.size q a n c V4) := by show Va _ _ _ _ _ _; rw [hV4]; exact Va.new _ s1
 have A4 : Hid (Wat w V4) := A3.out.step (by rw [hV4]; exact b1.trans ((below_new _ _).mono b1.size))
 clear s1 b1 A3 HD
 obtain ⟨b, hb⟩ : ∃ b : Bool, b = true ↔ okP q := by
  by_cases h : okP q
  ·exact ⟨true, by simp [h]⟩
  ·exact ⟨false, by simp [h]⟩
 obtain ⟨N, hN⟩ : ∃ N : Int, N = (if b = true then (if q.po < 0 then ownZ q.sc else q.po) else -1) := ⟨_, rfl⟩
 have hto : q.tot ≤ 1048576 := by have := hF.out.1.tot; omega
 have hpo : q.po ≤ 9223372036854775807 := by have := hF.out.1.po; omega
 obtain ⟨v0, v1, v2, v3, v4, hv⟩ := orgB_shp b q
 have CO : Hid (∀ W, Lean1 W → StrsOf a n q.ps W → Calls Tryz.prog 29 #[.agg #[(.string q.sc), (.string q.us), (.string q.pw), (.int .i64 q.hk), (.string q.hn), (.int .i64 q.ha), (.int .i64 q.po), (.slice a n c), (.string q.op), (.bool q.hq), (.string q.qu), (.bool q.hf), (.string q.fr)]] W fun e w' => e = .returned (.agg #[.string v0, .int .i64 v1, .string v2, .int .i64 v3, .int .i64 v4]) ∧ Below W.heap.size W w') := fun W hW s => by rw [← hv]; exact implOriginOf q a n c W hW s hto hpo b hb
 have CQ : Hid (∀ W, StrsOf a n q.ps W → Calls Tryz.prog 30 #[.agg #[(.string q.sc), (.string q.us), (.string q.pw), (.int .i64 q.hk), (.string q.hn), (.int .i64 q.ha), (.int .i64 q.po), (.slice a n c), (.string q.op), (.bool q.hq), (.string q.qu), (.bool q.hf), (.string q.fr)]] W fun e w' => e = .returned (.agg #[.string v0, .int .i64 v1, .string v2, .int .i64 v3, .int .i64 v4]) ∧ Below W.heap.size W w') := fun W s => by rw [← hv]; exact specOriginOf q a n c W s hto hpo b hb
 have CK : Hid (∀ W, StrsOf a n q.ps W → Calls Tryz.prog 31 #[.agg #[(.string q.sc), (.string q.us), (.string q.pw), (.int .i64 q.hk), (.string q.hn), (.int .i64 q.ha), (.int .i64 q.po), (.slice a n c), (.string q.op), (.bool q.hq), (.string q.qu), (.bool q.hf), (.string q.fr)]] W fun e w' => e = .returned (.bool b) ∧ Below W.heap.size W w') := fun W s => specUrlOk q a n c W s hto hpo b hb
 have CN : Hid (∀ W, Lean1 W → StrsOf a n q.ps W → Calls Tryz.prog 15 #[.agg #[(.string q.sc), (.string q.us), (.string q.pw), (.int .i64 q.hk), (.string q.hn), (.int .i64 q.ha), (.int .i64 q.po), (.slice a n c), (.string q.op), (.bool q.hq), (.string q.qu), (.bool q.hf), (.string q.fr)]] W fun e w' => e = .returned (.int .i64 N) ∧ Below W.heap.size W w') := fun W hW s => by rw [hN]; exact implPortOf q a n c W hW s hto hpo b hb
 have HN : Hid (n = q.ps.length) := hF.out.2
 have hvs : v2.size ≤ 1048576 := org_vs b q hto v0 v1 v2 v3 v4 hv
 obtain ⟨r, hr⟩ : ∃ r, r = orgT v0 v1 v2 v3 v4 := ⟨_, rfl⟩
 have CR : Hid (∀ W, Lean1 W → Calls Tryz.prog 26 #[.agg #[.string v0, .int .i64 v1, .string v2, .int .i64 v3, .int .i64 v4]] W fun e w' => e = .returned (.string r) ∧ Below W.heap.size W w') := fun W hW => by rw [hr]; exact implOrigin v0 v1 v2 v3 v4 W hW.base.mx hW.base.lt hW.base.tab hvs
 have K1 : Hid (b = true → N < 0 → r = ⟨#[110, 117, 108, 108]⟩) := fun h hneg => by
  have hok := hb.1 h
  have ho : ownZ q.sc < 0 := by
   rw [hN, h, if_pos rfl] at hneg
   rcases ok_prt q hok with hp | ⟨p0, p1, p2, p3⟩
   ·rw [if_pos (by omega)] at hneg; exact hneg
   ·omega
  unfold orgB orgV at hv
  rw [h, if_pos rfl, if_pos ho] at hv
  injection hv with e1
  injection e1 with e1 e2
  injection e1 with e1
  rw [hr, ← e1]
  unfold orgT orgOk
  rfl
 have K2 : Hid (b = true → ¬ N < 0 → okP q ∧ 0 ≤ ownZ q.sc ∧ r = ogT q ∧ #[Value.string v0, .int .i64 v1, .string v2, .int .i64 v3, .int .i64 v4] = orgV q) := fun h hneg => by
  have hok := hb.1 h
  have ho : 0 ≤ ownZ q.sc := by
   rw [hN, h, if_pos rfl] at hneg
   rcases ok_prt q hok with hp | ⟨p0, p1, p2, p3⟩
   ·rw [if_pos (by omega)] at hneg; omega
   ·exact p3
  have hv2 : orgV q = #[Value.string v0, .int .i64 v1, .string v2, .int .i64 v3, .int .i64 v4] := by
   rw [← hv]; unfold orgB; rw [h, if_pos rfl]
  refine ⟨hok, ho, ?_, hv2.symm⟩
  rw [og_org q ho] at hv2
  simp only [Array.mk.injEq, List.cons.injEq, Value.string.injEq, Value.int.injEq, true_and, and_true] at hv2
  obtain ⟨e0, e1, e2, e3, e4⟩ := hv2
  rw [hr, ← e0, ← e1, ← e2, ← e3, ← e4]; rfl
 clear hb hN hv hr hvs
 go_upto_region 7 with fail
 rw [← hV4]
 clear hV4
 generalize w4.heap.size = g4 at *
 obtain ⟨k0, k1, k2, k3, k4, k5, k6, k7, k8, k9, k10, k11, k12⟩ := Blk.cells13a U4.out.bk
 go_wp2_with fail
 refine (CO.out _ A4.out.le U4.out.st).mono ?_
 rintro e w5 ⟨rfl, d5⟩
 obtain ⟨V5, hV5⟩ : ∃ V, V = w5.alloc (.cells #[.string v0, .int .i64 v1, .string v2, .int .i64 v3, .int .i64 v4] 48) := ⟨_, rfl⟩
 have D5 : Hid (Below V4.heap.size V4 V5) := by show Below _ _ _; rw [hV5]; exact d5.trans ((below_new _ _).mono d5.size)
 have A5 : Hid (Wat w V5) := A4.out.step D5.out
 have U5 : Hid (Va g4 q a n c V5) := U4.out.later D5.out
 have B5 : Hid (Blk w5.heap.size #[.string v0, .int .i64 v1, .string v2, .int .i64 v3, .int .i64 v4] 48 V5) := by show Blk _ _ _ _; rw [hV5]; exact Blk.new w5 _ _
 clear d5 D5 A4 U4 CO k0 k1 k2 k3 k4 k5 k6 k7 k8 k9 k10 k11 k12
 go_upto_region 8 with fail
 rw [← hV5]
 clear hV5
 generalize w5.heap.size = g5 at *
 have HS : Hid (∀ W, Below V5.heap.size V5 W → (fun W => Below V5.heap.size V5 W ∧ Sc g4 q a n c W ∧ Sog g5 v0 v1 v2 v3 v4 W) W) := fun W d => ⟨d, Sc.of (U5.out.later d).bk, Blk.cells5 (B5.out.below d B5.out.lt)⟩
 go_upto_region 9 with fail
 cases hbb : b with
 | false =>
  subst hbb
  clear K1 K2 CR CN HN
  refine wp_region_held_drew (S := (fun W => Below V5.heap.size V5 W ∧ Sc g4 q a n c W ∧ Sog g5 v0 v1 v2 v3 v4 W)) (by kernel_rfl) (HS.out _ ((Below.refl _ _).drew)) (fun hHeld => ?_)
  refine tk 0 rfl (by kernel_rfl) (fun _ _ _ h => h) (by rfl) (fun w hSw => by (try dsimp only [Sc, Sog] at hSw); go_simp; try (with_reducible rfl)) (by assumption) ?_
  simp only [Act.put, x1, x2, x3, x4, x5, x6]
  refine tk 1 rfl (by kernel_rfl) (fun _ _ _ h => h) (by rfl) (fun w hSw => by (try dsimp only [Sc, Sog] at hSw); go_simp; try (with_reducible rfl)) (by assumption) ?_
  simp only [Act.put, x1, x2, x3, x4, x5, x6]
  refine wpAnyH_ready (rs := [2]) (by kernel_rfl) (by simp) ?_
  refine AllReadyH.cons (o := _) rfl (fun K hK => ?_) AllReadyH.nil
  go_simp
  refine (CQ.out _ (U5.out.later hHeld.1).st).mono ?_
  rintro e w10 ⟨rfl, d10⟩
  refine hK.out _ _ (HS.out _ (hHeld.1.trans (d10.mono hHeld.1.size))) (fun hHeld => ?_)
  clear hK K
  try simp only [Act.put, x1, x2, x3, x4, x5, x6]
  refine tk (v := .bool false) 3 rfl (by kernel_rfl) (fun _ _ _ h => h) (by rfl) (fun w hSw => by (try dsimp only [Sc, Sog] at hSw); go_simp; try (first | rfl | (simp; done))) (by assumption) ?_
  simp only [Act.put, x1, x2, x3, x4, x5, x6]
  refine tk 4 rfl (by kernel_rfl) (fun _ _ _ h => h) (by rfl) (fun w hSw => by (try dsimp only [Sc, Sog] at hSw); go_simp; try (with_reducible rfl)) (by assumption) ?_
  simp only [Act.put, x1, x2, x3, x4, x5, x6]
  refine tk 5 rfl (by kernel_rfl) (fun _ _ _ h => h) (by rfl) (fun w hSw => by (try dsimp only [Sc, Sog] at hSw); go_simp; try (with_reducible rfl)) (by assumption) ?_
  simp only [Act.put, x1, x2, x3, x4, x5, x6]
  refine wpAnyH_ready (rs := [6]) (by kernel_rfl) (by simp) ?_
  refine AllReadyH.cons (o := _) rfl (fun K hK => ?_) AllReadyH.nil
  go_simp
  refine (CK.out _ (U5.out.later hHeld.1).st).mono ?_
  rintro e w11 ⟨rfl, d11⟩
  refine hK.out _ _ (HS.out _ (hHeld.1.trans (d11.mono hHeld.1.size))) (fun hHeld => ?_)
  clear hK K
  try simp only [Act.put, x1, x2, x3, x4, x5, x6]
  refine tk 7 rfl (by kernel_rfl) (fun _ _ _ h => h) (by rfl) (fun w hSw => by (try dsimp only [Sc, Sog] at hSw); go_simp; try (with_reducible rfl)) (by assumption) ?_
  simp only [Act.put, x1, x2, x3, x4, x5, x6]
  refine tk 8 rfl (by kernel_rfl) (fun _ _ _ h => h) (by rfl) (fun w hSw => by (try dsimp only [Sc, Sog] at hSw); go_simp; try (with_reducible rfl)) (by assumption) ?_
  simp only [Act.put, x1, x2, x3, x4, x5, x6]
  refine tk 9 rfl (by kernel_rfl) (fun _ _ _ h => h) (by rfl) (fun w hSw => by (try dsimp only [Sc, Sog] at hSw); go_simp; try (with_reducible rfl)) (by assumption) ?_
  simp only [Act.put, x1, x2, x3, x4, x5, x6]
  refine wpAnyH_take (i := 10) (oi := _) (v := undef) rfl (by kernel_rfl) (by kernel_rfl) (by kernel_rfl) (fun _ _ _ h => h) (Or.inr ⟨by simp [Region.wanted, yielded, undef, Act.put], rfl⟩) (by assumption) ?_
  simp only [Act.put, x1, x2, x3, x4, x5, x6]
  refine wpAnyH_take (i := 11) (oi := _) (v := undef) rfl (by kernel_rfl) (by kernel_rfl) (by kernel_rfl) (fun _ _ _ h => h) (Or.inr ⟨by simp [Region.wanted, yielded, undef, Act.put], rfl⟩) (by assumption) ?_
  simp only [Act.put, x1, x2, x3, x4, x5, x6]
  refine wpAnyH_take (i := 12) (oi := _) (v := undef) rfl (by kernel_rfl) (by kernel_rfl) (by kernel_rfl) (fun _ _ _ h => h) (Or.inr ⟨by simp [Region.wanted, yielded, undef, Act.put], rfl⟩) (by assumption) ?_
  simp only [Act.put, x1, x2, x3, x4, x5, x6]
  refine tk 13 rfl (by kernel_rfl) (fun _ _ _ h => h) (by rfl) (fun w hSw => by (try dsimp only [Sc, Sog] at hSw); go_simp; try (with_reducible rfl)) (by assumption) ?_
  simp only [Act.put, x1, x2, x3, x4, x5, x6]
  refine wpAnyH_done (by kernel_rfl) ?_ _
  go_wp2
  refine wp_region_held_drew (S := (fun W => Below V5.heap.size V5 W ∧ Sc g4 q a n c W ∧ Sog g5 v0 v1 v2 v3 v4 W)) (by kernel_rfl) (HS.out _ (hHeld.1.trans ((Below.refl _ _).drew.mono hHeld.1.size))) (fun hHeld => ?_)
  refine tk 0 rfl (by kernel_rfl) (fun _ _ _ h => h) (by rfl) (fun w hSw => by (try dsimp only [Sc, Sog] at hSw); go_simp; try (with_reducible rfl)) (by assumption) ?_
  simp only [Act.put, x1, x2, x3, x4, x5, x6]
  refine tk 1 rfl (by kernel_rfl) (fun _ _ _ h => h) (by rfl) (fun w hSw => by (try dsimp only [Sc, Sog] at hSw); go_simp; try (with_reducible rfl)) (by assumption) ?_
  simp only [Act.put, x1, x2, x3, x4, x5, x6]
  refine wpAnyH_ready (rs := [2]) (by kernel_rfl) (by simp) ?_
  refine AllReadyH.cons (o := _) rfl (fun K hK => ?_) AllReadyH.nil
  go_simp
  refine (CQ.out _ (U5.out.later hHeld.1).st).mono ?_
  rintro e w12 ⟨rfl, d12⟩
  refine hK.out _ _ (HS.out _ (hHeld.1.trans (d12.mono hHeld.1.size))) (fun hHeld => ?_)
  clear hK K
  try simp only [Act.put, x1, x2, x3, x4, x5, x6]
  refine tk (v := .bool true) 3 rfl (by kernel_rfl) (fun _ _ _ h => h) (by rfl) (fun w hSw => by (try dsimp only [Sc, Sog] at hSw); go_simp; try (first | rfl | (simp; done))) (by assumption) ?_
  simp only [Act.put, x1, x2, x3, x4, x5, x6]
  refine tk 4 rfl (by kernel_rfl) (fun _ _ _ h => h) (by rfl) (fun w hSw => by (try dsimp only [Sc, Sog] at hSw); go_simp; try (with_reducible rfl)) (by assumption) ?_
  simp only [Act.put, x1, x2, x3, x4, x5, x6]
  refine tk 5 rfl (by kernel_rfl) (fun _ _ _ h => h) (by rfl) (fun w hSw => by (try dsimp only [Sc, Sog] at hSw); go_simp; try (with_reducible rfl)) (by assumption) ?_
  simp only [Act.put, x1, x2, x3, x4, x5, x6]
  refine wpAnyH_ready (rs := [6]) (by kernel_rfl) (by simp) ?_
  refine AllReadyH.cons (o := _) rfl (fun K hK => ?_) AllReadyH.nil
  go_simp
  refine (CK.out _ (U5.out.later hHeld.1).st).mono ?_
  rintro e w13 ⟨rfl, d13⟩
  refine hK.out _ _ (HS.out _ (hHeld.1.trans (d13.mono hHeld.1.size))) (fun hHeld => ?_)
  clear hK K
  try simp only [Act.put, x1, x2, x3, x4, x5, x6]
  refine tk 7 rfl (by kernel_rfl) (fun _ _ _ h => h) (by rfl) (fun w hSw => by (try dsimp only [Sc, Sog] at hSw); go_simp; try (with_reducible rfl)) (by assumption) ?_
  simp only [Act.put, x1, x2, x3, x4, x5, x6]
  refine tk 8 rfl (by kernel_rfl) (fun _ _ _ h => h) (by rfl) (fun w hSw => by (try dsimp only [Sc, Sog] at hSw); go_simp; try (with_reducible rfl)) (by assumption) ?_
  simp only [Act.put, x1, x2, x3, x4, x5, x6]
  refine wpAnyH_take (i := 9) (oi := _) (v := undef) rfl (by kernel_rfl) (by kernel_rfl) (by kernel_rfl) (fun _ _ _ h => h) (Or.inr ⟨by simp [Region.wanted, yielded, undef, Act.put], rfl⟩) (by assumption) ?_
  simp only [Act.put, x1, x2, x3, x4, x5, x6]
  refine wpAnyH_take (i := 10) (oi := _) (v := undef) rfl (by kernel_rfl) (by kernel_rfl) (by kernel_rfl) (fun _ _ _ h => h) (Or.inr ⟨by simp [Region.wanted, yielded, undef, Act.put], rfl⟩) (by assumption) ?_
  simp only [Act.put, x1, x2, x3, x4, x5, x6]
  refine wpAnyH_take (i := 11) (oi := _) (v := undef) rfl (by kernel_rfl) (by kernel_rfl) (by kernel_rfl) (fun _ _ _ h => h) (Or.inr ⟨by simp [Region.wanted, yielded, undef, Act.put], rfl⟩) (by assumption) ?_
  simp only [Act.put, x1, x2, x3, x4, x5, x6]
  refine tk 12 rfl (by kernel_rfl) (fun _ _ _ h => h) (by rfl) (fun w hSw => by (try dsimp only [Sc, Sog] at hSw); go_simp; try (with_reducible rfl)) (by assumption) ?_
  simp only [Act.put, x1, x2, x3, x4, x5, x6]
  refine tk 13 rfl (by kernel_rfl) (fun _ _ _ h => h) (by rfl) (fun w hSw => by (try dsimp only [Sc, Sog] at hSw); go_simp; try (with_reducible rfl)) (by assumption) ?_
  simp only [Act.put, x1, x2, x3, x4, x5, x6]
  refine tk 14 rfl (by kernel_rfl) (fun _ _ _ h => h) (by rfl) (fun w hSw => by (try dsimp only [Sc, Sog] at hSw); go_simp; try (with_reducible rfl)) (by assumption) ?_
  simp only [Act.put, x1, x2, x3, x4, x5, x6]
  refine wpAnyH_done (by kernel_rfl) ?_ _
  go_wp2
  go_ret
  exact ⟨rfl, (A5.out.step hHeld.1).bw⟩
 | true =>
  by_cases hneg : N < 0
  ·have hr := K1.out hbb hneg
   subst hbb
   subst hr
   clear K1 K2 HN
   refine wp_region_held_drew (S := (fun W => Below V5.heap.size V5 W ∧ Sc g4 q a n c W ∧ Sog g5 v0 v1 v2 v3 v4 W)) (by kernel_rfl) (HS.out _ ((Below.refl _ _).drew)) (fun hHeld => ?_)
   refine tk 0 rfl (by kernel_rfl) (fun _ _ _ h => h) (by rfl) (fun w hSw => by (try dsimp only [Sc, Sog] at hSw); go_simp; try (with_reducible rfl)) (by assumption) ?_
   simp only [Act.put, x1, x2, x3, x4, x5, x6]
   refine tk 1 rfl (by kernel_rfl) (fun _ _ _ h => h) (by rfl) (fun w hSw => by (try dsimp only [Sc, Sog] at hSw); go_simp; try (with_reducible rfl)) (by assumption) ?_
   simp only [Act.put, x1, x2, x3, x4, x5, x6]
   refine wpAnyH_ready (rs := [2]) (by kernel_rfl) (by simp) ?_
   refine AllReadyH.cons (o := _) rfl (fun K hK => ?_) AllReadyH.nil
   go_simp
   refine (CQ.out _ (U5.out.later hHeld.1).st).mono ?_
   rintro e w10 ⟨rfl, d10⟩
   refine hK.out _ _ (HS.out _ (hHeld.1.trans (d10.mono hHeld.1.size))) (fun hHeld => ?_)
   clear hK K
   try simp only [Act.put, x1, x2, x3, x4, x5, x6]
   refine tk (v := .bool false) 3 rfl (by kernel_rfl) (fun _ _ _ h => h) (by rfl) (fun w hSw => by (try dsimp only [Sc, Sog] at hSw); go_simp; try (first | rfl | (simp; done))) (by assumption) ?_
   simp only [Act.put, x1, x2, x3, x4, x5, x6]
   refine tk 4 rfl (by kernel_rfl) (fun _ _ _ h => h) (by rfl) (fun w hSw => by (try dsimp only [Sc, Sog] at hSw); go_simp; try (with_reducible rfl)) (by assumption) ?_
   simp only [Act.put, x1, x2, x3, x4, x5, x6]
   refine tk 5 rfl (by kernel_rfl) (fun _ _ _ h => h) (by rfl) (fun w hSw => by (try dsimp only [Sc, Sog] at hSw); go_simp; try (with_reducible rfl)) (by assumption) ?_
   simp only [Act.put, x1, x2, x3, x4, x5, x6]
   refine wpAnyH_ready (rs := [6]) (by kernel_rfl) (by simp) ?_
   refine AllReadyH.cons (o := _) rfl (fun K hK => ?_) AllReadyH.nil
   go_simp
   refine (CK.out _ (U5.out.later hHeld.1).st).mono ?_
   rintro e w11 ⟨rfl, d11⟩
   refine hK.out _ _ (HS.out _ (hHeld.1.trans (d11.mono hHeld.1.size))) (fun hHeld => ?_)
   clear hK K
   try simp only [Act.put, x1, x2, x3, x4, x5, x6]
   refine tk 7 rfl (by kernel_rfl) (fun _ _ _ h => h) (by rfl) (fun w hSw => by (try dsimp only [Sc, Sog] at hSw); go_simp; try (with_reducible rfl)) (by assumption) ?_
   simp only [Act.put, x1, x2, x3, x4, x5, x6]
   refine tk 8 rfl (by kernel_rfl) (fun _ _ _ h => h) (by rfl) (fun w hSw => by (try dsimp only [Sc, Sog] at hSw); go_simp; try (with_reducible rfl)) (by assumption) ?_
   simp only [Act.put, x1, x2, x3, x4, x5, x6]
   refine tk 9 rfl (by kernel_rfl) (fun _ _ _ h => h) (by rfl) (fun w hSw => by (try dsimp only [Sc, Sog] at hSw); go_simp; try (with_reducible rfl)) (by assumption) ?_
   simp only [Act.put, x1, x2, x3, x4, x5, x6]
   refine tk 10 rfl (by kernel_rfl) (fun _ _ _ h => h) (by rfl) (fun w hSw => by (try dsimp only [Sc, Sog] at hSw); go_simp; try (with_reducible rfl)) (by assumption) ?_
   simp only [Act.put, x1, x2, x3, x4, x5, x6]
   refine wpAnyH_ready (rs := [11]) (by kernel_rfl) (by simp) ?_
   refine AllReadyH.cons (o := _) rfl (fun K hK => ?_) AllReadyH.nil
   go_simp
   refine (CN.out _ (A5.out.step hHeld.1).le (U5.out.later hHeld.1).st).mono ?_
   rintro e w12 ⟨rfl, d12⟩
   refine hK.out _ _ (HS.out _ (hHeld.1.trans (d12.mono hHeld.1.size))) (fun hHeld => ?_)
   clear hK K
   try simp only [Act.put, x1, x2, x3, x4, x5, x6]
   refine tk (v := .bool true) 12 rfl (by kernel_rfl) (fun _ _ _ h => h) (by rfl) (fun w hSw => by (try dsimp only [Sc, Sog] at hSw); go_simp; try (first | rfl | (simp [hneg]; done) | (simp [hneg2]; done) | omega)) (by assumption) ?_
   simp only [Act.put, x1, x2, x3, x4, x5, x6]
   refine tk 13 rfl (by kernel_rfl) (fun _ _ _ h => h) (by rfl) (fun w hSw => by (try dsimp only [Sc, Sog] at hSw); go_simp; try (with_reducible rfl)) (by assumption) ?_
   simp only [Act.put, x1, x2, x3, x4, x5, x6]
   refine wpAnyH_done (by kernel_rfl) ?_ _
   go_wp2
   refine wp_region_held_drew (S := (fun W => Below V5.heap.size V5 W ∧ Sc g4 q a n c W ∧ Sog g5 v0 v1 v2 v3 v4 W)) (by kernel_rfl) (HS.out _ (hHeld.1.trans ((Below.refl _ _).drew.mono hHeld.1.size))) (fun hHeld => ?_)
   refine tk 0 rfl (by kernel_rfl) (fun _ _ _ h => h) (by rfl) (fun w hSw => by (try dsimp only [Sc, Sog] at hSw); go_simp; try (with_reducible rfl)) (by assumption) ?_
   simp only [Act.put, x1, x2, x3, x4, x5, x6]
   refine tk 1 rfl (by kernel_rfl) (fun _ _ _ h => h) (by rfl) (fun w hSw => by (try dsimp only [Sc, Sog] at hSw); go_simp; try (with_reducible rfl)) (by assumption) ?_
   simp only [Act.put, x1, x2, x3, x4, x5, x6]
   refine wpAnyH_ready (rs := [2]) (by kernel_rfl) (by simp) ?_
   refine AllReadyH.cons (o := _) rfl (fun K hK => ?_) AllReadyH.nil
   go_simp
   refine (CQ.out _ (U5.out.later hHeld.1).st).mono ?_
   rintro e w13 ⟨rfl, d13⟩
   refine hK.out _ _ (HS.out _ (hHeld.1.trans (d13.mono hHeld.1.size))) (fun hHeld => ?_)
   clear hK K
   try simp only [Act.put, x1, x2, x3, x4, x5, x6]
   refine tk (v := .bool true) 3 rfl (by kernel_rfl) (fun _ _ _ h => h) (by rfl) (fun w hSw => by (try dsimp only [Sc, Sog] at hSw); go_simp; try (first | rfl | (simp; done))) (by assumption) ?_
   simp only [Act.put, x1, x2, x3, x4, x5, x6]
   refine tk 4 rfl (by kernel_rfl) (fun _ _ _ h => h) (by rfl) (fun w hSw => by (try dsimp only [Sc, Sog] at hSw); go_simp; try (with_reducible rfl)) (by assumption) ?_
   simp only [Act.put, x1, x2, x3, x4, x5, x6]
   refine tk 5 rfl (by kernel_rfl) (fun _ _ _ h => h) (by rfl) (fun w hSw => by (try dsimp only [Sc, Sog] at hSw); go_simp; try (with_reducible rfl)) (by assumption) ?_
   simp only [Act.put, x1, x2, x3, x4, x5, x6]
   refine wpAnyH_ready (rs := [6]) (by kernel_rfl) (by simp) ?_
   refine AllReadyH.cons (o := _) rfl (fun K hK => ?_) AllReadyH.nil
   go_simp
   refine (CK.out _ (U5.out.later hHeld.1).st).mono ?_
   rintro e w14 ⟨rfl, d14⟩
   refine hK.out _ _ (HS.out _ (hHeld.1.trans (d14.mono hHeld.1.size))) (fun hHeld => ?_)
   clear hK K
   try simp only [Act.put, x1, x2, x3, x4, x5, x6]
   refine tk 7 rfl (by kernel_rfl) (fun _ _ _ h => h) (by rfl) (fun w hSw => by (try dsimp only [Sc, Sog] at hSw); go_simp; try (with_reducible rfl)) (by assumption) ?_
   simp only [Act.put, x1, x2, x3, x4, x5, x6]
   refine tk 8 rfl (by kernel_rfl) (fun _ _ _ h => h) (by rfl) (fun w hSw => by (try dsimp only [Sc, Sog] at hSw); go_simp; try (with_reducible rfl)) (by assumption) ?_
   simp only [Act.put, x1, x2, x3, x4, x5, x6]
   refine tk 9 rfl (by kernel_rfl) (fun _ _ _ h => h) (by rfl) (fun w hSw => by (try dsimp only [Sc, Sog] at hSw); go_simp; try (with_reducible rfl)) (by assumption) ?_
   simp only [Act.put, x1, x2, x3, x4, x5, x6]
   refine wpAnyH_ready (rs := [10]) (by kernel_rfl) (by simp) ?_
   refine AllReadyH.cons (o := _) rfl (fun K hK => ?_) AllReadyH.nil
   go_simp
   refine (CR.out _ (A5.out.step hHeld.1).le).mono ?_
   rintro e w15 ⟨rfl, d15⟩
   refine hK.out _ _ (HS.out _ (hHeld.1.trans (d15.mono hHeld.1.size))) (fun hHeld => ?_)
   clear hK K
   try simp only [Act.put, x1, x2, x3, x4, x5, x6]
   refine tk (v := .bool true) 11 rfl (by kernel_rfl) (fun _ _ _ h => h) (by rfl) (fun w hSw => by (try dsimp only [Sc, Sog] at hSw); go_simp; try (first | rfl | (simp; done))) (by assumption) ?_
   simp only [Act.put, x1, x2, x3, x4, x5, x6]
   refine tk 12 rfl (by kernel_rfl) (fun _ _ _ h => h) (by rfl) (fun w hSw => by (try dsimp only [Sc, Sog] at hSw); go_simp; try (with_reducible rfl)) (by assumption) ?_
   simp only [Act.put, x1, x2, x3, x4, x5, x6]
   refine tk 13 rfl (by kernel_rfl) (fun _ _ _ h => h) (by rfl) (fun w hSw => by (try dsimp only [Sc, Sog] at hSw); go_simp; try (with_reducible rfl)) (by assumption) ?_
   simp only [Act.put, x1, x2, x3, x4, x5, x6]
   refine tk 14 rfl (by kernel_rfl) (fun _ _ _ h => h) (by rfl) (fun w hSw => by (try dsimp only [Sc, Sog] at hSw); go_simp; try (with_reducible rfl)) (by assumption) ?_
   simp only [Act.put, x1, x2, x3, x4, x5, x6]
   refine wpAnyH_done (by kernel_rfl) ?_ _
   go_wp2
   go_ret
   exact ⟨rfl, (A5.out.step hHeld.1).bw⟩
  ·obtain ⟨hok, ho, hr, hv⟩ := K2.out hbb (by omega)
   have HR : Hid (r = ogT q) := hr
   have HV : Hid (#[Value.string v0, .int .i64 v1, .string v2, .int .i64 v3, .int .i64 v4] = orgV q) := hv
   clear hr hv
   have hneg2 : 0 ≤ N := by omega
   subst hbb
   clear K1 K2
   refine wp_region_held_drew (S := (fun W => Below V5.heap.size V5 W ∧ Sc g4 q a n c W ∧ Sog g5 v0 v1 v2 v3 v4 W)) (by kernel_rfl) (HS.out _ ((Below.refl _ _).drew)) (fun hHeld => ?_)
   refine tk 0 rfl (by kernel_rfl) (fun _ _ _ h => h) (by rfl) (fun w hSw => by (try dsimp only [Sc, Sog] at hSw); go_simp; try (with_reducible rfl)) (by assumption) ?_
   simp only [Act.put, x1, x2, x3, x4, x5, x6]
   refine tk 1 rfl (by kernel_rfl) (fun _ _ _ h => h) (by rfl) (fun w hSw => by (try dsimp only [Sc, Sog] at hSw); go_simp; try (with_reducible rfl)) (by assumption) ?_
   simp only [Act.put, x1, x2, x3, x4, x5, x6]
   refine wpAnyH_ready (rs := [2]) (by kernel_rfl) (by simp) ?_
   refine AllReadyH.cons (o := _) rfl (fun K hK => ?_) AllReadyH.nil
   go_simp
   refine (CQ.out _ (U5.out.later hHeld.1).st).mono ?_
   rintro e w10 ⟨rfl, d10⟩
   refine hK.out _ _ (HS.out _ (hHeld.1.trans (d10.mono hHeld.1.size))) (fun hHeld => ?_)
   clear hK K
   try simp only [Act.put, x1, x2, x3, x4, x5, x6]
   refine tk (v := .bool false) 3 rfl (by kernel_rfl) (fun _ _ _ h => h) (by rfl) (fun w hSw => by (try dsimp only [Sc, Sog] at hSw); go_simp; try (first | rfl | (simp; done))) (by assumption) ?_
   simp only [Act.put, x1, x2, x3, x4, x5, x6]
   refine tk 4 rfl (by kernel_rfl) (fun _ _ _ h => h) (by rfl) (fun w hSw => by (try dsimp only [Sc, Sog] at hSw); go_simp; try (with_reducible rfl)) (by assumption) ?_
   simp only [Act.put, x1, x2, x3, x4, x5, x6]
   refine tk 5 rfl (by kernel_rfl) (fun _ _ _ h => h) (by rfl) (fun w hSw => by (try dsimp only [Sc, Sog] at hSw); go_simp; try (with_reducible rfl)) (by assumption) ?_
   simp only [Act.put, x1, x2, x3, x4, x5, x6]
   refine wpAnyH_ready (rs := [6]) (by kernel_rfl) (by simp) ?_
   refine AllReadyH.cons (o := _) rfl (fun K hK => ?_) AllReadyH.nil
   go_simp
   refine (CK.out _ (U5.out.later hHeld.1).st).mono ?_
   rintro e w11 ⟨rfl, d11⟩
   refine hK.out _ _ (HS.out _ (hHeld.1.trans (d11.mono hHeld.1.size))) (fun hHeld => ?_)
   clear hK K
   try simp only [Act.put, x1, x2, x3, x4, x5, x6]
   refine tk 7 rfl (by kernel_rfl) (fun _ _ _ h => h) (by rfl) (fun w hSw => by (try dsimp only [Sc, Sog] at hSw); go_simp; try (with_reducible rfl)) (by assumption) ?_
   simp only [Act.put, x1, x2, x3, x4, x5, x6]
   refine tk 8 rfl (by kernel_rfl) (fun _ _ _ h => h) (by rfl) (fun w hSw => by (try dsimp only [Sc, Sog] at hSw); go_simp; try (with_reducible rfl)) (by assumption) ?_
   simp only [Act.put, x1, x2, x3, x4, x5, x6]
   refine tk 9 rfl (by kernel_rfl) (fun _ _ _ h => h) (by rfl) (fun w hSw => by (try dsimp only [Sc, Sog] at hSw); go_simp; try (with_reducible rfl)) (by assumption) ?_
   simp only [Act.put, x1, x2, x3, x4, x5, x6]
   refine tk 10 rfl (by kernel_rfl) (fun _ _ _ h => h) (by rfl) (fun w hSw => by (try dsimp only [Sc, Sog] at hSw); go_simp; try (with_reducible rfl)) (by assumption) ?_
   simp only [Act.put, x1, x2, x3, x4, x5, x6]
   refine wpAnyH_ready (rs := [11]) (by kernel_rfl) (by simp) ?_
   refine AllReadyH.cons (o := _) rfl (fun K hK => ?_) AllReadyH.nil
   go_simp
   refine (CN.out _ (A5.out.step hHeld.1).le (U5.out.later hHeld.1).st).mono ?_
   rintro e w12 ⟨rfl, d12⟩
   refine hK.out _ _ (HS.out _ (hHeld.1.trans (d12.mono hHeld.1.size))) (fun hHeld => ?_)
   clear hK K
   try simp only [Act.put, x1, x2, x3, x4, x5, x6]
   refine tk (v := .bool false) 12 rfl (by kernel_rfl) (fun _ _ _ h => h) (by rfl) (fun w hSw => by (try dsimp only [Sc, Sog] at hSw); go_simp; try (first | rfl | (simp [hneg]; done) | (simp [hneg2]; done) | omega)) (by assumption) ?_
   simp only [Act.put, x1, x2, x3, x4, x5, x6]
   refine tk 13 rfl (by kernel_rfl) (fun _ _ _ h => h) (by rfl) (fun w hSw => by (try dsimp only [Sc, Sog] at hSw); go_simp; try (with_reducible rfl)) (by assumption) ?_
   simp only [Act.put, x1, x2, x3, x4, x5, x6]
   refine wpAnyH_done (by kernel_rfl) ?_ _
   obtain ⟨x, hx⟩ : ∃ x, x = rootP q := ⟨_, rfl⟩
   obtain ⟨m, hm⟩ : ∃ m, m = x.ps.length := ⟨_, rfl⟩
   have hokx : okP x := by rw [hx]; exact ok_root q hok ho
   have hox : 0 ≤ ownZ x.sc := by rw [hx]; exact ho
   have horx : orgV x = orgV q := by rw [hx]; rfl
   have hgx : getO (q.sc.data.toList ++ ([58, 47, 47] ++ autL (rootP q))) = some x := by rw [hx]; exact og_read q hok ho
   have hrt : r = mk (q.sc.data.toList ++ ([58, 47, 47] ++ autL (rootP q))) := by rw [HR.out]; exact og_text q hok ho
   have hrs : r.size ≤ 200 := by rw [HR.out]; exact og_size q hok ho
   have hxt : x.tot ≤ 1048576 := by
    rw [hx]
    unfold rootP P.tot at *
    dsimp only [P.zero]
    have e0 : (ByteArray.mk #[]).size = 0 := rfl
    have e1 : tot ([[]] : List (List UInt8)) = 0 := rfl
    have e2 : ([[]] : List (List UInt8)).length = 1 := rfl
    rw [e0, e1, e2]
    have := hF.out.1.tot
    unfold P.tot at this
    omega
   have hxp : x.po ≤ 9223372036854775807 := by rw [hx]; exact hpo
   have CG : Hid (∀ W, Lean1 W → Calls Tryz.prog 21 #[.string r] W fun e w' => ∃ a5 c5, e = .returned (.tuple #[.agg #[(.string x.sc), (.string x.us), (.string x.pw), (.int .i64 x.hk), (.string x.hn), (.int .i64 x.ha), (.int .i64 x.po), (.slice a5 m c5), (.string x.op), (.bool x.hq), (.string x.qu), (.bool x.hf), (.string x.fr)], .bool true]) ∧ StrsOf a5 m x.ps w' ∧ Below W.heap.size W w') := fun W hW => by
    have h1 : r.data.toList = q.sc.data.toList ++ ([58, 47, 47] ++ autL (rootP q)) := by rw [hrt, mk_data]
    exact getI3 r x true m (by rw [h1]; unfold getP; rw [hgx]; rfl) (by rw [h1]; unfold getB; rw [hgx]; rfl) hm (by omega) W hW
   have CX : Hid (∀ a5 c5 W, Lean1 W → StrsOf a5 m x.ps W → Calls Tryz.prog 29 #[.agg #[(.string x.sc), (.string x.us), (.string x.pw), (.int .i64 x.hk), (.string x.hn), (.int .i64 x.ha), (.int .i64 x.po), (.slice a5 m c5), (.string x.op), (.bool x.hq), (.string x.qu), (.bool x.hf), (.string x.fr)]] W fun e w' => e = .returned (.agg #[.string v0, .int .i64 v1, .string v2, .int .i64 v3, .int .i64 v4]) ∧ Below W.heap.size W w') := fun a5 c5 W hW s => by
    have h1 := implOriginOf x a5 m c5 W hW s hxt hxp true (by simp [hokx])
    unfold orgB at h1
    rw [if_pos rfl, horx, ← HV.out] at h1
    exact h1
   have CZ : Hid (∀ a5 c5 W, Lean1 W → StrsOf a5 m x.ps W → StrsOf a n q.ps W → Calls Tryz.prog 22 #[.agg #[(.string x.sc), (.string x.us), (.string x.pw), (.int .i64 x.hk), (.string x.hn), (.int .i64 x.ha), (.int .i64 x.po), (.slice a5 m c5), (.string x.op), (.bool x.hq), (.string x.qu), (.bool x.hf), (.string x.fr)], .agg #[(.string q.sc), (.string q.us), (.string q.pw), (.int .i64 q.hk), (.string q.hn), (.int .i64 q.ha), (.int .i64 q.po), (.slice a n c), (.string q.op), (.bool q.hq), (.string q.qu), (.bool q.hf), (.string q.fr)]] W fun e w' => e = .returned (.bool true) ∧ Below W.heap.size W w') := fun a5 c5 W hW s s' => implOriginSame x q a5 a m n c5 c W hW s s' hxt hto hxp hpo true (iff_of_true rfl ⟨hokx, hok, by omega, horx⟩)
   have A6 := A5.out.step hHeld.1
   have U6 := U5.out.later hHeld.1
   have B6 := B5.out.below hHeld.1 B5.out.lt
   clear HS CQ CK CN hok ho HR HV hneg hneg2 hx hm hokx hox horx hgx hrt hrs hxt hxp hHeld A5 U5 B5
   obtain ⟨o0, o1, o2, o3, o4⟩ := Blk.cells5 B6
   go_wp2_with fail
   refine (CR.out _ A6.le).mono ?_
   rintro e w20 ⟨rfl, d20⟩
   have A7 : Hid (Wat w w20) := A6.step d20
   have U7 : Hid (Va g4 q a n c w20) := U6.later d20
   have B7 : Hid (Blk g5 #[.string v0, .int .i64 v1, .string v2, .int .i64 v3, .int .i64 v4] 48 w20) := B6.below d20 B6.lt
   clear A6 U6 B6 d20 CR o0 o1 o2 o3 o4
   go_wp2_with fail
   refine (CG.out _ A7.out.le).mono ?_
   rintro e w21 ⟨a5, c5, rfl, s5, d21⟩
   obtain ⟨V8, hV8⟩ : ∃ V, V = w21.alloc (.cells #[(.string x.sc), (.string x.us), (.string x.pw), (.int .i64 x.hk), (.string x.hn), (.int .i64 x.ha), (.int .i64 x.po), (.slice a5 m c5), (.string x.op), (.bool x.hq), (.string x.qu), (.bool x.hf), (.string x.fr)] 31) := ⟨_, rfl⟩
   have D8 : Hid (Below w20.heap.size w20 V8) := by show Below _ _ _; rw [hV8]; exact d21.trans ((below_new _ _).mono d21.size)
   have X8 : Hid (Va w21.heap.size x a5 m c5 V8) := by show Va _ _ _ _ _ _; rw [hV8]; exact Va.new _ s5
   have A8 : Hid (Wat w V8) := A7.out.step D8.out
   have U8 : Hid (Va g4 q a n c V8) := U7.out.later D8.out
   have B8 : Hid (Blk g5 #[.string v0, .int .i64 v1, .string v2, .int .i64 v3, .int .i64 v4] 48 V8) := B7.out.below D8.out B7.out.lt
   clear A7 U7 B7 D8 s5 d21 CG
   go_upto_region 12 with fail
   rw [← hV8]
   clear hV8
   generalize w21.heap.size = g8 at *
   have HS : Hid (∀ W, Below V8.heap.size V8 W → (fun W => Below V8.heap.size V8 W ∧ Sc g4 q a n c W ∧ Sog g5 v0 v1 v2 v3 v4 W ∧ Sc g8 x a5 m c5 W) W) := fun W d => ⟨d, Sc.of (U8.out.later d).bk, Blk.cells5 (B8.out.below d B8.out.lt), Sc.of (X8.out.later d).bk⟩
   refine wp_region_held_drew (S := (fun W => Below V8.heap.size V8 W ∧ Sc g4 q a n c W ∧ Sog g5 v0 v1 v2 v3 v4 W ∧ Sc g8 x a5 m c5 W)) (by kernel_rfl) (HS.out _ ((Below.refl _ _).drew)) (fun hHeld => ?_)
   refine tk 0 rfl (by kernel_rfl) (fun _ _ _ h => h) (by rfl) (fun w hSw => by (try dsimp only [Sc, Sog] at hSw); go_simp; try (with_reducible rfl)) (by assumption) ?_
   simp only [Act.put, x1, x2, x3, x4, x5, x6]
   refine tk 1 rfl (by kernel_rfl) (fun _ _ _ h => h) (by rfl) (fun w hSw => by (try dsimp only [Sc, Sog] at hSw); go_simp; try (with_reducible rfl)) (by assumption) ?_
   simp only [Act.put, x1, x2, x3, x4, x5, x6]
   refine tk 2 rfl (by kernel_rfl) (fun _ _ _ h => h) (by rfl) (fun w hSw => by (try dsimp only [Sc, Sog] at hSw); go_simp; try (with_reducible rfl)) (by assumption) ?_
   simp only [Act.put, x1, x2, x3, x4, x5, x6]
   refine tk 4 rfl (by kernel_rfl) (fun _ _ _ h => h) (by rfl) (fun w hSw => by (try dsimp only [Sc, Sog] at hSw); go_simp; try (with_reducible rfl)) (by assumption) ?_
   simp only [Act.put, x1, x2, x3, x4, x5, x6]
   refine wpAnyH_ready (rs := [3]) (by kernel_rfl) (by simp) ?_
   refine AllReadyH.cons (o := _) rfl (fun K hK => ?_) AllReadyH.nil
   go_simp
   refine (CX.out _ _ _ (A8.out.step hHeld.1).le (X8.out.later hHeld.1).st).mono ?_
   rintro e w22 ⟨rfl, d22⟩
   refine hK.out _ _ (HS.out _ (hHeld.1.trans (d22.mono hHeld.1.size))) (fun hHeld => ?_)
   clear hK K
   try simp only [Act.put, x1, x2, x3, x4, x5, x6]
   refine tk (v := .bool true) 5 rfl (by kernel_rfl) (fun _ _ _ h => h) (by rfl) (fun w hSw => by (try dsimp only [Sc, Sog] at hSw); go_simp; try (first | rfl | (simp; done))) (by assumption) ?_
   simp only [Act.put, x1, x2, x3, x4, x5, x6]
   refine tk 6 rfl (by kernel_rfl) (fun _ _ _ h => h) (by rfl) (fun w hSw => by (try dsimp only [Sc, Sog] at hSw); go_simp; try (with_reducible rfl)) (by assumption) ?_
   simp only [Act.put, x1, x2, x3, x4, x5, x6]
   refine tk 7 rfl (by kernel_rfl) (fun _ _ _ h => h) (by rfl) (fun w hSw => by (try dsimp only [Sc, Sog] at hSw); go_simp; try (with_reducible rfl)) (by assumption) ?_
   simp only [Act.put, x1, x2, x3, x4, x5, x6]
   refine tk 8 rfl (by kernel_rfl) (fun _ _ _ h => h) (by rfl) (fun w hSw => by (try dsimp only [Sc, Sog] at hSw); go_simp; try (with_reducible rfl)) (by assumption) ?_
   simp only [Act.put, x1, x2, x3, x4, x5, x6]
   refine tk 9 rfl (by kernel_rfl) (fun _ _ _ h => h) (by rfl) (fun w hSw => by (try dsimp only [Sc, Sog] at hSw); go_simp; try (with_reducible rfl)) (by assumption) ?_
   simp only [Act.put, x1, x2, x3, x4, x5, x6]
   refine wpAnyH_ready (rs := [10]) (by kernel_rfl) (by simp) ?_
   refine AllReadyH.cons (o := _) rfl (fun K hK => ?_) AllReadyH.nil
   go_simp
   refine (CZ.out _ _ _ (A8.out.step hHeld.1).le (X8.out.later hHeld.1).st (U8.out.later hHeld.1).st).mono ?_
   rintro e w23 ⟨rfl, d23⟩
   refine hK.out _ _ (HS.out _ (hHeld.1.trans (d23.mono hHeld.1.size))) (fun hHeld => ?_)
   clear hK K
   try simp only [Act.put, x1, x2, x3, x4, x5, x6]
   refine tk 11 rfl (by kernel_rfl) (fun _ _ _ h => h) (by rfl) (fun w hSw => by (try dsimp only [Sc, Sog] at hSw); go_simp; try (with_reducible rfl)) (by assumption) ?_
   simp only [Act.put, x1, x2, x3, x4, x5, x6]
   refine tk 12 rfl (by kernel_rfl) (fun _ _ _ h => h) (by rfl) (fun w hSw => by (try dsimp only [Sc, Sog] at hSw); go_simp; try (with_reducible rfl)) (by assumption) ?_
   simp only [Act.put, x1, x2, x3, x4, x5, x6]
   refine wpAnyH_done (by kernel_rfl) ?_ _
   go_wp2
   go_ret
   exact ⟨rfl, (A8.out.step hHeld.1).bw⟩
end Go.Proofs.YtnfhajhdpdidlaaGreatDoor
end

/- impl.OriginPut: an origin, written. Plain facts: an address without who and end; an origin's own address; what an origin's text is read as. What Refer answers, plain. -/
import Derived.Test.YtnfhajhdpdidlaaGreatDoorCFnExactRefer04
import Derived.Test.YtnfhajhdpdidlaaGreatDoorB12
import Derived.Test.YtnfhajhdpdidlaaGreatDoorB06
import Derived.Handy
import Derived.Test.YtnfhajhdpdidlaaGreatDoorCFnExactRefer03
set_option linter.unusedVariables false
set_option linter.unusedSimpArgs false
set_option maxHeartbeats 4000000
set_option maxRecDepth 100000
section
namespace Go.Proofs.YtnfhajhdpdidlaaGreatDoor
open Go.RowKit Go.Shelf
def orgOk (c : ByteArray) (k : Int) (s : ByteArray) (a p : Int) : Bool := decide (0 ≤ ownZ c) && okH k s a && decide (0 ≤ p ∧ p ≤ 65535)
def orgT (c : ByteArray) (k : Int) (s : ByteArray) (a p : Int) : ByteArray :=
 if orgOk c k s a p = true then (if p = ownZ c then c ++ ⟨#[58, 47, 47]⟩ ++ mk (putT k s a) else c ++ ⟨#[58, 47, 47]⟩ ++ mk (putT k s a) ++ (⟨#[58]⟩ ++ mk (dg p))) else ⟨#[110, 117, 108, 108]⟩
theorem own_small {c : ByteArray} (h : 0 ≤ ownZ c) : c.size ≤ 5 ∧ (ownZ c = 80 ∨ ownZ c = 443) := by
 unfold ownZ at h ⊢
 split
 ·rename_i e; subst e; exact ⟨by decide, .inl rfl⟩
 ·split
  ·rename_i e; subst e; exact ⟨by decide, .inr rfl⟩
  ·rename_i e1 e2; rw [if_neg e1, if_neg e2] at h; omega
theorem own_cases (c : ByteArray) : ownZ c = -1 ∨ 0 ≤ ownZ c := by
 unfold ownZ; split
 ·right; decide
 ·split
  ·right; decide
  ·left; rfl
theorem orgString (c : ByteArray) (k : Int) (s : ByteArray) (a p : Int) (w : World) (hm : ∃ m, w.cell? ⟨0, 0, none⟩ = some (.int .i64 m)) (hB : 4 < w.heap.size) (ht : Lib.TabIs Tryz.prog w "internal/strconv.uint64pow10" .u64 Lib.pow10Tab) (hs : s.size ≤ 1048576) :
  Calls Tryz.prog 75 #[.agg #[.string c, .int .i64 k, .string s, .int .i64 a, .int .i64 p]] w fun e w' => e = .returned (.string (orgT c k s a p)) ∧ Below w.heap.size w w' := by
 have hlt : 0 < w.heap.size := by
  obtain ⟨m, hm⟩ := hm
  exact cell_lt hm
 have HM : Hid (∀ W, Below w.heap.size w W → ∃ m, W.cell? ⟨0, 0, none⟩ = some (.int .i64 m)) := by
  obtain ⟨m, hm⟩ := hm
  intro W b
  exact ⟨m, (b.cell (p := ⟨0, 0, none⟩) hlt).trans hm⟩
 have HT : Hid (∀ W, Below w.heap.size w W → Lib.TabIs Tryz.prog W "internal/strconv.uint64pow10" .u64 Lib.pow10Tab) := fun W b => tab_below ht b hB
 have CO : Hid (∀ W, Below w.heap.size w W → Calls Tryz.prog 104 #[.agg #[.int .i64 k, .string s, .int .i64 a]] W fun e w' => e = .returned (.bool (okH k s a)) ∧ Below W.heap.size W w') := fun W b => implOk k s a W (HM.out _ b) hs
 have CP : Hid (∀ W, Below w.heap.size w W → Calls Tryz.prog 105 #[.agg #[.int .i64 k, .string s, .int .i64 a]] W fun e w' => e = .returned (.string (mk (putT k s a))) ∧ Below W.heap.size W w') := fun W b => implPut k s a W (HM.out _ b) (Nat.lt_of_lt_of_le hB b.size) (HT.out _ b) hs
 have hpl : (mk (putT k s a)).size ≤ 60 := by rw [mk_size]; exact putT_len k s a
 have hB0 : Below w.heap.size w (w.alloc (Obj.cells #[.string c, .int .i64 k, .string s, .int .i64 a, .int .i64 p] 48)) := (Below.refl _ w).alloc (Nat.le_refl _) _
 clear hm ht hlt HM
 rcases own_cases c with ho | ho
 ·have HR : Hid (orgT c k s a p = ⟨#[110, 117, 108, 108]⟩) := by show _ = _; unfold orgT orgOk; rw [ho]; rfl
  have ho' : ownZ c < 0 := by omega
  go_enter Tryz.func75, Tryz.ntmps75
  go_wp2_with fail
  refine (schemePort c _).mono ?_
  rintro e W1 ⟨rfl, rfl⟩
  clear ho
  go_wp2
  go_ret
  exact ⟨by rw [HR.out]; rfl, hB0⟩
 obtain ⟨hc5, ho2⟩ := own_small ho
 cases hok : okH k s a with
 | false =>
  have HR : Hid (orgT c k s a p = ⟨#[110, 117, 108, 108]⟩) := by show _ = _; unfold orgT orgOk; rw [hok]; simp
  rw [hok] at CO
  clear hok
  go_enter Tryz.func75, Tryz.ntmps75
  go_wp2_with fail
  refine (schemePort c _).mono ?_
  rintro e W1 ⟨rfl, rfl⟩
  go_wp2_with fail
  refine (CO.out _ hB0).mono ?_
  rintro e W2 ⟨rfl, d2⟩
  have b2 := hB0.trans (d2.mono hB0.size)
  go_wp2
  go_ret
  exact ⟨by rw [HR.out]; rfl, b2⟩
 | true =>
  rw [hok] at CO
  by_cases hp : 0 ≤ p ∧ p ≤ 65535
  ·obtain ⟨hp0, hp1⟩ := hp
   have CI : Hid (∀ W, Below w.heap.size w W → Calls Tryz.prog 106 #[.int .i64 p] W fun e w' => e = .returned (.string (mk (dg p))) ∧ Below W.heap.size W w') := fun W b => itoaM p hp0 (by omega) W (HT.out W b)
   have hdl : (mk (dg p)).size ≤ 5 := by rw [mk_size]; exact dg_len5 p (by omega)
   have hyes : orgOk c k s a p = true := by unfold orgOk; rw [hok, decide_eq_true ho, decide_eq_true ⟨hp0, hp1⟩]; rfl
   have HR1 : Hid (p = ownZ c → orgT c k s a p = c ++ ⟨#[58, 47, 47]⟩ ++ mk (putT k s a)) := by intro h; unfold orgT; rw [if_pos hyes, if_pos h]
   have HR2 : Hid (¬ p = ownZ c → orgT c k s a p = c ++ ⟨#[58, 47, 47]⟩ ++ mk (putT k s a) ++ (⟨#[58]⟩ ++ mk (dg p))) := by intro h; unfold orgT; rw [if_pos hyes, if_neg h]
   clear hyes hok HT
   have CW : Hid (∀ W, Calls Tryz.prog 44 #[.string c] W fun e w' => e = .returned (.int .i64 (ownZ c)) ∧ w' = W) := fun W => schemePort c W
   generalize mk (putT k s a) = P at *
   generalize mk (dg p) = D at *
   generalize orgT c k s a p = R at *
   generalize ownZ c = o at *
   have z1 : c.size + 3 ≤ 8 := by omega
   go_enter Tryz.func75, Tryz.ntmps75
   go_wp2_with fail
   refine (CW.out _).mono ?_
   rintro e W1 ⟨rfl, rfl⟩
   go_wp2_with fail
   refine (CO.out _ hB0).mono ?_
   rintro e W2 ⟨rfl, d2⟩
   have b2 := hB0.trans (d2.mono hB0.size)
   have q0 : W2.cell? ⟨w.heap.size, 0, none⟩ = some (.string c) := box_cell d2 0
   have q1 : W2.cell? ⟨w.heap.size, 1, none⟩ = some (.int .i64 k) := box_cell d2 1
   have q2 : W2.cell? ⟨w.heap.size, 2, none⟩ = some (.string s) := box_cell d2 2
   have q3 : W2.cell? ⟨w.heap.size, 3, none⟩ = some (.int .i64 a) := box_cell d2 3
   have q4 : W2.cell? ⟨w.heap.size, 4, none⟩ = some (.int .i64 p) := box_cell d2 4
   have hlt2 : w.heap.size < W2.heap.size := cell_lt q0
   clear d2
   go_wp2
   go_region_with (first
    | (go_at_call 105; refine (CP.out _ b2.drew).mono ?_; rintro e W3 ⟨rfl, d3⟩; have p4 : W3.cell? ⟨w.heap.size, 4, none⟩ = some (.int .i64 p) := (d3.cell (p := ⟨w.heap.size, 4, none⟩) hlt2).trans q4; have p0 : W3.cell? ⟨w.heap.size, 0, none⟩ = some (.string c) := (d3.cell (p := ⟨w.heap.size, 0, none⟩) hlt2).trans q0)
    | fail)
   all_goals
    have b3 : Below w.heap.size w W3 := b2.drew.trans (d3.mono b2.size)
    clear q0 q1 q2 q3 q4 d3
    by_cases hpo : p = o
    ·have HR : Hid (R = c ++ ⟨#[58, 47, 47]⟩ ++ P) := HR1.out hpo
     subst hpo
     clear HR1 HR2
     go_wp2
     go_ret
     exact ⟨by rw [HR.out]; rfl, b3⟩
    ·have HR : Hid (R = c ++ ⟨#[58, 47, 47]⟩ ++ P ++ (⟨#[58]⟩ ++ D)) := HR2.out hpo
     have hpo' : (p == o) = false := beq_eq_false_iff_ne.2 hpo
     clear HR1 HR2
     go_wp2_with fail
     refine (CI.out _ b3).mono ?_
     rintro e W4 ⟨rfl, d4⟩
     have b4 := b3.trans (d4.mono b3.size)
     clear d4
     go_wp2
     go_ret
     exact ⟨by rw [HR.out]; rfl, b4⟩
  ·have HR : Hid (orgT c k s a p = ⟨#[110, 117, 108, 108]⟩) := by show _ = _; unfold orgT orgOk; rw [decide_eq_false hp]; simp
   rcases (show p < 0 ∨ (0 ≤ p ∧ 65535 < p) by omega) with hp1 | ⟨hp1, hp2⟩
   all_goals
    clear hp hok
    go_enter Tryz.func75, Tryz.ntmps75
    go_wp2_with fail
    refine (schemePort c _).mono ?_
    rintro e W1 ⟨rfl, rfl⟩
    go_wp2_with fail
    refine (CO.out _ hB0).mono ?_
    rintro e W2 ⟨rfl, d2⟩
    have b2 := hB0.trans (d2.mono hB0.size)
    have q4 : W2.cell? ⟨w.heap.size, 4, none⟩ = some (.int .i64 p) := box_cell d2 4
    go_wp2
    go_ret
    exact ⟨by rw [HR.out]; rfl, b2⟩
theorem implOrigin (c : ByteArray) (k : Int) (s : ByteArray) (a p : Int) (w : World) (hm : ∃ m, w.cell? ⟨0, 0, none⟩ = some (.int .i64 m)) (hB : 4 < w.heap.size) (ht : Lib.TabIs Tryz.prog w "internal/strconv.uint64pow10" .u64 Lib.pow10Tab) (hs : s.size ≤ 1048576) :
  Calls Tryz.prog 26 #[.agg #[.string c, .int .i64 k, .string s, .int .i64 a, .int .i64 p]] w fun e w' => e = .returned (.string (orgT c k s a p)) ∧ Below w.heap.size w w' := by
 have hlt : 0 < w.heap.size := by
  obtain ⟨m, hm⟩ := hm
  exact cell_lt hm
 have C : Hid (∀ W, Below w.heap.size w W → Calls Tryz.prog 75 #[.agg #[.string c, .int .i64 k, .string s, .int .i64 a, .int .i64 p]] W fun e w' => e = .returned (.string (orgT c k s a p)) ∧ Below W.heap.size W w') := by
  intro W b
  obtain ⟨m, hm⟩ := hm
  exact orgString c k s a p W ⟨m, (b.cell (p := ⟨0, 0, none⟩) hlt).trans hm⟩ (Nat.lt_of_lt_of_le hB b.size) (tab_below ht b hB) hs
 generalize orgT c k s a p = R at *
 clear hm ht
 have hB0 : Below w.heap.size w (w.alloc (Obj.cells #[.string c, .int .i64 k, .string s, .int .i64 a, .int .i64 p] 48)) := (Below.refl _ w).alloc (Nat.le_refl _) _
 go_enter Tryz.func26, Tryz.ntmps26
 go_wp2_with fail
 refine (C.out _ (by first | exact hB0 | exact Below.refl _ _)).mono ?_
 rintro e W1 ⟨rfl, d1⟩
 go_wp2
 go_ret
 exact ⟨rfl, by first | exact box_below d1 | exact d1⟩
end Go.Proofs.YtnfhajhdpdidlaaGreatDoor
end
section
namespace Go.Proofs.YtnfhajhdpdidlaaGreatDoor
open Go.RowKit Go.Shelf
theorem ok_prt (q : P) (h : okP q) : (q.po = -1 ∨ (0 ≤ q.po ∧ q.po ≤ 65535 ∧ q.po ≠ ownZ q.sc ∧ 0 ≤ ownZ q.sc)) := by
 rw [ok_iff] at h
 rcases h.1.main with ⟨_, _, _, _, _, _, h, _⟩ | ⟨h0, _, _, _, _, h, _⟩
 ·exact .inl h
 ·rcases h with h | ⟨h1, h2, h3⟩
  ·exact .inl h
  ·exact .inr ⟨h1, h2, h3, h0⟩
def keyP (q : P) : P := { q with us := ⟨#[]⟩, pw := ⟨#[]⟩, hf := false, fr := ⟨#[]⟩ }
def rootP (q : P) : P := { P.zero with sc := q.sc, hk := q.hk, hn := q.hn, ha := q.ha, po := q.po, ps := [[]] }
def ptP (q : P) : Int := if q.po < 0 then ownZ q.sc else q.po
def ogT (q : P) : ByteArray := orgT q.sc q.hk q.hn q.ha (ptP q)
theorem writ_key (q : P) : (writL (keyP q)).length ≤ (writL q).length := by
 have e1 : tailL (keyP q) = queL q := by unfold tailL; rw [show frgL (keyP q) = [] from rfl, List.append_nil]; rfl
 have e2 : autL (keyP q) = putT q.hk q.hn q.ha ++ porL q := rfl
 have e3 : (queL q).length ≤ (tailL q).length := by unfold tailL; simp
 have e4 : (putT q.hk q.hn q.ha ++ porL q).length ≤ (autL q).length := by unfold autL; simp; omega
 have e5 : (mainL (keyP q)).length ≤ (mainL q).length := by
  unfold mainL
  rw [show ownZ (keyP q).sc = ownZ q.sc from rfl, e2]
  split
  ·simp only [List.length_append] at e4 ⊢; rw [show (keyP q).ps = q.ps from rfl]; omega
  ·exact Nat.le_refl _
 unfold writL
 rw [e1, show (keyP q).sc = q.sc from rfl]
 simp only [List.length_append]; omega
theorem ok_key (q : P) (h : okP q) (ho : 0 ≤ ownZ q.sc) : okP (keyP q) := by
 obtain ⟨hn, hl, hp⟩ := (ok_iff q).1 h
 refine (ok_iff _).2 ⟨⟨hn.sch, hn.que, .inr ⟨rfl, rfl⟩, ?_⟩, Nat.le_trans (writ_key q) hl, hp⟩
 rcases hn.main with ⟨h0, _⟩ | ⟨h0, g1, g2, g3, g4, g5, g6, g7⟩
 ·omega
 ·exact .inr ⟨h0, g1, clo_nil 4, clo_nil 4, g4, g5, g6, g7⟩
theorem ok_pt (q : P) (h : okP q) (ho : 0 ≤ ownZ q.sc) : 0 ≤ ptP q ∧ ptP q ≤ 65535 ∧ (ptP q = ownZ q.sc ↔ q.po < 0) := by
 have hs := own_small ho
 unfold ptP
 rcases ok_prt q h with e | ⟨e1, e2, e3, _⟩
 ·rw [if_pos (by omega)]
  exact ⟨ho, by omega, by simp; omega⟩
 ·rw [if_neg (by omega)]
  exact ⟨e1, e2, by constructor <;> intro h <;> omega⟩
theorem ok_hostN (q : P) (h : okP q) (ho : 0 ≤ ownZ q.sc) : hostN q.hk q.hn q.ha := by
 rcases ((ok_iff q).1 h).1.main with ⟨h0, _⟩ | ⟨_, _, _, _, g4, _⟩
 ·omega
 ·exact g4
theorem hostN_ok (k : Int) (s : ByteArray) (a : Int) (h : hostN k s a) : okH k s a = true := by
 unfold okH
 rcases h with h | ⟨rfl, rfl, h0, h1⟩
 ·rw [h]; simp
 ·have : numbered 2 ⟨#[]⟩ a = true := by unfold numbered; simp [h0, h1]
  rw [this]; simp
theorem app_mk (a b : List UInt8) : mk a ++ mk b = mk (a ++ b) := by
 apply ByteArray.ext; apply Array.ext'; simp [mk]
theorem og_text (q : P) (h : okP q) (ho : 0 ≤ ownZ q.sc) : ogT q = mk (q.sc.data.toList ++ ([58, 47, 47] ++ autL (rootP q))) := by
 obtain ⟨p0, p1, p2⟩ := ok_pt q h ho
 have hk := hostN_ok _ _ _ (ok_hostN q h ho)
 have hok : orgOk q.sc q.hk q.hn q.ha (ptP q) = true := by
  unfold orgOk; rw [decide_eq_true ho, hk, decide_eq_true ⟨p0, p1⟩]; rfl
 have ea : autL (rootP q) = putT q.hk q.hn q.ha ++ porL q := rfl
 have ec : q.sc = mk q.sc.data.toList := (mk_list q.sc).symm
 have e3 : (⟨#[58, 47, 47]⟩ : ByteArray) = mk [58, 47, 47] := rfl
 have e1 : (⟨#[58]⟩ : ByteArray) = mk [58] := rfl
 unfold ogT orgT
 rw [if_pos hok, ea]
 by_cases hp : q.po < 0
 ·rw [if_pos (p2.2 hp)]
  have : porL q = [] := by unfold porL; rw [if_neg (by omega)]
  rw [this, List.append_nil]
  conv => lhs; rw [ec, e3, app_mk, app_mk]
  simp
 ·rw [if_neg (fun e => hp (p2.1 e))]
  have e4 : ptP q = q.po := by unfold ptP; rw [if_neg hp]
  have : porL q = 58 :: dg q.po := by unfold porL; rw [if_pos (by omega)]
  rw [this, e4]
  conv => lhs; rw [ec, e3, e1, app_mk, app_mk, app_mk, app_mk]
  simp
theorem og_slash (q : P) (h : okP q) (ho : 0 ≤ ownZ q.sc) : ogT q ++ ⟨#[47]⟩ = mk (writL (rootP q)) := by
 rw [og_text q h ho, show (⟨#[47]⟩ : ByteArray) = mk [47] from rfl, app_mk]
 congr 1
 have e1 : mainL (rootP q) = [47, 47] ++ (autL (rootP q) ++ putL [[]]) := by unfold mainL; rw [if_pos (show 0 ≤ ownZ (rootP q).sc from ho)]; rfl
 unfold writL
 rw [e1, show tailL (rootP q) = [] from rfl, show putL [[]] = [47] from rfl, show (rootP q).sc = q.sc from rfl]
 simp
theorem writ_root (q : P) (h : okP q) (ho : 0 ≤ ownZ q.sc) : (writL (rootP q)).length ≤ (writL q).length := by
 have hne : q.ps ≠ [] := by
  rcases ((ok_iff q).1 h).1.main with ⟨h0, _⟩ | ⟨_, _, _, _, _, _, g6, _⟩
  ·omega
  ·exact g6
 have e1 : mainL (rootP q) = [47, 47] ++ (autL (rootP q) ++ putL [[]]) := by unfold mainL; rw [if_pos (show 0 ≤ ownZ (rootP q).sc from ho)]; rfl
 have e2 : mainL q = [47, 47] ++ (autL q ++ putL q.ps) := by unfold mainL; rw [if_pos ho]
 have e4 : (autL (rootP q)).length ≤ (autL q).length := by
  rw [show autL (rootP q) = putT q.hk q.hn q.ha ++ porL q from rfl]; unfold autL; simp; omega
 have e5 : 1 ≤ (putL q.ps).length := by
  rw [putL_len]
  cases hq : q.ps with
  | nil => exact absurd hq hne
  | cons p ps => simp; omega
 unfold writL
 rw [e1, e2, show tailL (rootP q) = [] from rfl, show putL [[]] = [47] from rfl, show (rootP q).sc = q.sc from rfl]
 simp only [List.length_append, List.length_cons, List.length_nil] at e4 ⊢; omega
theorem ok_root (q : P) (h : okP q) (ho : 0 ≤ ownZ q.sc) : okP (rootP q) := by
 obtain ⟨hn, hl, hp⟩ := (ok_iff q).1 h
 refine (ok_iff _).2 ⟨⟨hn.sch, .inr ⟨rfl, rfl⟩, .inr ⟨rfl, rfl⟩, ?_⟩, Nat.le_trans (writ_root q h ho) hl, by show ([[]] : List (List UInt8)).length ≤ 12; decide⟩
 rcases hn.main with ⟨h0, _⟩ | ⟨h0, g1, g2, g3, g4, g5, g6, g7⟩
 ·omega
 ·refine .inr ⟨h0, rfl, clo_nil 4, clo_nil 4, g4, g5, by show ([[]] : List (List UInt8)) ≠ []; simp, ?_⟩
  intro p hp
  have : p = [] := by simpa [rootP] using hp
  rw [this]; exact fix_nil
theorem og_read (q : P) (h : okP q) (ho : 0 ≤ ownZ q.sc) : getO (q.sc.data.toList ++ ([58, 47, 47] ++ autL (rootP q))) = some (rootP q) := by
 obtain ⟨hn, hl, hp⟩ := (ok_iff _).1 (ok_root q h ho)
 obtain ⟨r, hr⟩ : ∃ r, r = rootP q := ⟨_, rfl⟩
 have hsc : q.sc = r.sc := by rw [hr]; rfl
 have ho' : 0 ≤ ownZ r.sc := by rw [← hsc]; exact ho
 have hps : r.ps = [[]] := by rw [hr]; rfl
 have htl : tailL r = [] := by rw [hr]; rfl
 have hz : r = { ({ P.zero with sc := r.sc, po := -1 } : P) with us := r.us, pw := r.pw, hk := r.hk, hn := r.hn, ha := r.ha, po := r.po, ps := [[]] } := by rw [hr]; rfl
 rw [hsc, ← hr]
 rw [← hr] at hn hl hp
 rcases hn.main with ⟨h0, _⟩ | ⟨h0, g1, hu, hw, hh, hpo, hne, hfx⟩
 ·omega
 have hwl : writL r = (r.sc.data.toList ++ ([58, 47, 47] ++ autL r)) ++ [47] := by
  unfold writL mainL
  rw [if_pos ho', htl, hps, show putL [[]] = [47] from rfl]; simp
 have hl1 : (r.sc.data.toList ++ ([58, 47, 47] ++ autL r)).length + 1 ≤ 200 := by
  rw [hwl, List.length_append] at hl; simpa using hl
 have hal : (autL r).length ≤ 200 := by
  simp only [List.length_append] at hl1; omega
 have hvis : ∀ c ∈ r.sc.data.toList ++ ([58, 47, 47] ++ autL r), 33 ≤ c.toNat := by
  intro c hc
  exact writ_vis r hn c (by rw [hwl]; exact List.mem_append_left _ hc)
 have e1 : upL [58] (r.sc.data.toList ++ ([58, 47, 47] ++ autL r)) = r.sc.data.toList := by
  refine up_hit _ _ _ 58 (fun d hd => ?_) (by decide)
  have := (schB_facts d (sch_bytes _ hn.sch d hd)).2.2
  rw [among_one]; simpa using this
 have e2 : (r.sc.data.toList ++ ([58, 47, 47] ++ autL r)).drop r.sc.data.toList.length = 58 :: ([47, 47] ++ autL r) := by rw [List.drop_left]; rfl
 have e3 : (r.sc.data.toList ++ ([58, 47, 47] ++ autL r)).drop (r.sc.data.toList.length + 1) = [47, 47] ++ autL r := by rw [← List.drop_drop, e2]; rfl
 have e4 : low r.sc.data.toList = r.sc.data.toList := low_same _ (fun c hc => (schB_facts c (sch_bytes _ hn.sch c hc)).1)
 have ha := aut_facts r hu hw hh
 have hane : autL r ≠ [] := by
  unfold autL
  intro e
  simp only [List.append_eq_nil_iff] at e
  exact (host_back _ _ _ hh).2.2.2.2.1 e.2.2.2.1
 have es : ([47, 47] ++ autL r).dropWhile (among [47, 92]) = autL r := by
  obtain ⟨c, t, hct⟩ : ∃ c t, autL r = c :: t := by
   cases hx : autL r with
   | nil => exact absurd hx hane
   | cons c t => exact ⟨c, t, rfl⟩
  have hc := ha c (by rw [hct]; exact List.mem_cons_self ..)
  show (47 :: 47 :: autL r).dropWhile (among [47, 92]) = autL r
  rw [List.dropWhile_cons, if_pos (by decide), List.dropWhile_cons, if_pos (by decide), hct, List.dropWhile_cons, if_neg (by rw [amongS c hc.2.1 hc.2.2.1]; decide)]
 have eh : upL [47, 92, 63, 35] (autL r) = autL r := by
  have := up_tail [47, 92, 63, 35] (autL r) [] (fun d hd => among4 d (ha d hd).2.1 (ha d hd).2.2.1 (ha d hd).2.2.2.1 (ha d hd).2.2.2.2) (.inl rfl)
  rw [List.append_nil] at this
  exact this
 have hsch : schP P.zero (r.sc.data.toList ++ ([58, 47, 47] ++ autL r)) = some r := by
  unfold schP
  rw [e1, e2, e4, mk_list, e3, if_pos ⟨rfl, hn.sch⟩, if_pos ho']
  unfold slaP hosP
  rw [es, eh]
  have har := aut_read ({ P.zero with sc := r.sc, po := -1 }) r rfl rfl rfl hu hw hh hpo hal
  rw [har, show (autL r).drop (autL r).length = [] from List.drop_length ..]
  show some (patP _ []) = _
  congr 1
  rw [hz]
  rfl
 unfold getO
 rw [if_pos (by omega), trim_vis _ hvis, hsch]
 show (if r.ps.length ≤ 12 ∧ (writL r).length ≤ 600 then some r else none) = some r
 rw [if_pos ⟨hp, by omega⟩]
end Go.Proofs.YtnfhajhdpdidlaaGreatDoor
end
section
namespace Go.Proofs.YtnfhajhdpdidlaaGreatDoor
open Go.RowKit Go.Shelf
def refT (y x : Bool) (p : P) : ByteArray := if y = true then (if x = true then mk (writL (keyP p)) else ogT p ++ ⟨#[47]⟩) else ⟨#[]⟩
def Https (s : ByteArray) : Prop := s = ⟨#[104, 116, 116, 112, 115]⟩
theorem not_https {s : ByteArray} (h : ¬ Https s) (ho : 0 ≤ ownZ s) : s = ⟨#[104, 116, 116, 112]⟩ := by
 by_cases h1 : s = ⟨#[104, 116, 116, 112]⟩
 ·exact h1
 ·unfold ownZ at ho
  unfold Https at h
  rw [if_neg h1, if_neg h] at ho
  omega
theorem og_org (q : P) (ho : 0 ≤ ownZ q.sc) : orgV q = #[.string q.sc, .int .i64 q.hk, .string q.hn, .int .i64 q.ha, .int .i64 (ptP q)] := by
 unfold orgV ptP
 rw [if_neg (by omega)]
theorem og_size (q : P) (h : okP q) (ho : 0 ≤ ownZ q.sc) : (ogT q).size ≤ 200 := by
 have e := og_slash q h ho
 have h2 := ((ok_iff _).1 (ok_root q h ho)).2.1
 have e2 := congrArg ByteArray.size e
 rw [mk_size, ByteArray.size_append] at e2
 have : (⟨#[47]⟩ : ByteArray).size = 1 := rfl
 omega
end Go.Proofs.YtnfhajhdpdidlaaGreatDoor
end

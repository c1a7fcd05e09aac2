/- impl.OriginPut: an origin, written. -/
import Derived.Test.YtdiloljmpcapfaaDoorOkI
import Derived.Test.YtdiloljmpcapfaaDoorPutJ
import Derived.Test.YtdiloljmpcapfaaDoorDigM
import Derived.Test.YtdiloljmpcapfaaDoorOwnP
import Derived.Handy
set_option linter.unusedVariables false
namespace Go.Proofs.YtdiloljmpcapfaaDoor
open Go.RowKit Go.Shelf

/-- Whether an origin is written as such. -/
def orgOk (c : ByteArray) (k : Int) (s : ByteArray) (a p : Int) : Bool := decide (0 ≤ ownZ c) && okH k s a && decide (0 ≤ p ∧ p ≤ 65535)
/-- An origin, written; else null. -/
def orgT (c : ByteArray) (k : Int) (s : ByteArray) (a p : Int) : ByteArray :=
  if orgOk c k s a p = true then (if p = ownZ c then c ++ ⟨#[58, 47, 47]⟩ ++ mk (putT k s a) else c ++ ⟨#[58, 47, 47]⟩ ++ mk (putT k s a) ++ (⟨#[58]⟩ ++ mk (dg p))) else ⟨#[110, 117, 108, 108]⟩
theorem own_small {c : ByteArray} (h : 0 ≤ ownZ c) : c.size ≤ 5 ∧ (ownZ c = 80 ∨ ownZ c = 443) := by
  unfold ownZ at h ⊢
  split
  · rename_i e; subst e; exact ⟨by decide, .inl rfl⟩
  · split
    · rename_i e; subst e; exact ⟨by decide, .inr rfl⟩
    · rename_i e1 e2; rw [if_neg e1, if_neg e2] at h; omega
theorem own_cases (c : ByteArray) : ownZ c = -1 ∨ 0 ≤ ownZ c := by
  unfold ownZ; split
  · right; decide
  · split
    · right; decide
    · left; rfl

set_option maxHeartbeats 4000000 in
set_option maxRecDepth 100000 in
theorem orgString (c : ByteArray) (k : Int) (s : ByteArray) (a p : Int) (w : World) (hm : ∃ m, w.cell? ⟨1, 0, none⟩ = some (.int .i64 m)) (hB : 0 < w.heap.size) (ht : Lib.TabIs Tryd.prog w "internal/strconv.uint64pow10" .u64 Lib.pow10Tab) (hs : s.size ≤ 1048576) :
    Calls Tryd.prog 15 #[.agg #[.string c, .int .i64 k, .string s, .int .i64 a, .int .i64 p]] w fun e w' => e = .returned (.string (orgT c k s a p)) ∧ Below w.heap.size w w' := by
  have hlt : 1 < w.heap.size := by
    obtain ⟨m, hm⟩ := hm
    exact cell_lt hm
  have HM : Hid (∀ W, Below w.heap.size w W → ∃ m, W.cell? ⟨1, 0, none⟩ = some (.int .i64 m)) := by
    obtain ⟨m, hm⟩ := hm
    intro W b
    exact ⟨m, (b.cell (p := ⟨1, 0, none⟩) hlt).trans hm⟩
  have HT : Hid (∀ W, Below w.heap.size w W → Lib.TabIs Tryd.prog W "internal/strconv.uint64pow10" .u64 Lib.pow10Tab) := fun W b => tab_below ht b hB
  have CO : Hid (∀ W, Below w.heap.size w W → Calls Tryd.prog 20 #[.agg #[.int .i64 k, .string s, .int .i64 a]] W fun e w' => e = .returned (.bool (okH k s a)) ∧ Below W.heap.size W w') := fun W b => implOk k s a W (HM.out _ b) hs
  have CP : Hid (∀ W, Below w.heap.size w W → Calls Tryd.prog 21 #[.agg #[.int .i64 k, .string s, .int .i64 a]] W fun e w' => e = .returned (.string (mk (putT k s a))) ∧ Below W.heap.size W w') := fun W b => implPut k s a W (HM.out _ b) (Nat.lt_of_lt_of_le hB b.size) (HT.out _ b) hs
  have hpl : (mk (putT k s a)).size ≤ 60 := by rw [mk_size]; exact putT_len k s a
  have hB0 : Below w.heap.size w (w.alloc (Obj.cells #[.string c, .int .i64 k, .string s, .int .i64 a, .int .i64 p] 30)) := (Below.refl _ w).alloc (Nat.le_refl _) _
  clear hm ht hlt HM
  rcases own_cases c with ho | ho
  · have HR : Hid (orgT c k s a p = ⟨#[110, 117, 108, 108]⟩) := by show _ = _; unfold orgT orgOk; rw [ho]; rfl
    have ho' : ownZ c < 0 := by omega
    go_enter Tryd.func15, Tryd.ntmps15
    go_wp2_with fail
    refine (schemePort c _).mono ?_
    rintro e W1 ⟨rfl, rfl⟩
    clear ho
    go_wp2
    go_ret
    exact ⟨by rw [HR.out]; rfl, hB0⟩
  obtain ⟨hc5, ho2⟩ := own_small ho
  cases hok : okH k s a with
  | false =>
    have HR : Hid (orgT c k s a p = ⟨#[110, 117, 108, 108]⟩) := by show _ = _; unfold orgT orgOk; rw [hok]; simp
    rw [hok] at CO
    clear hok
    go_enter Tryd.func15, Tryd.ntmps15
    go_wp2_with fail
    refine (schemePort c _).mono ?_
    rintro e W1 ⟨rfl, rfl⟩
    go_wp2_with fail
    refine (CO.out _ hB0).mono ?_
    rintro e W2 ⟨rfl, d2⟩
    have b2 := hB0.trans (d2.mono hB0.size)
    go_wp2
    go_ret
    exact ⟨by rw [HR.out]; rfl, b2⟩
  | true =>
    rw [hok] at CO
    by_cases hp : 0 ≤ p ∧ p ≤ 65535
    · obtain ⟨hp0, hp1⟩ := hp
      have CI : Hid (∀ W, Below w.heap.size w W → Calls Tryd.prog 22 #[.int .i64 p] W fun e w' => e = .returned (.string (mk (dg p))) ∧ Below W.heap.size W w') := fun W b => itoaM p hp0 (by omega) W (HT.out W b)
      have hdl : (mk (dg p)).size ≤ 5 := by rw [mk_size]; exact dg_len5 p (by omega)
      have hyes : orgOk c k s a p = true := by unfold orgOk; rw [hok, decide_eq_true ho, decide_eq_true ⟨hp0, hp1⟩]; rfl
      have HR1 : Hid (p = ownZ c → orgT c k s a p = c ++ ⟨#[58, 47, 47]⟩ ++ mk (putT k s a)) := by intro h; unfold orgT; rw [if_pos hyes, if_pos h]
      have HR2 : Hid (¬ p = ownZ c → orgT c k s a p = c ++ ⟨#[58, 47, 47]⟩ ++ mk (putT k s a) ++ (⟨#[58]⟩ ++ mk (dg p))) := by intro h; unfold orgT; rw [if_pos hyes, if_neg h]
      clear hyes hok HT
      have CW : Hid (∀ W, Calls Tryd.prog 19 #[.string c] W fun e w' => e = .returned (.int .i64 (ownZ c)) ∧ w' = W) := fun W => schemePort c W
      generalize mk (putT k s a) = P at *
      generalize mk (dg p) = D at *
      generalize orgT c k s a p = R at *
      generalize ownZ c = o at *
      have z1 : c.size + 3 ≤ 8 := by omega
      go_enter Tryd.func15, Tryd.ntmps15
      go_wp2_with fail
      refine (CW.out _).mono ?_
      rintro e W1 ⟨rfl, rfl⟩
      go_wp2_with fail
      refine (CO.out _ hB0).mono ?_
      rintro e W2 ⟨rfl, d2⟩
      have b2 := hB0.trans (d2.mono hB0.size)
      have q0 : W2.cell? ⟨w.heap.size, 0, none⟩ = some (.string c) := box_cell d2 0
      have q1 : W2.cell? ⟨w.heap.size, 1, none⟩ = some (.int .i64 k) := box_cell d2 1
      have q2 : W2.cell? ⟨w.heap.size, 2, none⟩ = some (.string s) := box_cell d2 2
      have q3 : W2.cell? ⟨w.heap.size, 3, none⟩ = some (.int .i64 a) := box_cell d2 3
      have q4 : W2.cell? ⟨w.heap.size, 4, none⟩ = some (.int .i64 p) := box_cell d2 4
      have hlt2 : w.heap.size < W2.heap.size := cell_lt q0
      clear d2
      go_wp2
      go_region_with (first
        | (go_at_call 21; refine (CP.out _ b2.drew).mono ?_; rintro e W3 ⟨rfl, d3⟩; have p4 : W3.cell? ⟨w.heap.size, 4, none⟩ = some (.int .i64 p) := (d3.cell (p := ⟨w.heap.size, 4, none⟩) hlt2).trans q4; have p0 : W3.cell? ⟨w.heap.size, 0, none⟩ = some (.string c) := (d3.cell (p := ⟨w.heap.size, 0, none⟩) hlt2).trans q0)
        | fail)
      all_goals
        have b3 : Below w.heap.size w W3 := b2.drew.trans (d3.mono b2.size)
        clear q0 q1 q2 q3 q4 d3
        by_cases hpo : p = o
        · have HR : Hid (R = c ++ ⟨#[58, 47, 47]⟩ ++ P) := HR1.out hpo
          subst hpo
          clear HR1 HR2
          go_wp2
          go_ret
          exact ⟨by rw [HR.out]; rfl, b3⟩
        · have HR : Hid (R = c ++ ⟨#[58, 47, 47]⟩ ++ P ++ (⟨#[58]⟩ ++ D)) := HR2.out hpo
          have hpo' : (p == o) = false := beq_eq_false_iff_ne.2 hpo
          clear HR1 HR2
          go_wp2_with fail
          refine (CI.out _ b3).mono ?_
          rintro e W4 ⟨rfl, d4⟩
          have b4 := b3.trans (d4.mono b3.size)
          clear d4
          go_wp2
          go_ret
          exact ⟨by rw [HR.out]; rfl, b4⟩
    · have HR : Hid (orgT c k s a p = ⟨#[110, 117, 108, 108]⟩) := by show _ = _; unfold orgT orgOk; rw [decide_eq_false hp]; simp
      rcases (show p < 0 ∨ (0 ≤ p ∧ 65535 < p) by omega) with hp1 | ⟨hp1, hp2⟩
      all_goals
        clear hp hok
        go_enter Tryd.func15, Tryd.ntmps15
        go_wp2_with fail
        refine (schemePort c _).mono ?_
        rintro e W1 ⟨rfl, rfl⟩
        go_wp2_with fail
        refine (CO.out _ hB0).mono ?_
        rintro e W2 ⟨rfl, d2⟩
        have b2 := hB0.trans (d2.mono hB0.size)
        have q4 : W2.cell? ⟨w.heap.size, 4, none⟩ = some (.int .i64 p) := box_cell d2 4
        go_wp2
        go_ret
        exact ⟨by rw [HR.out]; rfl, b2⟩
set_option maxHeartbeats 1000000 in
set_option maxRecDepth 100000 in
theorem implOrigin (c : ByteArray) (k : Int) (s : ByteArray) (a p : Int) (w : World) (hm : ∃ m, w.cell? ⟨1, 0, none⟩ = some (.int .i64 m)) (hB : 0 < w.heap.size) (ht : Lib.TabIs Tryd.prog w "internal/strconv.uint64pow10" .u64 Lib.pow10Tab) (hs : s.size ≤ 1048576) :
    Calls Tryd.prog 7 #[.agg #[.string c, .int .i64 k, .string s, .int .i64 a, .int .i64 p]] w fun e w' => e = .returned (.string (orgT c k s a p)) ∧ Below w.heap.size w w' := by
  have hlt : 1 < w.heap.size := by
    obtain ⟨m, hm⟩ := hm
    exact cell_lt hm
  have C : Hid (∀ W, Below w.heap.size w W → Calls Tryd.prog 15 #[.agg #[.string c, .int .i64 k, .string s, .int .i64 a, .int .i64 p]] W fun e w' => e = .returned (.string (orgT c k s a p)) ∧ Below W.heap.size W w') := by
    intro W b
    obtain ⟨m, hm⟩ := hm
    exact orgString c k s a p W ⟨m, (b.cell (p := ⟨1, 0, none⟩) hlt).trans hm⟩ (Nat.lt_of_lt_of_le hB b.size) (tab_below ht b hB) hs
  generalize orgT c k s a p = R at *
  clear hm ht
  have hB0 : Below w.heap.size w (w.alloc (Obj.cells #[.string c, .int .i64 k, .string s, .int .i64 a, .int .i64 p] 30)) := (Below.refl _ w).alloc (Nat.le_refl _) _
  go_enter Tryd.func7, Tryd.ntmps7
  go_wp2_with fail
  refine (C.out _ (by first | exact hB0 | exact Below.refl _ _)).mono ?_
  rintro e W1 ⟨rfl, d1⟩
  go_wp2
  go_ret
  exact ⟨rfl, by first | exact box_below d1 | exact d1⟩
end Go.Proofs.YtdiloljmpcapfaaDoor

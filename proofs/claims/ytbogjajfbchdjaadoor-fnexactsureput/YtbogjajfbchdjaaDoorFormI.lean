/- impl.hostFormOf: a host's form. -/
import Derived.Test.YtbogjajfbchdjaaDoorEndI
set_option linter.unusedVariables false
namespace Go.Proofs.YtbogjajfbchdjaaDoor
open Go.RowKit Go.Shelf

def named (k : Int) (s : ByteArray) (a : Int) : Bool := decide (k = 1 ∧ a = 0) && nameL s.data.toList && !endsL s.data.toList
def numbered (k : Int) (s : ByteArray) (a : Int) : Bool := decide (k = 2 ∧ 0 ≤ a ∧ a ≤ 4294967295) && s.data.toList.isEmpty
def formV (k : Int) (s : ByteArray) (a : Int) : Value := if named k s a = true then .iface 60 (.string s) else if numbered k s a = true then .iface 61 (.int .i64 a) else .nilIface

theorem form_named {k : Int} {s : ByteArray} {a : Int} (h : named k s a = true) : formV k s a = .iface 60 (.string s) := by unfold formV; rw [if_pos h]
theorem form_numbered {k : Int} {s : ByteArray} {a : Int} (h1 : named k s a = false) (h : numbered k s a = true) : formV k s a = .iface 61 (.int .i64 a) := by
  unfold formV; rw [if_neg (by rw [h1]; simp), if_pos h]
theorem form_none {k : Int} {s : ByteArray} {a : Int} (h1 : named k s a = false) (h : numbered k s a = false) : formV k s a = .nilIface := by
  unfold formV; rw [if_neg (by rw [h1]; simp), if_neg (by rw [h]; simp)]
theorem named_no {k : Int} {s : ByteArray} {a : Int} (h : ¬ (k = 1 ∧ a = 0)) : named k s a = false := by unfold named; rw [decide_eq_false h]; rfl
theorem numbered_no {k : Int} {s : ByteArray} {a : Int} (h : ¬ (k = 2 ∧ 0 ≤ a ∧ a ≤ 4294967295)) : numbered k s a = false := by unfold numbered; rw [decide_eq_false h]; rfl
theorem named_is {s : ByteArray} : named 1 s 0 = (nameL s.data.toList && !endsL s.data.toList) := by unfold named; rw [decide_eq_true ⟨rfl, rfl⟩]; rfl
theorem numbered_is {s : ByteArray} {a : Int} (h : 0 ≤ a ∧ a ≤ 4294967295) : numbered 2 s a = s.data.toList.isEmpty := by unfold numbered; rw [decide_eq_true ⟨rfl, h⟩]; rfl

theorem box_cell {w W1 : World} {A : Array Value} {t : TypeId} (b : Below (w.alloc (.cells A t)).heap.size (w.alloc (.cells A t)) W1) (j : Nat) : W1.cell? ⟨w.heap.size, j, none⟩ = A[j]? := by
  have hh := heap_alloc_new w (.cells A t)
  rw [b.cell (p := ⟨w.heap.size, j, none⟩) (Array.getElem?_eq_some_iff.1 hh).1, Lib.cell_of_heap hh]
theorem cell_lt {w : World} {g j : Nat} {v : Value} (h : w.cell? ⟨g, j, none⟩ = some v) : (⟨g, j, none⟩ : Addr).block < w.heap.size := by
  rcases Nat.lt_or_ge (⟨g, j, none⟩ : Addr).block w.heap.size with h' | h'
  · exact h'
  · simp [World.cell?, Array.getElem?_eq_none h'] at h
theorem box_below {w W1 : World} {o : Obj} (b : Below (w.alloc o).heap.size (w.alloc o) W1) : Below w.heap.size w W1 :=
  ((Below.refl _ w).alloc (Nat.le_refl _) o).trans (b.mono ((Below.refl _ w).alloc (Nat.le_refl _) o).size)

set_option maxHeartbeats 4000000 in
set_option maxRecDepth 100000 in
theorem hostFormOf (k : Int) (s : ByteArray) (a : Int) (w : World) (hm : ∃ m, w.cell? ⟨0, 0, none⟩ = some (.int .i64 m)) (hs : s.size ≤ 1048576) :
    Calls Tryd.prog 36 #[.agg #[.int .i64 k, .string s, .int .i64 a]] w fun e w' => e = .returned (formV k s a) ∧ Below w.heap.size w w' := by
  have hlt : 0 < w.heap.size := by
    obtain ⟨m, hm⟩ := hm
    have : (⟨0, 0, none⟩ : Addr).block < w.heap.size := by
      rcases Nat.lt_or_ge (⟨0, 0, none⟩ : Addr).block w.heap.size with h' | h'
      · exact h'
      · simp [World.cell?, Array.getElem?_eq_none h'] at hm
    exact this
  have HM : Hid (∀ W, Below w.heap.size w W → ∃ m, W.cell? ⟨0, 0, none⟩ = some (.int .i64 m)) := by
    obtain ⟨m, hm⟩ := hm
    intro W b
    exact ⟨m, (b.cell (p := ⟨0, 0, none⟩) hlt).trans hm⟩
  clear hm
  by_cases hk1 : k = 1
  · subst hk1
    have HN : Hid (numbered 1 s a = false) := numbered_no (by omega)
    by_cases ha : a = 0
    · subst ha
      have HI : Hid (named 1 s 0 = (nameL s.data.toList && !endsL s.data.toList)) := named_is
      go_enter Tryd.func36, Tryd.ntmps36
      go_wp2_with fail
      refine (isHostName s _ (HM.out _ ((Below.refl _ w).alloc (Nat.le_refl _) _)) hs).mono ?_
      rintro e W1 ⟨rfl, b1⟩
      have B1 : Hid (Below w.heap.size w W1) := box_below b1
      have hc1 : W1.cell? ⟨w.heap.size, 1, none⟩ = some (.string s) := box_cell b1 1
      have hsz1 : W1.heap.size ≥ w.heap.size := B1.out.size
      clear b1
      cases hn : nameL s.data.toList with
      | false =>
        have HF : Hid (formV 1 s 0 = .nilIface) := form_none (by rw [HI.out, hn]; rfl) HN.out
        go_wp2
        go_ret
        exact ⟨by rw [HF.out]; rfl, B1.out⟩
      | true =>
        have hl : s.data.toList.length = s.size := by simp
        have h60 := nameL_le _ hn
        have h60' : s.size ≤ 60 := by omega
        have h60i : (s.size : Int) ≤ 60 := by omega
        clear h60 hl
        go_wp2_with fail
        refine (endsWithNumber s _ (HM.out _ B1.out) (by omega)).mono ?_
        rintro e W2 ⟨rfl, b2⟩
        have hc2 : W2.cell? ⟨w.heap.size, 1, none⟩ = some (.string s) := (b2.cell (p := ⟨w.heap.size, 1, none⟩) (cell_lt hc1)).trans hc1
        have B2 : Hid (Below w.heap.size w W2) := B1.out.trans (b2.mono hsz1)
        clear b2 hc1
        cases he : endsL s.data.toList with
        | true =>
          have HF : Hid (formV 1 s 0 = .nilIface) := form_none (by rw [HI.out, hn, he]; rfl) HN.out
          go_wp2
          go_ret
          exact ⟨by rw [HF.out]; rfl, B2.out⟩
        | false =>
          have HF : Hid (formV 1 s 0 = .iface 60 (.string s)) := form_named (by rw [HI.out, hn, he]; rfl)
          go_wp2
          go_ret
          exact ⟨by rw [HF.out]; rfl, B2.out⟩
    · have HF : Hid (formV 1 s a = .nilIface) := form_none (named_no (by omega)) HN.out
      have e0 : (a == 0) = false := beq_eq_false_iff_ne.2 ha
      go_enter Tryd.func36, Tryd.ntmps36
      go_wp2
      go_ret
      exact ⟨by rw [HF.out]; rfl, (Below.refl _ w).alloc (Nat.le_refl _) _⟩
  · have HN : Hid (named k s a = false) := named_no (by omega)
    have e1 : (k == 1) = false := beq_eq_false_iff_ne.2 hk1
    by_cases hk2 : k = 2
    · subst hk2
      by_cases hz : s.size = 0
      · have he : s = ⟨#[]⟩ := by
          have := mk_list s
          have hl : s.data.toList.length = s.size := by simp
          rw [List.length_eq_zero_iff.1 (show s.data.toList.length = 0 by omega)] at this
          exact this.symm
        subst he
        rcases (show a < 0 ∨ (0 ≤ a ∧ 4294967295 < a) ∨ (0 ≤ a ∧ a ≤ 4294967295) from by omega) with h1 | ⟨h1, h2⟩ | ⟨h1, h2⟩
        · have HF : Hid (formV 2 ⟨#[]⟩ a = .nilIface) := form_none HN.out (numbered_no (by omega))
          go_enter Tryd.func36, Tryd.ntmps36
          go_wp2
          go_ret
          exact ⟨by rw [HF.out]; rfl, (Below.refl _ w).alloc (Nat.le_refl _) _⟩
        · have HF : Hid (formV 2 ⟨#[]⟩ a = .nilIface) := form_none HN.out (numbered_no (by omega))
          go_enter Tryd.func36, Tryd.ntmps36
          go_wp2
          go_ret
          exact ⟨by rw [HF.out]; rfl, (Below.refl _ w).alloc (Nat.le_refl _) _⟩
        · have HF : Hid (formV 2 ⟨#[]⟩ a = .iface 61 (.int .i64 a)) := form_numbered HN.out (by rw [numbered_is ⟨h1, h2⟩]; rfl)
          go_enter Tryd.func36, Tryd.ntmps36
          go_wp2
          go_ret
          exact ⟨by rw [HF.out]; rfl, (Below.refl _ w).alloc (Nat.le_refl _) _⟩
      · have hzn : s.toList ≠ [] := by rw [ByteArray.toList_eq]; exact list_ne s hz
        have hne1 : (s.toList == []) = false := beq_eq_false_iff_ne.2 hzn
        have hne2 : s.toList.isEmpty = false := List.isEmpty_eq_false_iff.2 hzn
        have HF : Hid (formV 2 s a = .nilIface) := form_none HN.out (by unfold numbered; rw [List.isEmpty_eq_false_iff.2 (list_ne s hz)]; simp)
        go_enter Tryd.func36, Tryd.ntmps36
        go_wp2
        go_ret
        exact ⟨by rw [HF.out]; rfl, (Below.refl _ w).alloc (Nat.le_refl _) _⟩
    · have HF : Hid (formV k s a = .nilIface) := form_none HN.out (numbered_no (by omega))
      have e2 : (k == 2) = false := beq_eq_false_iff_ne.2 hk2
      go_enter Tryd.func36, Tryd.ntmps36
      go_wp2
      go_ret
      exact ⟨by rw [HF.out]; rfl, (Below.refl _ w).alloc (Nat.le_refl _) _⟩
end Go.Proofs.YtbogjajfbchdjaaDoor

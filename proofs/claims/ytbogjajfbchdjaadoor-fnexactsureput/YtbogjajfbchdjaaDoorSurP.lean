/- What hosts that are ok must be; plain facts. -/
import Derived.Test.YtbogjajfbchdjaaDoorOkS
import Derived.Test.YtbogjajfbchdjaaDoorStrS
import Derived.Laws.Cover1
set_option linter.unusedVariables false
namespace Go.Proofs.YtbogjajfbchdjaaDoor
open Go.RowKit Go.Shelf

/-- Whether the host at a place is a name, and behind the one ahead. -/
def sureAt (ss : List (List UInt8)) (k : Nat) : Bool := okH 1 (mk (ss.getD k [])) 0 && (k == 0 || Op.bytesLess (ss.getD (k - 1) []) (ss.getD k []))
def sureAll (ss : List (List UInt8)) : Bool := (List.range ss.length).all (sureAt ss)
def sureB (ss : List (List UInt8)) : Bool := decide (ss.length ≤ 6) && sureAll ss
theorem sureAll_no (ss : List (List UInt8)) (k : Nat) (hk : k < ss.length) (h : sureAt ss k = false) : sureAll ss = false := by
  unfold sureAll
  rw [List.all_eq_false]
  exact ⟨k, List.mem_range.2 hk, by rw [h]; decide⟩
theorem sureAll_yes (ss : List (List UInt8)) (h : ∀ j, j < ss.length → sureAt ss j = true) : sureAll ss = true := by
  unfold sureAll
  rw [List.all_eq_true]
  intro j hj
  exact h j (List.mem_range.1 hj)
theorem sureB_long (ss : List (List UInt8)) (h : ¬ ss.length ≤ 6) : sureB ss = false := by unfold sureB; rw [decide_eq_false h]; rfl
theorem sureB_of (ss : List (List UInt8)) (h : ss.length ≤ 6) : sureB ss = sureAll ss := by unfold sureB; rw [decide_eq_true h]; rfl
theorem sureB_no (ss : List (List UInt8)) (k : Nat) (hk : k < ss.length) (h : sureAt ss k = false) : sureB ss = false := by unfold sureB; rw [sureAll_no ss k hk h, Bool.and_false]
theorem le_tot (ss : List (List UInt8)) (k : Nat) (hk : k < ss.length) : ss[k].length ≤ tot ss := by
  have h1 := tot_snoc ss k hk
  have h2 : tot ss = tot (ss.take (k + 1)) + tot (ss.drop (k + 1)) := by
    unfold tot
    rw [← List.sum_append, ← List.map_append, List.take_append_drop]
  omega
theorem sureAt_name (ss : List (List UInt8)) (k : Nat) (hk : k < ss.length) (h : okH 1 (mk ss[k]) 0 = false) : sureAt ss k = false := by
  have e : ss.getD k [] = ss[k] := by simp [List.getD, List.getElem?_eq_getElem hk]
  unfold sureAt; rw [e, h]; rfl
theorem sureAt_first (ss : List (List UInt8)) (hk : 0 < ss.length) (h : okH 1 (mk ss[0]) 0 = true) : sureAt ss 0 = true := by
  have e : ss.getD 0 [] = ss[0] := by simp [List.getD, List.getElem?_eq_getElem hk]
  unfold sureAt; rw [e, h]; rfl
theorem sureAt_next (ss : List (List UInt8)) (k : Nat) (h0 : 0 < k) (hk : k < ss.length) (h : okH 1 (mk ss[k]) 0 = true) : sureAt ss k = Op.bytesLess (ss[k - 1]'(by omega)) ss[k] := by
  have e : ss.getD k [] = ss[k] := by simp [List.getD, List.getElem?_eq_getElem hk]
  have e1 : ss.getD (k - 1) [] = ss[k - 1]'(by omega) := by simp [List.getD, List.getElem?_eq_getElem (show k - 1 < ss.length by omega)]
  have e2 : (k == 0) = false := by rw [beq_eq_false_iff_ne]; omega
  unfold sureAt; rw [e, e1, h, e2]; rfl
/-- The walk's own spelling of a text's bytes. -/
theorem mk_toList (l : List UInt8) : (mk l).toList = l := by rw [ByteArray.toList_eq, mk_data]
end Go.Proofs.YtbogjajfbchdjaaDoor

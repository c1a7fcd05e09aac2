/- Plain facts on names within domains. -/
import Derived.Test.YteapapcedkpkmaaDoorOkS
import Derived.Lib.Strings
set_option linter.unusedVariables false
namespace Go.Proofs.YteapapcedkpkmaaDoor
open Go.RowKit Go.Shelf

/-- Whether a host is within a domain. -/
def domB (h d : ByteArray) : Bool := !h.data.toList.isEmpty && !d.data.toList.isEmpty && (h.data.toList == d.data.toList || (Lib.hasSuffix h.data.toList (46 :: d.data.toList) && okH 1 h 0))
theorem domB_h (d : ByteArray) : domB ⟨#[]⟩ d = false := rfl
theorem domB_d (h : ByteArray) : domB h ⟨#[]⟩ = false := by unfold domB; simp
theorem domB_same (h : ByteArray) (h0 : h.size ≠ 0) : domB h h = true := by
  unfold domB; rw [(full_text h h0).2.2]; simp
theorem domB_else (h d : ByteArray) (h0 : h.size ≠ 0) (d0 : d.size ≠ 0) (hd : h ≠ d) : domB h d = (Lib.hasSuffix h.data.toList (46 :: d.data.toList) && okH 1 h 0) := by
  have e : (h.data.toList == d.data.toList) = false := by
    rw [beq_eq_false_iff_ne]; intro e; apply hd
    rw [← mk_list h, ← mk_list d, e]
  unfold domB; rw [(full_text h h0).2.2, (full_text d d0).2.2, e]; simp
/-- What the walk wants of two texts that are not one. -/
theorem txt_ne (h d : ByteArray) (hd : h ≠ d) : (h.toList == d.toList) = false ∧ ¬ h.toList = d.toList := by
  have e : ¬ h.toList = d.toList := by
    intro e; apply hd
    rw [ByteArray.toList_eq, ByteArray.toList_eq] at e
    rw [← mk_list h, ← mk_list d, e]
  exact ⟨beq_eq_false_iff_ne.2 e, e⟩
theorem dot_list (d : ByteArray) : ((⟨#[46]⟩ : ByteArray) ++ d).data.toList = 46 :: d.data.toList := by
  rw [ByteArray.data_append]; simp
theorem dot_size (d : ByteArray) : ((⟨#[46]⟩ : ByteArray) ++ d).size = d.size + 1 := by
  rw [ByteArray.size_append]; show 1 + d.size = _; omega
end Go.Proofs.YteapapcedkpkmaaDoor

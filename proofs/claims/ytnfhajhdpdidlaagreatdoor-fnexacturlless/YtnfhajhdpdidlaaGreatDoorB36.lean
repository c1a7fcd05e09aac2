/- UrlGet of texts that are too long, on both sides. -/
import Derived.Test.YtnfhajhdpdidlaaGreatDoorB35
set_option linter.unusedVariables false
set_option linter.unusedSimpArgs false
set_option maxHeartbeats 4000000
set_option maxRecDepth 100000
section
namespace Go.Proofs.YtnfhajhdpdidlaaGreatDoor
open Go.RowKit Go.Shelf
theorem specGetBig (s : ByteArray) (w : World) (hs : s.size ≤ 1000000000) (hb : ¬ s.size ≤ 200) :
  Calls Tryz.prog 83 #[.string s] w fun e w' => ∃ v, e = .returned (.tuple #[.agg ((getP s.data.toList).cells v), .bool (getB s.data.toList)]) ∧ OwnS w.heap.size v (getP s.data.toList).ps w' ∧ Below w.heap.size w w' := by
 have hln : s.data.toList.length = s.size := by simp
 have H0 : Hid (RZ w (w.alloc (.cells zeroC 31))) := RZ.start w
 unfold zeroC at H0
 have HG0 : Hid (getO s.data.toList = none → getP s.data.toList = P.zero ∧ getB s.data.toList = false) := fun h => by unfold getP getB; rw [h]; exact ⟨rfl, rfl⟩
 obtain ⟨hgp, hgb⟩ := HG0.out (by unfold getO; rw [if_neg (by omega)])
 have HGP : Hid (getP s.data.toList = P.zero) := hgp
 have HGB : Hid (getB s.data.toList = false) := hgb
 clear hln hgp hgb HG0
 have hbi : ¬ ((s.size : Int) ≤ 200) := by omega
 go_enter Tryz.func83, Tryz.ntmps83
 have HRB : Hid (Blk w.heap.size #[(.string ⟨#[]⟩), (.string ⟨#[]⟩), (.string ⟨#[]⟩), (.int .i64 0), (.string ⟨#[]⟩), (.int .i64 0), (.int .i64 0), (.slice none 0 0), (.string ⟨#[]⟩), (.bool false), (.string ⟨#[]⟩), (.bool false), (.string ⟨#[]⟩)] 31 (w.alloc (.cells #[(.string ⟨#[]⟩), (.string ⟨#[]⟩), (.string ⟨#[]⟩), (.int .i64 0), (.string ⟨#[]⟩), (.int .i64 0), (.int .i64 0), (.slice none 0 0), (.string ⟨#[]⟩), (.bool false), (.string ⟨#[]⟩), (.bool false), (.string ⟨#[]⟩)] 31))) := H0.out.rs
 have HBB : Hid (Below w.heap.size w (w.alloc (.cells #[(.string ⟨#[]⟩), (.string ⟨#[]⟩), (.string ⟨#[]⟩), (.int .i64 0), (.string ⟨#[]⟩), (.int .i64 0), (.int .i64 0), (.slice none 0 0), (.string ⟨#[]⟩), (.bool false), (.string ⟨#[]⟩), (.bool false), (.string ⟨#[]⟩)] 31))) := H0.out.bw
 clear H0
 go_wp2
 generalize w.alloc (.cells #[(.string ⟨#[]⟩), (.string ⟨#[]⟩), (.string ⟨#[]⟩), (.int .i64 0), (.string ⟨#[]⟩), (.int .i64 0), (.int .i64 0), (.slice none 0 0), (.string ⟨#[]⟩), (.bool false), (.string ⟨#[]⟩), (.bool false), (.string ⟨#[]⟩)] 31) = W9 at *
 have z0 : W9.cell? ⟨w.heap.size, 0, none⟩ = some (.string ⟨#[]⟩) := HRB.out.cell 0
 have z1 : W9.cell? ⟨w.heap.size, 1, none⟩ = some (.string ⟨#[]⟩) := HRB.out.cell 1
 have z2 : W9.cell? ⟨w.heap.size, 2, none⟩ = some (.string ⟨#[]⟩) := HRB.out.cell 2
 have z3 : W9.cell? ⟨w.heap.size, 3, none⟩ = some (.int .i64 0) := HRB.out.cell 3
 have z4 : W9.cell? ⟨w.heap.size, 4, none⟩ = some (.string ⟨#[]⟩) := HRB.out.cell 4
 have z5 : W9.cell? ⟨w.heap.size, 5, none⟩ = some (.int .i64 0) := HRB.out.cell 5
 have z6 : W9.cell? ⟨w.heap.size, 6, none⟩ = some (.int .i64 0) := HRB.out.cell 6
 have z7 : W9.cell? ⟨w.heap.size, 7, none⟩ = some (.slice none 0 0) := HRB.out.cell 7
 have z8 : W9.cell? ⟨w.heap.size, 8, none⟩ = some (.string ⟨#[]⟩) := HRB.out.cell 8
 have z9 : W9.cell? ⟨w.heap.size, 9, none⟩ = some (.bool false) := HRB.out.cell 9
 have z10 : W9.cell? ⟨w.heap.size, 10, none⟩ = some (.string ⟨#[]⟩) := HRB.out.cell 10
 have z11 : W9.cell? ⟨w.heap.size, 11, none⟩ = some (.bool false) := HRB.out.cell 11
 have z12 : W9.cell? ⟨w.heap.size, 12, none⟩ = some (.string ⟨#[]⟩) := HRB.out.cell 12
 refine bodyPost_ret (v := .tuple #[.agg #[(.string ⟨#[]⟩), (.string ⟨#[]⟩), (.string ⟨#[]⟩), (.int .i64 0), (.string ⟨#[]⟩), (.int .i64 0), (.int .i64 0), (.slice none 0 0), (.string ⟨#[]⟩), (.bool false), (.string ⟨#[]⟩), (.bool false), (.string ⟨#[]⟩)], .bool false]) (by simp [results, Tryz.results83, go_sem, z0, z1, z2, z3, z4, z5, z6, z7, z8, z9, z10, z11, z12]) rfl ?_
 exact ⟨.slice none 0 0, by rw [HGP.out, HGB.out]; rfl, by rw [HGP.out]; exact ownS_nil _ _, HBB.out⟩
theorem implGetBig (s : ByteArray) (w : World) (hL : Lean1 w) (hs : s.size ≤ 1000000000) (hb : ¬ s.size ≤ 200) :
  Calls Tryz.prog 21 #[.string s] w fun e w' => ∃ v, e = .returned (.tuple #[.agg ((getP s.data.toList).cells v), .bool (getB s.data.toList)]) ∧ OwnS w.heap.size v (getP s.data.toList).ps w' ∧ Below w.heap.size w w' := by
 have hln : s.data.toList.length = s.size := by simp
 have hbi : (200 : Int) < (s.size : Int) := by omega
 have HO : Hid (getO s.data.toList = none) := by show _ = _; unfold getO; rw [if_neg (by omega)]
 clear hln
 go_enter Tryz.func21, Tryz.ntmps21
 go_wp2
 exact bodyPost_ret (v := .tuple #[.agg #[(.string ⟨#[]⟩), (.string ⟨#[]⟩), (.string ⟨#[]⟩), (.int .i64 0), (.string ⟨#[]⟩), (.int .i64 0), (.int .i64 0), (.slice none 0 0), (.string ⟨#[]⟩), (.bool false), (.string ⟨#[]⟩), (.bool false), (.string ⟨#[]⟩)], .bool false]) (by simp [results, Tryz.results21, go_sem]) rfl ⟨.slice none 0 0, by unfold getP getB; rw [HO.out]; rfl, by unfold getP; rw [HO.out]; exact ownS_nil _ _, (Below.refl _ w).alloc (Nat.le_refl _) _⟩
theorem specUrlGetL (s : ByteArray) (w : World) (hs : s.size ≤ 1000000000) :
  Calls Tryz.prog 83 #[.string s] w fun e w' => ∃ v, e = .returned (.tuple #[.agg ((getP s.data.toList).cells v), .bool (getB s.data.toList)]) ∧ OwnS w.heap.size v (getP s.data.toList).ps w' ∧ Below w.heap.size w w' := by
 by_cases hb : s.size ≤ 200
 ·exact specUrlGet s w (by omega)
 ·exact specGetBig s w hs hb
theorem implUrlGetL (s : ByteArray) (w : World) (hL : Lean1 w) (hs : s.size ≤ 1000000000) :
  Calls Tryz.prog 21 #[.string s] w fun e w' => ∃ v, e = .returned (.tuple #[.agg ((getP s.data.toList).cells v), .bool (getB s.data.toList)]) ∧ OwnS w.heap.size v (getP s.data.toList).ps w' ∧ Below w.heap.size w w' := by
 by_cases hb : s.size ≤ 200
 ·exact implUrlGet s w hL (by omega)
 ·exact implGetBig s w hL hs hb
end Go.Proofs.YtnfhajhdpdidlaaGreatDoor
end

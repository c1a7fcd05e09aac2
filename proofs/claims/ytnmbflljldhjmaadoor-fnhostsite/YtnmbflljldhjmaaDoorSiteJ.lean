/- impl.HostSite; spec.HostPut, spec.HostSite. -/
import Derived.Test.YtnmbflljldhjmaaDoorSiteI
import Derived.Test.YtnmbflljldhjmaaDoorOkS
set_option linter.unusedVariables false
namespace Go.Proofs.YtnmbflljldhjmaaDoor
open Go.RowKit Go.Shelf

theorem site_named {k : Int} {s : ByteArray} {a : Int} (h : named k s a = true) : siteT k s a = siteL s.data.toList := by unfold siteT; rw [if_pos h]
theorem site_numbered {k : Int} {s : ByteArray} {a : Int} (h1 : named k s a = false) (h : numbered k s a = true) : siteT k s a = fourT a := by unfold siteT; rw [if_neg (by rw [h1]; simp), if_pos h]
theorem site_none {k : Int} {s : ByteArray} {a : Int} (h1 : named k s a = false) (h : numbered k s a = false) : siteT k s a = [] := by unfold siteT; rw [if_neg (by rw [h1]; simp), if_neg (by rw [h]; simp)]
theorem named_facts {k : Int} {s : ByteArray} {a : Int} (h : named k s a = true) : k = 1 ∧ a = 0 ∧ s.size ≤ 60 := by
  unfold named at h
  rw [Bool.and_eq_true, Bool.and_eq_true, decide_eq_true_eq] at h
  have := nameL_le _ h.1.2
  have hl : s.data.toList.length = s.size := by simp
  exact ⟨h.1.1.1, h.1.1.2, by omega⟩
theorem numbered_facts {k : Int} {s : ByteArray} {a : Int} (h : numbered k s a = true) : k = 2 ∧ 0 ≤ a ∧ a ≤ 4294967295 ∧ named k s a = false := by
  unfold numbered at h
  rw [Bool.and_eq_true, decide_eq_true_eq] at h
  exact ⟨h.1.1, h.1.2.1, h.1.2.2, named_no (by omega)⟩

set_option maxHeartbeats 2000000 in
set_option maxRecDepth 100000 in
theorem siteNumbered (a : Int) (w : World) (h0 : 0 ≤ a) (h1 : a ≤ 4294967295) (hB : 1 < w.heap.size) (ht : Lib.TabIs Tryd.prog w "internal/strconv.uint64pow10" .u64 Lib.pow10Tab) :
    Calls Tryd.prog 11 #[.iface 53 (.int .i64 a)] w fun e w' => e = .returned (.string (mk (fourT a))) ∧ Below w.heap.size w w' := by
  have CP : Hid (Calls Tryd.prog 29 #[.int .i64 a] w fun e w' => e = .returned (.string (mk (fourT a))) ∧ Below w.heap.size w w') := put a w h0 h1 hB ht
  have t1 := ta_miss (.int .i64 a) w
  have t2 := ta_numbered (.int .i64 a) w
  generalize mk (fourT a) = r at *
  clear ht
  go_enter Tryd.func11, Tryd.ntmps11
  go_wp2_with fail
  refine CP.out.mono ?_
  rintro e W1 ⟨rfl, b1⟩
  go_wp2
  go_ret
  exact ⟨rfl, b1⟩
set_option maxHeartbeats 2000000 in
set_option maxRecDepth 100000 in
theorem siteNil (w : World) : Calls Tryd.prog 11 #[.nilIface] w fun e w' => e = .returned (.string (mk [])) ∧ Below w.heap.size w w' := by
  have t1 := ta_nil1 w
  have t2 := ta_nil2 w
  go_enter Tryd.func11, Tryd.ntmps11
  go_wp2
  go_ret
  exact ⟨rfl, Below.refl _ _⟩

theorem siteOf (k : Int) (s : ByteArray) (a : Int) (w : World) (hm : ∃ m, w.cell? ⟨0, 0, none⟩ = some (.int .i64 m)) (hB : 1 < w.heap.size) (ht : Lib.TabIs Tryd.prog w "internal/strconv.uint64pow10" .u64 Lib.pow10Tab) :
    Calls Tryd.prog 11 #[formV k s a] w fun e w' => e = .returned (.string (mk (siteT k s a))) ∧ Below w.heap.size w w' := by
  cases h1 : named k s a with
  | true => rw [form_named h1, site_named h1]; exact siteNamed s w hm (named_facts h1).2.2
  | false =>
    cases h2 : numbered k s a with
    | true => rw [form_numbered h1 h2, site_numbered h1 h2]; exact siteNumbered a w (numbered_facts h2).2.1 (numbered_facts h2).2.2.1 hB ht
    | false => rw [form_none h1 h2, site_none h1 h2]; exact siteNil w

set_option maxHeartbeats 2000000 in
set_option maxRecDepth 100000 in
theorem implSite (k : Int) (s : ByteArray) (a : Int) (w : World) (hm : ∃ m, w.cell? ⟨0, 0, none⟩ = some (.int .i64 m)) (hB : 1 < w.heap.size) (ht : Lib.TabIs Tryd.prog w "internal/strconv.uint64pow10" .u64 Lib.pow10Tab) (hs : s.size ≤ 1048576) :
    Calls Tryd.prog 5 #[.agg #[.int .i64 k, .string s, .int .i64 a]] w fun e w' => e = .returned (.string (mk (siteT k s a))) ∧ Below w.heap.size w w' := by
  have hlt : 0 < w.heap.size := by
    obtain ⟨m, hm⟩ := hm
    exact cell_lt hm
  have HM : Hid (∀ W, Below w.heap.size w W → ∃ m, W.cell? ⟨0, 0, none⟩ = some (.int .i64 m)) := by
    obtain ⟨m, hm⟩ := hm
    intro W b
    exact ⟨m, (b.cell (p := ⟨0, 0, none⟩) hlt).trans hm⟩
  have HF : Hid (∀ W, Below w.heap.size w W → Calls Tryd.prog 12 #[.agg #[.int .i64 k, .string s, .int .i64 a]] W fun e w' => e = .returned (formV k s a) ∧ Below W.heap.size W w') := fun W b => hostFormOf k s a W (HM.out W b) hs
  have HS : Hid (∀ W, Below w.heap.size w W → Calls Tryd.prog 11 #[formV k s a] W fun e w' => e = .returned (.string (mk (siteT k s a))) ∧ Below W.heap.size W w') := fun W b => siteOf k s a W (HM.out W b) (Nat.lt_of_lt_of_le hB b.size) (tab_below ht b hB)
  generalize formV k s a = f at *
  generalize mk (siteT k s a) = r at *
  clear hm ht HM
  go_enter Tryd.func5, Tryd.ntmps5
  go_wp2_with fail
  refine (HF.out _ ((Below.refl _ w).alloc (Nat.le_refl _) _)).mono ?_
  rintro e W1 ⟨rfl, b1⟩
  have B1 : Below w.heap.size w W1 := box_below b1
  clear b1
  go_wp2_with fail
  refine (HS.out _ B1).mono ?_
  rintro e W2 ⟨rfl, b2⟩
  have B2 : Below w.heap.size w W2 := B1.trans (b2.mono B1.size)
  clear b2
  go_wp2
  go_ret
  exact ⟨rfl, B2⟩
end Go.Proofs.YtnmbflljldhjmaaDoor

/- impl.HostSite; spec.HostPut, spec.HostSite. impl.SiteSame: two addresses of one site. spec.HostSite. spec.SiteSame: two addresses of one site. -/
import Derived.Test.YtfcbjdooijhibaaGreatDoorCFnSiteSame02
import Derived.Test.YtfcbjdooijhibaaGreatDoorD30
import Derived.Test.YtfcbjdooijhibaaGreatDoorD11
import Derived.Test.YtfcbjdooijhibaaGreatDoorD16
import Derived.Deep.RegionHeld3
set_option linter.unusedVariables false
set_option linter.unusedSimpArgs false
set_option maxHeartbeats 16000000
set_option maxRecDepth 100000
section
namespace Go.Proofs.YtfcbjdooijhibaaGreatDoor
open Go.RowKit Go.Shelf
theorem site_named {k : Int} {s : ByteArray} {a : Int} (h : named k s a = true) : siteT k s a = siteL s.data.toList := by unfold siteT; rw [if_pos h]
theorem site_numbered {k : Int} {s : ByteArray} {a : Int} (h1 : named k s a = false) (h : numbered k s a = true) : siteT k s a = fourT a := by unfold siteT; rw [if_neg (by rw [h1]; simp), if_pos h]
theorem site_none {k : Int} {s : ByteArray} {a : Int} (h1 : named k s a = false) (h : numbered k s a = false) : siteT k s a = [] := by unfold siteT; rw [if_neg (by rw [h1]; simp), if_neg (by rw [h]; simp)]
theorem siteNumbered (a : Int) (w : World) (h0 : 0 ≤ a) (h1 : a ≤ 4294967295) (hB : 1 < w.heap.size) (ht : Lib.TabIs Tryz.prog w "internal/strconv.uint64pow10" .u64 Lib.pow10Tab) :
  Calls Tryz.prog 76 #[.iface 110 (.int .i64 a)] w fun e w' => e = .returned (.string (mk (fourT a))) ∧ Below w.heap.size w w' := by
 have CP : Hid (Calls Tryz.prog 100 #[.int .i64 a] w fun e w' => e = .returned (.string (mk (fourT a))) ∧ Below w.heap.size w w') := put a w h0 h1 hB ht
 have t1 := ta_miss (.int .i64 a) w
 have t2 := ta_numbered (.int .i64 a) w
 generalize mk (fourT a) = r at *
 clear ht
 go_enter Tryz.func76, Tryz.ntmps76
 go_wp2_with fail
 refine CP.out.mono ?_
 rintro e W1 ⟨rfl, b1⟩
 go_wp2
 go_ret
 exact ⟨rfl, b1⟩
theorem siteNil (w : World) : Calls Tryz.prog 76 #[.nilIface] w fun e w' => e = .returned (.string (mk [])) ∧ Below w.heap.size w w' := by
 have t1 := ta_nil1 w
 have t2 := ta_nil2 w
 go_enter Tryz.func76, Tryz.ntmps76
 go_wp2
 go_ret
 exact ⟨rfl, Below.refl _ _⟩
theorem siteOf (k : Int) (s : ByteArray) (a : Int) (w : World) (hm : ∃ m, w.cell? ⟨2, 0, none⟩ = some (.int .i64 m)) (hB : 1 < w.heap.size) (ht : Lib.TabIs Tryz.prog w "internal/strconv.uint64pow10" .u64 Lib.pow10Tab) :
  Calls Tryz.prog 76 #[formV k s a] w fun e w' => e = .returned (.string (mk (siteT k s a))) ∧ Below w.heap.size w w' := by
 cases h1 : named k s a with
 | true => rw [form_named h1, site_named h1]; exact siteNamed s w hm (named_facts h1).2.2
 | false =>
  cases h2 : numbered k s a with
  | true => rw [form_numbered h1 h2, site_numbered h1 h2]; exact siteNumbered a w (numbered_facts h2).2.1 (numbered_facts h2).2.2.1 hB ht
  | false => rw [form_none h1 h2, site_none h1 h2]; exact siteNil w
theorem implSite (k : Int) (s : ByteArray) (a : Int) (w : World) (hm : ∃ m, w.cell? ⟨2, 0, none⟩ = some (.int .i64 m)) (hB : 1 < w.heap.size) (ht : Lib.TabIs Tryz.prog w "internal/strconv.uint64pow10" .u64 Lib.pow10Tab) (hs : s.size ≤ 1048576) :
  Calls Tryz.prog 50 #[.agg #[.int .i64 k, .string s, .int .i64 a]] w fun e w' => e = .returned (.string (mk (siteT k s a))) ∧ Below w.heap.size w w' := by
 have hlt : 2 < w.heap.size := by
  obtain ⟨m, hm⟩ := hm
  exact cell_lt hm
 have HM : Hid (∀ W, Below w.heap.size w W → ∃ m, W.cell? ⟨2, 0, none⟩ = some (.int .i64 m)) := by
  obtain ⟨m, hm⟩ := hm
  intro W b
  exact ⟨m, (b.cell (p := ⟨2, 0, none⟩) hlt).trans hm⟩
 have HF : Hid (∀ W, Below w.heap.size w W → Calls Tryz.prog 77 #[.agg #[.int .i64 k, .string s, .int .i64 a]] W fun e w' => e = .returned (formV k s a) ∧ Below W.heap.size W w') := fun W b => hostFormOf k s a W (HM.out W b) hs
 have HS : Hid (∀ W, Below w.heap.size w W → Calls Tryz.prog 76 #[formV k s a] W fun e w' => e = .returned (.string (mk (siteT k s a))) ∧ Below W.heap.size W w') := fun W b => siteOf k s a W (HM.out W b) (Nat.lt_of_lt_of_le hB b.size) (tab_below ht b hB)
 generalize formV k s a = f at *
 generalize mk (siteT k s a) = r at *
 clear hm ht HM
 go_enter Tryz.func50, Tryz.ntmps50
 go_wp2_with fail
 refine (HF.out _ ((Below.refl _ w).alloc (Nat.le_refl _) _)).mono ?_
 rintro e W1 ⟨rfl, b1⟩
 have B1 : Below w.heap.size w W1 := box_below b1
 clear b1
 go_wp2_with fail
 refine (HS.out _ B1).mono ?_
 rintro e W2 ⟨rfl, b2⟩
 have B2 : Below w.heap.size w W2 := B1.trans (b2.mono B1.size)
 clear b2
 go_wp2
 go_ret
 exact ⟨rfl, B2⟩
end Go.Proofs.YtfcbjdooijhibaaGreatDoor
end
section
namespace Go.Proofs.YtfcbjdooijhibaaGreatDoor
open Go.RowKit Go.Shelf
theorem implSiteNo (p q : P) (a a' : Option Addr) (n n' c c' : Nat) (w : World) (hL : Lean1 w) (hS : StrsOf a n p.ps w) (hS' : StrsOf a' n' q.ps w) (hs : p.tot ≤ 1048576) (hs' : q.tot ≤ 1048576) (hpo : p.po ≤ 9223372036854775807) (hpo' : q.po ≤ 9223372036854775807) (hp : ¬ okP p) :
  Calls Tryz.prog 23 #[.agg (p.cells (.slice a n c)), .agg (q.cells (.slice a' n' c'))] w fun e w' => e = .returned (.bool false) ∧ Below w.heap.size w w' := by
 have COA : Hid (∀ W, Below w.heap.size w W → Calls Tryz.prog 27 #[.agg (p.cells (.slice a n c))] W fun e w' => e = .returned (.bool false) ∧ Below W.heap.size W w') := fun W d => implUrlOk p a n c W (hL.below d) (hS.later d) hs hpo false (by simp [hp])
 obtain ⟨V, hV⟩ : ∃ V, V = ((w.alloc (.cells (p.cells (.slice a n c)) 27)).alloc (.cells (q.cells (.slice a' n' c')) 27)) := ⟨_, rfl⟩
 have HT : Hid (Tw w (p.cells (.slice a n c)) (q.cells (.slice a' n' c')) V) := by show Tw _ _ _ _; rw [hV]; exact Tw.start w _ _
 have HK : Hid (Tw w (p.cells (.slice a n c)) (q.cells (.slice a' n' c')) V) := by show Tw _ _ _ _; rw [hV]; exact Tw.start w _ _
 clear hS hS' hs hs' hpo hpo' hp  hL
 unfold P.cells at *
 go_enter Tryz.func23, Tryz.ntmps23
 go_upto_region 1 with fail
 rw [← hV]
 clear hV
 obtain ⟨k0, k1, k2, k3, k4, k5, k6, k7, k8, k9, k10, k11, k12⟩ := Blk.cells13a HK.out.b1
 obtain ⟨j0, j1, j2, j3, j4, j5, j6, j7, j8, j9, j10, j11, j12⟩ := Blk.cells13a HK.out.b2
 clear HK
 go_wp2_with fail
 refine (COA.out _ HT.out.bw).mono ?_
 rintro e W1 ⟨rfl, d1⟩
 have HT2 := HT.out.later d1
 clear HT d1 k0 k1 k2 k3 k4 k5 k6 k7 k8 k9 k10 k11 k12 j0 j1 j2 j3 j4 j5 j6 j7 j8 j9 j10 j11 j12
 have HT : Hid (Tw w (p.cells (.slice a n c)) (q.cells (.slice a' n' c')) W1) := HT2
 clear HT2
 obtain ⟨k0, k1, k2, k3, k4, k5, k6, k7, k8, k9, k10, k11, k12⟩ := Blk.cells13a HT.out.b1
 obtain ⟨j0, j1, j2, j3, j4, j5, j6, j7, j8, j9, j10, j11, j12⟩ := Blk.cells13a HT.out.b2
 clear k0 k1 k2 k3 k4 k5 k6 k7 k8 k9 k10 k11 k12 j0 j1 j2 j3 j4 j5 j6 j7 j8 j9 j10 j11 j12
 go_wp2
 go_ret
 exact ⟨rfl, HT.out.bw⟩
theorem implSiteHalf (p q : P) (a a' : Option Addr) (n n' c c' : Nat) (w : World) (hL : Lean1 w) (hS : StrsOf a n p.ps w) (hS' : StrsOf a' n' q.ps w) (hs : p.tot ≤ 1048576) (hs' : q.tot ≤ 1048576) (hpo : p.po ≤ 9223372036854775807) (hpo' : q.po ≤ 9223372036854775807) (hp : okP p) (hq : ¬ okP q) :
  Calls Tryz.prog 23 #[.agg (p.cells (.slice a n c)), .agg (q.cells (.slice a' n' c'))] w fun e w' => e = .returned (.bool false) ∧ Below w.heap.size w w' := by
 have COA : Hid (∀ W, Below w.heap.size w W → Calls Tryz.prog 27 #[.agg (p.cells (.slice a n c))] W fun e w' => e = .returned (.bool true) ∧ Below W.heap.size W w') := fun W d => implUrlOk p a n c W (hL.below d) (hS.later d) hs hpo true (by simp [hp])
 have COB : Hid (∀ W, Below w.heap.size w W → Calls Tryz.prog 27 #[.agg (q.cells (.slice a' n' c'))] W fun e w' => e = .returned (.bool false) ∧ Below W.heap.size W w') := fun W d => implUrlOk q a' n' c' W (hL.below d) (hS'.later d) hs' hpo' false (by simp [hq])
 obtain ⟨V, hV⟩ : ∃ V, V = ((w.alloc (.cells (p.cells (.slice a n c)) 27)).alloc (.cells (q.cells (.slice a' n' c')) 27)) := ⟨_, rfl⟩
 have HT : Hid (Tw w (p.cells (.slice a n c)) (q.cells (.slice a' n' c')) V) := by show Tw _ _ _ _; rw [hV]; exact Tw.start w _ _
 have HK : Hid (Tw w (p.cells (.slice a n c)) (q.cells (.slice a' n' c')) V) := by show Tw _ _ _ _; rw [hV]; exact Tw.start w _ _
 clear hS hS' hs hs' hpo hpo' hp hq hL
 unfold P.cells at *
 go_enter Tryz.func23, Tryz.ntmps23
 go_upto_region 1 with fail
 rw [← hV]
 clear hV
 obtain ⟨k0, k1, k2, k3, k4, k5, k6, k7, k8, k9, k10, k11, k12⟩ := Blk.cells13a HK.out.b1
 obtain ⟨j0, j1, j2, j3, j4, j5, j6, j7, j8, j9, j10, j11, j12⟩ := Blk.cells13a HK.out.b2
 clear HK
 go_wp2_with fail
 refine (COA.out _ HT.out.bw).mono ?_
 rintro e W1 ⟨rfl, d1⟩
 have HT2 := HT.out.later d1
 clear HT d1 k0 k1 k2 k3 k4 k5 k6 k7 k8 k9 k10 k11 k12 j0 j1 j2 j3 j4 j5 j6 j7 j8 j9 j10 j11 j12
 have HT : Hid (Tw w (p.cells (.slice a n c)) (q.cells (.slice a' n' c')) W1) := HT2
 clear HT2
 obtain ⟨k0, k1, k2, k3, k4, k5, k6, k7, k8, k9, k10, k11, k12⟩ := Blk.cells13a HT.out.b1
 obtain ⟨j0, j1, j2, j3, j4, j5, j6, j7, j8, j9, j10, j11, j12⟩ := Blk.cells13a HT.out.b2
 go_wp2_with fail
 refine (COB.out _ HT.out.bw).mono ?_
 rintro e W2 ⟨rfl, d1⟩
 have HT2 := HT.out.later d1
 clear HT d1 k0 k1 k2 k3 k4 k5 k6 k7 k8 k9 k10 k11 k12 j0 j1 j2 j3 j4 j5 j6 j7 j8 j9 j10 j11 j12
 have HT : Hid (Tw w (p.cells (.slice a n c)) (q.cells (.slice a' n' c')) W2) := HT2
 clear HT2
 obtain ⟨k0, k1, k2, k3, k4, k5, k6, k7, k8, k9, k10, k11, k12⟩ := Blk.cells13a HT.out.b1
 obtain ⟨j0, j1, j2, j3, j4, j5, j6, j7, j8, j9, j10, j11, j12⟩ := Blk.cells13a HT.out.b2
 clear k0 k1 k2 k3 k4 k5 k6 k7 k8 k9 k10 k11 k12 j0 j1 j2 j3 j4 j5 j6 j7 j8 j9 j10 j11 j12
 go_wp2
 go_ret
 exact ⟨rfl, HT.out.bw⟩
theorem implSiteNoHost (p q : P) (a a' : Option Addr) (n n' c c' : Nat) (w : World) (hL : Lean1 w) (hS : StrsOf a n p.ps w) (hS' : StrsOf a' n' q.ps w) (hs : p.tot ≤ 1048576) (hs' : q.tot ≤ 1048576) (hpo : p.po ≤ 9223372036854775807) (hpo' : q.po ≤ 9223372036854775807) (hp : okP p) (hq : okP q) (ho : ¬ 0 ≤ ownZ p.sc) :
  Calls Tryz.prog 23 #[.agg (p.cells (.slice a n c)), .agg (q.cells (.slice a' n' c'))] w fun e w' => e = .returned (.bool false) ∧ Below w.heap.size w w' := by
 have COA : Hid (∀ W, Below w.heap.size w W → Calls Tryz.prog 27 #[.agg (p.cells (.slice a n c))] W fun e w' => e = .returned (.bool true) ∧ Below W.heap.size W w') := fun W d => implUrlOk p a n c W (hL.below d) (hS.later d) hs hpo true (by simp [hp])
 have COB : Hid (∀ W, Below w.heap.size w W → Calls Tryz.prog 27 #[.agg (q.cells (.slice a' n' c'))] W fun e w' => e = .returned (.bool true) ∧ Below W.heap.size W w') := fun W d => implUrlOk q a' n' c' W (hL.below d) (hS'.later d) hs' hpo' true (by simp [hq])
 have COH : Hid (∀ W, Calls Tryz.prog 45 #[.agg (p.cells (.slice a n c))] W fun e w' => e = .returned (.bool false) ∧ Below W.heap.size W w') := fun W => by
  have := hasHost (p.u (.slice a n c)) W
  rw [show decide (0 ≤ ownZ (p.u (.slice a n c)).sc) = false from decide_eq_false ho] at this
  exact this
 obtain ⟨V, hV⟩ : ∃ V, V = ((w.alloc (.cells (p.cells (.slice a n c)) 27)).alloc (.cells (q.cells (.slice a' n' c')) 27)) := ⟨_, rfl⟩
 have HT : Hid (Tw w (p.cells (.slice a n c)) (q.cells (.slice a' n' c')) V) := by show Tw _ _ _ _; rw [hV]; exact Tw.start w _ _
 have HK : Hid (Tw w (p.cells (.slice a n c)) (q.cells (.slice a' n' c')) V) := by show Tw _ _ _ _; rw [hV]; exact Tw.start w _ _
 clear hS hS' hs hs' hpo hpo' hp hq ho hL
 unfold P.cells at *
 go_enter Tryz.func23, Tryz.ntmps23
 go_upto_region 1 with fail
 rw [← hV]
 clear hV
 obtain ⟨k0, k1, k2, k3, k4, k5, k6, k7, k8, k9, k10, k11, k12⟩ := Blk.cells13a HK.out.b1
 obtain ⟨j0, j1, j2, j3, j4, j5, j6, j7, j8, j9, j10, j11, j12⟩ := Blk.cells13a HK.out.b2
 clear HK
 go_wp2_with fail
 refine (COA.out _ HT.out.bw).mono ?_
 rintro e W1 ⟨rfl, d1⟩
 have HT2 := HT.out.later d1
 clear HT d1 k0 k1 k2 k3 k4 k5 k6 k7 k8 k9 k10 k11 k12 j0 j1 j2 j3 j4 j5 j6 j7 j8 j9 j10 j11 j12
 have HT : Hid (Tw w (p.cells (.slice a n c)) (q.cells (.slice a' n' c')) W1) := HT2
 clear HT2
 obtain ⟨k0, k1, k2, k3, k4, k5, k6, k7, k8, k9, k10, k11, k12⟩ := Blk.cells13a HT.out.b1
 obtain ⟨j0, j1, j2, j3, j4, j5, j6, j7, j8, j9, j10, j11, j12⟩ := Blk.cells13a HT.out.b2
 go_wp2_with fail
 refine (COB.out _ HT.out.bw).mono ?_
 rintro e W2 ⟨rfl, d1⟩
 have HT2 := HT.out.later d1
 clear HT d1 k0 k1 k2 k3 k4 k5 k6 k7 k8 k9 k10 k11 k12 j0 j1 j2 j3 j4 j5 j6 j7 j8 j9 j10 j11 j12
 have HT : Hid (Tw w (p.cells (.slice a n c)) (q.cells (.slice a' n' c')) W2) := HT2
 clear HT2
 obtain ⟨k0, k1, k2, k3, k4, k5, k6, k7, k8, k9, k10, k11, k12⟩ := Blk.cells13a HT.out.b1
 obtain ⟨j0, j1, j2, j3, j4, j5, j6, j7, j8, j9, j10, j11, j12⟩ := Blk.cells13a HT.out.b2
 go_wp2_with fail
 refine (COH.out _).mono ?_
 rintro e W3 ⟨rfl, d1⟩
 have HT2 := HT.out.later d1
 clear HT d1 k0 k1 k2 k3 k4 k5 k6 k7 k8 k9 k10 k11 k12 j0 j1 j2 j3 j4 j5 j6 j7 j8 j9 j10 j11 j12
 have HT : Hid (Tw w (p.cells (.slice a n c)) (q.cells (.slice a' n' c')) W3) := HT2
 clear HT2
 obtain ⟨k0, k1, k2, k3, k4, k5, k6, k7, k8, k9, k10, k11, k12⟩ := Blk.cells13a HT.out.b1
 obtain ⟨j0, j1, j2, j3, j4, j5, j6, j7, j8, j9, j10, j11, j12⟩ := Blk.cells13a HT.out.b2
 clear k0 k1 k2 k3 k4 k5 k6 k7 k8 k9 k10 k11 k12 j0 j1 j2 j3 j4 j5 j6 j7 j8 j9 j10 j11 j12
 go_wp2
 go_ret
 exact ⟨rfl, HT.out.bw⟩
theorem implSiteUnlike (p q : P) (a a' : Option Addr) (n n' c c' : Nat) (w : World) (hL : Lean1 w) (hS : StrsOf a n p.ps w) (hS' : StrsOf a' n' q.ps w) (hs : p.tot ≤ 1048576) (hs' : q.tot ≤ 1048576) (hpo : p.po ≤ 9223372036854775807) (hpo' : q.po ≤ 9223372036854775807) (hp : okP p) (hq : okP q) (ho : 0 ≤ ownZ p.sc) (hsc : p.sc ≠ q.sc) :
  Calls Tryz.prog 23 #[.agg (p.cells (.slice a n c)), .agg (q.cells (.slice a' n' c'))] w fun e w' => e = .returned (.bool false) ∧ Below w.heap.size w w' := by
 have COA : Hid (∀ W, Below w.heap.size w W → Calls Tryz.prog 27 #[.agg (p.cells (.slice a n c))] W fun e w' => e = .returned (.bool true) ∧ Below W.heap.size W w') := fun W d => implUrlOk p a n c W (hL.below d) (hS.later d) hs hpo true (by simp [hp])
 have COB : Hid (∀ W, Below w.heap.size w W → Calls Tryz.prog 27 #[.agg (q.cells (.slice a' n' c'))] W fun e w' => e = .returned (.bool true) ∧ Below W.heap.size W w') := fun W d => implUrlOk q a' n' c' W (hL.below d) (hS'.later d) hs' hpo' true (by simp [hq])
 have COH : Hid (∀ W, Calls Tryz.prog 45 #[.agg (p.cells (.slice a n c))] W fun e w' => e = .returned (.bool true) ∧ Below W.heap.size W w') := fun W => by
  have := hasHost (p.u (.slice a n c)) W
  rw [show decide (0 ≤ ownZ (p.u (.slice a n c)).sc) = true from decide_eq_true ho] at this
  exact this
 have HSC : Hid ((p.sc.toList == q.sc.toList) = false) := tlb_ne hsc
 obtain ⟨V, hV⟩ : ∃ V, V = ((w.alloc (.cells (p.cells (.slice a n c)) 27)).alloc (.cells (q.cells (.slice a' n' c')) 27)) := ⟨_, rfl⟩
 have HT : Hid (Tw w (p.cells (.slice a n c)) (q.cells (.slice a' n' c')) V) := by show Tw _ _ _ _; rw [hV]; exact Tw.start w _ _
 have HK : Hid (Tw w (p.cells (.slice a n c)) (q.cells (.slice a' n' c')) V) := by show Tw _ _ _ _; rw [hV]; exact Tw.start w _ _
 clear hS hS' hs hs' hpo hpo' hp hq ho hsc hL
 unfold P.cells at *
 go_enter Tryz.func23, Tryz.ntmps23
 go_upto_region 1 with fail
 rw [← hV]
 clear hV
 obtain ⟨k0, k1, k2, k3, k4, k5, k6, k7, k8, k9, k10, k11, k12⟩ := Blk.cells13a HK.out.b1
 obtain ⟨j0, j1, j2, j3, j4, j5, j6, j7, j8, j9, j10, j11, j12⟩ := Blk.cells13a HK.out.b2
 clear HK
 go_wp2_with fail
 refine (COA.out _ HT.out.bw).mono ?_
 rintro e W1 ⟨rfl, d1⟩
 have HT2 := HT.out.later d1
 clear HT d1 k0 k1 k2 k3 k4 k5 k6 k7 k8 k9 k10 k11 k12 j0 j1 j2 j3 j4 j5 j6 j7 j8 j9 j10 j11 j12
 have HT : Hid (Tw w (p.cells (.slice a n c)) (q.cells (.slice a' n' c')) W1) := HT2
 clear HT2
 obtain ⟨k0, k1, k2, k3, k4, k5, k6, k7, k8, k9, k10, k11, k12⟩ := Blk.cells13a HT.out.b1
 obtain ⟨j0, j1, j2, j3, j4, j5, j6, j7, j8, j9, j10, j11, j12⟩ := Blk.cells13a HT.out.b2
 go_wp2_with fail
 refine (COB.out _ HT.out.bw).mono ?_
 rintro e W2 ⟨rfl, d1⟩
 have HT2 := HT.out.later d1
 clear HT d1 k0 k1 k2 k3 k4 k5 k6 k7 k8 k9 k10 k11 k12 j0 j1 j2 j3 j4 j5 j6 j7 j8 j9 j10 j11 j12
 have HT : Hid (Tw w (p.cells (.slice a n c)) (q.cells (.slice a' n' c')) W2) := HT2
 clear HT2
 obtain ⟨k0, k1, k2, k3, k4, k5, k6, k7, k8, k9, k10, k11, k12⟩ := Blk.cells13a HT.out.b1
 obtain ⟨j0, j1, j2, j3, j4, j5, j6, j7, j8, j9, j10, j11, j12⟩ := Blk.cells13a HT.out.b2
 go_wp2_with fail
 refine (COH.out _).mono ?_
 rintro e W3 ⟨rfl, d1⟩
 have HT2 := HT.out.later d1
 clear HT d1 k0 k1 k2 k3 k4 k5 k6 k7 k8 k9 k10 k11 k12 j0 j1 j2 j3 j4 j5 j6 j7 j8 j9 j10 j11 j12
 have HT : Hid (Tw w (p.cells (.slice a n c)) (q.cells (.slice a' n' c')) W3) := HT2
 clear HT2
 obtain ⟨k0, k1, k2, k3, k4, k5, k6, k7, k8, k9, k10, k11, k12⟩ := Blk.cells13a HT.out.b1
 obtain ⟨j0, j1, j2, j3, j4, j5, j6, j7, j8, j9, j10, j11, j12⟩ := Blk.cells13a HT.out.b2
 have HS : Hid (∀ W, Below W3.heap.size W3 W → Tw w (p.cells (.slice a n c)) (q.cells (.slice a' n' c')) W ∧ (fun W => Below w.heap.size w W ∧ Sc w.heap.size p a n c W ∧ Sc (w.heap.size + 1) q a' n' c' W) W) := fun W d => ⟨HT.out.later d, (HT.out.later d).bw, Sc.of (HT.out.later d).b1, Sc.of (HT.out.later d).b2⟩
 go_wp2
 refine wp_region_held_drew (S := (fun W => Below w.heap.size w W ∧ Sc w.heap.size p a n c W ∧ Sc (w.heap.size + 1) q a' n' c' W)) (by kernel_rfl) ((HS.out _ (Below.refl _ _).drew).2) (fun hHeld => ?_)
 refine tk 0 rfl (by kernel_rfl) (fun _ _ _ h => h) (by rfl) (fun w hSw => by (try dsimp only [Sc] at hSw); go_simp; try (with_reducible rfl)) (by assumption) ?_
 simp only [Act.put, x1, x2, x3, x4, x5, x6]
 refine tk 1 rfl (by kernel_rfl) (fun _ _ _ h => h) (by rfl) (fun w hSw => by (try dsimp only [Sc] at hSw); go_simp; try (with_reducible rfl)) (by assumption) ?_
 simp only [Act.put, x1, x2, x3, x4, x5, x6]
 refine tk 2 rfl (by kernel_rfl) (fun _ _ _ h => h) (by rfl) (fun w hSw => by (try dsimp only [Sc] at hSw); go_simp; try (with_reducible rfl)) (by assumption) ?_
 simp only [Act.put, x1, x2, x3, x4, x5, x6]
 refine tk 3 rfl (by kernel_rfl) (fun _ _ _ h => h) (by rfl) (fun w hSw => by (try dsimp only [Sc] at hSw); go_simp; try (with_reducible rfl)) (by assumption) ?_
 simp only [Act.put, x1, x2, x3, x4, x5, x6]
 refine tk (v := .bool false) 4 rfl (by kernel_rfl) (fun _ _ _ h => h) (by rfl) (fun w hSw => by (try dsimp only [Sc] at hSw); go_simp; first | exact HSC.out | (have h := HSC.out; simpa using h)) (by assumption) ?_
 simp only [Act.put, x1, x2, x3, x4, x5, x6]
 refine tk 5 rfl (by kernel_rfl) (fun _ _ _ h => h) (by rfl) (fun w hSw => by (try dsimp only [Sc] at hSw); go_simp; try (with_reducible rfl)) (by assumption) ?_
 simp only [Act.put, x1, x2, x3, x4, x5, x6]
 refine wpAnyH_take (i := 6) (oi := _) (v := undef) rfl (by kernel_rfl) (by kernel_rfl) (by kernel_rfl) (fun _ _ _ h => h) (Or.inr ⟨by simp [Region.wanted, yielded, undef, Act.put], rfl⟩) (by assumption) ?_
 refine wpAnyH_take (i := 7) (oi := _) (v := undef) rfl (by kernel_rfl) (by kernel_rfl) (by kernel_rfl) (fun _ _ _ h => h) (Or.inr ⟨by simp [Region.wanted, yielded, undef, Act.put], rfl⟩) (by assumption) ?_
 refine wpAnyH_take (i := 8) (oi := _) (v := undef) rfl (by kernel_rfl) (by kernel_rfl) (by kernel_rfl) (fun _ _ _ h => h) (Or.inr ⟨by simp [Region.wanted, yielded, undef, Act.put], rfl⟩) (by assumption) ?_
 refine wpAnyH_take (i := 9) (oi := _) (v := undef) rfl (by kernel_rfl) (by kernel_rfl) (by kernel_rfl) (fun _ _ _ h => h) (Or.inr ⟨by simp [Region.wanted, yielded, undef, Act.put], rfl⟩) (by assumption) ?_
 refine wpAnyH_take (i := 10) (oi := _) (v := undef) rfl (by kernel_rfl) (by kernel_rfl) (by kernel_rfl) (fun _ _ _ h => h) (Or.inr ⟨by simp [Region.wanted, yielded, undef, Act.put], rfl⟩) (by assumption) ?_
 refine wpAnyH_take (i := 11) (oi := _) (v := undef) rfl (by kernel_rfl) (by kernel_rfl) (by kernel_rfl) (fun _ _ _ h => h) (Or.inr ⟨by simp [Region.wanted, yielded, undef, Act.put], rfl⟩) (by assumption) ?_
 refine wpAnyH_take (i := 12) (oi := _) (v := undef) rfl (by kernel_rfl) (by kernel_rfl) (by kernel_rfl) (fun _ _ _ h => h) (Or.inr ⟨by simp [Region.wanted, yielded, undef, Act.put], rfl⟩) (by assumption) ?_
 simp only [Act.put, x1, x2, x3, x4, x5, x6]
 refine tk 13 rfl (by kernel_rfl) (fun _ _ _ h => h) (by rfl) (fun w hSw => by (try dsimp only [Sc] at hSw); go_simp; try (with_reducible rfl)) (by assumption) ?_
 simp only [Act.put, x1, x2, x3, x4, x5, x6]
 refine tk 14 rfl (by kernel_rfl) (fun _ _ _ h => h) (by rfl) (fun w hSw => by (try dsimp only [Sc] at hSw); go_simp; try (with_reducible rfl)) (by assumption) ?_
 simp only [Act.put, x1, x2, x3, x4, x5, x6]
 refine wpAnyH_done (by kernel_rfl) ?_ _
 clear k0 k1 k2 k3 k4 k5 k6 k7 k8 k9 k10 k11 k12 j0 j1 j2 j3 j4 j5 j6 j7 j8 j9 j10 j11 j12
 go_wp2
 go_ret
 exact ⟨rfl, hHeld.1⟩
theorem implSiteYes (p q : P) (a a' : Option Addr) (n n' c c' : Nat) (w : World) (hL : Lean1 w) (hS : StrsOf a n p.ps w) (hS' : StrsOf a' n' q.ps w) (hs : p.tot ≤ 1048576) (hs' : q.tot ≤ 1048576) (hpo : p.po ≤ 9223372036854775807) (hpo' : q.po ≤ 9223372036854775807) (hp : okP p) (hq : okP q) (ho : 0 ≤ ownZ p.sc) (hsc : p.sc = q.sc) (t1 t2 : ByteArray) (ht1 : t1 = mk (siteT p.hk p.hn p.ha)) (ht2 : t2 = mk (siteT q.hk q.hn q.ha)) (x : Bool) (hx : x = true ↔ t1 = t2) :
  Calls Tryz.prog 23 #[.agg (p.cells (.slice a n c)), .agg (q.cells (.slice a' n' c'))] w fun e w' => e = .returned (.bool x) ∧ Below w.heap.size w w' := by
 have COA : Hid (∀ W, Below w.heap.size w W → Calls Tryz.prog 27 #[.agg (p.cells (.slice a n c))] W fun e w' => e = .returned (.bool true) ∧ Below W.heap.size W w') := fun W d => implUrlOk p a n c W (hL.below d) (hS.later d) hs hpo true (by simp [hp])
 have COB : Hid (∀ W, Below w.heap.size w W → Calls Tryz.prog 27 #[.agg (q.cells (.slice a' n' c'))] W fun e w' => e = .returned (.bool true) ∧ Below W.heap.size W w') := fun W d => implUrlOk q a' n' c' W (hL.below d) (hS'.later d) hs' hpo' true (by simp [hq])
 have COH : Hid (∀ W, Calls Tryz.prog 45 #[.agg (p.cells (.slice a n c))] W fun e w' => e = .returned (.bool true) ∧ Below W.heap.size W w') := fun W => by
  have := hasHost (p.u (.slice a n c)) W
  rw [show decide (0 ≤ ownZ (p.u (.slice a n c)).sc) = true from decide_eq_true ho] at this
  exact this
 have CSA : Hid (∀ W, Below w.heap.size w W → Calls Tryz.prog 50 #[.agg #[.int .i64 p.hk, .string p.hn, .int .i64 p.ha]] W fun e w' => e = .returned (.string t1) ∧ Below W.heap.size W w') := fun W d => by rw [ht1]; exact implSite p.hk p.hn p.ha W (hL.below d).base.mx (hL.below d).base.lt (hL.below d).base.tab (by have : p.hn.size ≤ p.tot := (by unfold P.tot; omega); omega)
 have CSB : Hid (∀ W, Below w.heap.size w W → Calls Tryz.prog 50 #[.agg #[.int .i64 q.hk, .string q.hn, .int .i64 q.ha]] W fun e w' => e = .returned (.string t2) ∧ Below W.heap.size W w') := fun W d => by rw [ht2]; exact implSite q.hk q.hn q.ha W (hL.below d).base.mx (hL.below d).base.lt (hL.below d).base.tab (by have : q.hn.size ≤ q.tot := (by unfold P.tot; omega); omega)
 have HSC : Hid ((p.sc.toList == q.sc.toList) = true) := by show _ = _; rw [hsc]; exact beq_self_eq_true _
 have HX : Hid ((t1.toList == t2.toList) = x) := by
  show _ = _
  cases hxx : x with
  | true => rw [hx.1 hxx]; exact beq_self_eq_true _
  | false => exact tlb_ne (fun e => by rw [hx.2 e] at hxx; cases hxx)
 obtain ⟨V, hV⟩ : ∃ V, V = ((w.alloc (.cells (p.cells (.slice a n c)) 27)).alloc (.cells (q.cells (.slice a' n' c')) 27)) := ⟨_, rfl⟩
 have HT : Hid (Tw w (p.cells (.slice a n c)) (q.cells (.slice a' n' c')) V) := by show Tw _ _ _ _; rw [hV]; exact Tw.start w _ _
 have HK : Hid (Tw w (p.cells (.slice a n c)) (q.cells (.slice a' n' c')) V) := by show Tw _ _ _ _; rw [hV]; exact Tw.start w _ _
 clear hS hS' hs hs' hpo hpo' hp hq ho ht1 ht2 hsc hx hL
 unfold P.cells at *
 go_enter Tryz.func23, Tryz.ntmps23
 go_upto_region 1 with fail
 rw [← hV]
 clear hV
 obtain ⟨k0, k1, k2, k3, k4, k5, k6, k7, k8, k9, k10, k11, k12⟩ := Blk.cells13a HK.out.b1
 obtain ⟨j0, j1, j2, j3, j4, j5, j6, j7, j8, j9, j10, j11, j12⟩ := Blk.cells13a HK.out.b2
 clear HK
 go_wp2_with fail
 refine (COA.out _ HT.out.bw).mono ?_
 rintro e W1 ⟨rfl, d1⟩
 have HT2 := HT.out.later d1
 clear HT d1 k0 k1 k2 k3 k4 k5 k6 k7 k8 k9 k10 k11 k12 j0 j1 j2 j3 j4 j5 j6 j7 j8 j9 j10 j11 j12
 have HT : Hid (Tw w (p.cells (.slice a n c)) (q.cells (.slice a' n' c')) W1) := HT2
 clear HT2
 obtain ⟨k0, k1, k2, k3, k4, k5, k6, k7, k8, k9, k10, k11, k12⟩ := Blk.cells13a HT.out.b1
 obtain ⟨j0, j1, j2, j3, j4, j5, j6, j7, j8, j9, j10, j11, j12⟩ := Blk.cells13a HT.out.b2
 go_wp2_with fail
 refine (COB.out _ HT.out.bw).mono ?_
 rintro e W2 ⟨rfl, d1⟩
 have HT2 := HT.out.later d1
 clear HT d1 k0 k1 k2 k3 k4 k5 k6 k7 k8 k9 k10 k11 k12 j0 j1 j2 j3 j4 j5 j6 j7 j8 j9 j10 j11 j12
 have HT : Hid (Tw w (p.cells (.slice a n c)) (q.cells (.slice a' n' c')) W2) := HT2
 clear HT2
 obtain ⟨k0, k1, k2, k3, k4, k5, k6, k7, k8, k9, k10, k11, k12⟩ := Blk.cells13a HT.out.b1
 obtain ⟨j0, j1, j2, j3, j4, j5, j6, j7, j8, j9, j10, j11, j12⟩ := Blk.cells13a HT.out.b2
 go_wp2_with fail
 refine (COH.out _).mono ?_
 rintro e W3 ⟨rfl, d1⟩
 have HT2 := HT.out.later d1
 clear HT d1 k0 k1 k2 k3 k4 k5 k6 k7 k8 k9 k10 k11 k12 j0 j1 j2 j3 j4 j5 j6 j7 j8 j9 j10 j11 j12
 have HT : Hid (Tw w (p.cells (.slice a n c)) (q.cells (.slice a' n' c')) W3) := HT2
 clear HT2
 obtain ⟨k0, k1, k2, k3, k4, k5, k6, k7, k8, k9, k10, k11, k12⟩ := Blk.cells13a HT.out.b1
 obtain ⟨j0, j1, j2, j3, j4, j5, j6, j7, j8, j9, j10, j11, j12⟩ := Blk.cells13a HT.out.b2
 have HS : Hid (∀ W, Below W3.heap.size W3 W → Tw w (p.cells (.slice a n c)) (q.cells (.slice a' n' c')) W ∧ (fun W => Below w.heap.size w W ∧ Sc w.heap.size p a n c W ∧ Sc (w.heap.size + 1) q a' n' c' W) W) := fun W d => ⟨HT.out.later d, (HT.out.later d).bw, Sc.of (HT.out.later d).b1, Sc.of (HT.out.later d).b2⟩
 go_wp2
 refine wp_region_held_drew (S := (fun W => Below w.heap.size w W ∧ Sc w.heap.size p a n c W ∧ Sc (w.heap.size + 1) q a' n' c' W)) (by kernel_rfl) ((HS.out _ (Below.refl _ _).drew).2) (fun hHeld => ?_)
 refine tk 0 rfl (by kernel_rfl) (fun _ _ _ h => h) (by rfl) (fun w hSw => by (try dsimp only [Sc] at hSw); go_simp; try (with_reducible rfl)) (by assumption) ?_
 simp only [Act.put, x1, x2, x3, x4, x5, x6]
 refine tk 1 rfl (by kernel_rfl) (fun _ _ _ h => h) (by rfl) (fun w hSw => by (try dsimp only [Sc] at hSw); go_simp; try (with_reducible rfl)) (by assumption) ?_
 simp only [Act.put, x1, x2, x3, x4, x5, x6]
 refine tk 2 rfl (by kernel_rfl) (fun _ _ _ h => h) (by rfl) (fun w hSw => by (try dsimp only [Sc] at hSw); go_simp; try (with_reducible rfl)) (by assumption) ?_
 simp only [Act.put, x1, x2, x3, x4, x5, x6]
 refine tk 3 rfl (by kernel_rfl) (fun _ _ _ h => h) (by rfl) (fun w hSw => by (try dsimp only [Sc] at hSw); go_simp; try (with_reducible rfl)) (by assumption) ?_
 simp only [Act.put, x1, x2, x3, x4, x5, x6]
 refine tk (v := .bool true) 4 rfl (by kernel_rfl) (fun _ _ _ h => h) (by rfl) (fun w hSw => by (try dsimp only [Sc] at hSw); go_simp; first | exact HSC.out | (have h := HSC.out; simpa using h)) (by assumption) ?_
 simp only [Act.put, x1, x2, x3, x4, x5, x6]
 refine tk 5 rfl (by kernel_rfl) (fun _ _ _ h => h) (by rfl) (fun w hSw => by (try dsimp only [Sc] at hSw); go_simp; try (with_reducible rfl)) (by assumption) ?_
 simp only [Act.put, x1, x2, x3, x4, x5, x6]
 refine tk 6 rfl (by kernel_rfl) (fun _ _ _ h => h) (by rfl) (fun w hSw => by (try dsimp only [Sc] at hSw); go_simp; try (with_reducible rfl)) (by assumption) ?_
 simp only [Act.put, x1, x2, x3, x4, x5, x6]
 refine tk 7 rfl (by kernel_rfl) (fun _ _ _ h => h) (by rfl) (fun w hSw => by (try dsimp only [Sc] at hSw); go_simp; try (with_reducible rfl)) (by assumption) ?_
 simp only [Act.put, x1, x2, x3, x4, x5, x6]
 refine tk 9 rfl (by kernel_rfl) (fun _ _ _ h => h) (by rfl) (fun w hSw => by (try dsimp only [Sc] at hSw); go_simp; try (with_reducible rfl)) (by assumption) ?_
 simp only [Act.put, x1, x2, x3, x4, x5, x6]
 refine tk 10 rfl (by kernel_rfl) (fun _ _ _ h => h) (by rfl) (fun w hSw => by (try dsimp only [Sc] at hSw); go_simp; try (with_reducible rfl)) (by assumption) ?_
 simp only [Act.put, x1, x2, x3, x4, x5, x6]
 refine wpAnyH_ready (rs := [8]) (by kernel_rfl) (by simp) ?_
 refine AllReadyH.cons (o := _) rfl (fun K hK => ?_) AllReadyH.nil
 go_simp
 refine (CSA.out _ (HS.out _ ((Below.refl _ _).drew)).1.bw).mono ?_
 rintro e W4 ⟨rfl, d4⟩
 have D4 : Hid (Below W3.heap.size W3 W4) := ((Below.refl _ W3).drew).trans d4
 refine hK.out _ _ ((HS.out _ D4.out).2) (fun hHeld => ?_)
 clear hK K
 try simp only [Act.put, x1, x2, x3, x4, x5, x6]
 refine wpAnyH_ready (rs := [11]) (by kernel_rfl) (by simp) ?_
 refine AllReadyH.cons (o := _) rfl (fun K hK => ?_) AllReadyH.nil
 go_simp
 refine (CSB.out _ (HS.out _ D4.out).1.bw).mono ?_
 rintro e W5 ⟨rfl, d5⟩
 have D5 : Hid (Below W3.heap.size W3 W5) := D4.out.trans (d5.mono D4.out.size)
 refine hK.out _ _ ((HS.out _ D5.out).2) (fun hHeld => ?_)
 clear hK K
 try simp only [Act.put, x1, x2, x3, x4, x5, x6]
 refine tk (v := .bool x) 12 rfl (by kernel_rfl) (fun _ _ _ h => h) (by rfl) (fun w hSw => by (try dsimp only [Sc] at hSw); go_simp; first | exact HX.out | (have h := HX.out; simpa using h)) (by assumption) ?_
 simp only [Act.put, x1, x2, x3, x4, x5, x6]
 refine tk 13 rfl (by kernel_rfl) (fun _ _ _ h => h) (by rfl) (fun w hSw => by (try dsimp only [Sc] at hSw); go_simp; try (with_reducible rfl)) (by assumption) ?_
 simp only [Act.put, x1, x2, x3, x4, x5, x6]
 refine tk 14 rfl (by kernel_rfl) (fun _ _ _ h => h) (by rfl) (fun w hSw => by (try dsimp only [Sc] at hSw); go_simp; try (with_reducible rfl)) (by assumption) ?_
 simp only [Act.put, x1, x2, x3, x4, x5, x6]
 refine wpAnyH_done (by kernel_rfl) ?_ _
 clear k0 k1 k2 k3 k4 k5 k6 k7 k8 k9 k10 k11 k12 j0 j1 j2 j3 j4 j5 j6 j7 j8 j9 j10 j11 j12
 go_wp2
 go_ret
 exact ⟨rfl, hHeld.1⟩
theorem implSiteSame (p q : P) (a a' : Option Addr) (n n' c c' : Nat) (w : World) (hL : Lean1 w) (hS : StrsOf a n p.ps w) (hS' : StrsOf a' n' q.ps w) (hs : p.tot ≤ 1048576) (hs' : q.tot ≤ 1048576) (hpo : p.po ≤ 9223372036854775807) (hpo' : q.po ≤ 9223372036854775807) (x : Bool) (hx : x = true ↔ okP p ∧ okP q ∧ 0 ≤ ownZ p.sc ∧ p.sc = q.sc ∧ siteT p.hk p.hn p.ha = siteT q.hk q.hn q.ha) :
  Calls Tryz.prog 23 #[.agg (p.cells (.slice a n c)), .agg (q.cells (.slice a' n' c'))] w fun e w' => e = .returned (.bool x) ∧ Below w.heap.size w w' := by
 by_cases hp : okP p
 ·by_cases hq : okP q
  ·by_cases ho : 0 ≤ ownZ p.sc
   ·by_cases hsc : p.sc = q.sc
    ·refine implSiteYes p q a a' n n' c c' w hL hS hS' hs hs' hpo hpo' hp hq ho hsc _ _ rfl rfl x ?_
     rw [hx]
     refine ⟨fun h => by rw [h.2.2.2.2], fun e => ⟨hp, hq, ho, hsc, ?_⟩⟩
     have := congrArg (fun b : ByteArray => b.data.toList) e
     simpa only [mk_data] using this
    ·obtain rfl : x = false := by rw [Bool.eq_false_iff]; intro h; exact hsc (hx.1 h).2.2.2.1
     exact implSiteUnlike p q a a' n n' c c' w hL hS hS' hs hs' hpo hpo' hp hq ho hsc
   ·obtain rfl : x = false := by rw [Bool.eq_false_iff]; intro h; exact ho (hx.1 h).2.2.1
    exact implSiteNoHost p q a a' n n' c c' w hL hS hS' hs hs' hpo hpo' hp hq ho
  ·obtain rfl : x = false := by rw [Bool.eq_false_iff]; intro h; exact hq (hx.1 h).2.1
   exact implSiteHalf p q a a' n n' c c' w hL hS hS' hs hs' hpo hpo' hp hq
 ·obtain rfl : x = false := by rw [Bool.eq_false_iff]; intro h; exact hp (hx.1 h).1
  exact implSiteNo p q a a' n n' c c' w hL hS hS' hs hs' hpo hpo' hp
end Go.Proofs.YtfcbjdooijhibaaGreatDoor
end
section
namespace Go.Proofs.YtfcbjdooijhibaaGreatDoor
open Go.RowKit Go.Shelf
theorem specSite (k : Int) (s : ByteArray) (a : Int) (w : World) (hs : s.size ≤ 1048576) :
  Calls Tryz.prog 49 #[.agg #[.int .i64 k, .string s, .int .i64 a]] w fun e w' => e = .returned (.string (mk (siteT k s a))) ∧ Below w.heap.size w w' := by
 have CO : Hid (∀ W, Calls Tryz.prog 74 #[.agg #[.int .i64 k, .string s, .int .i64 a]] W fun e w' => e = .returned (.bool (okH k s a)) ∧ Below W.heap.size W w') := fun W => specOk k s a W hs
 cases h1 : named k s a with
 | true =>
  obtain ⟨rfl, rfl, h60⟩ := named_facts h1
  have hok : okH 1 s 0 = true := by unfold okH; rw [h1]; simp
  rw [site_named h1]
  rw [hok] at CO
  have hl : s.data.toList.length = s.size := by simp
  have CP : Hid (∀ W, Calls Tryz.prog 75 #[.string s] W fun e w' => ∃ g c, e = .returned (.slice (some ⟨g, 0, none⟩) (partsL s.data.toList).length c) ∧ W.heap.size ≤ g ∧ StrsAt g (partsL s.data.toList) w' ∧ Below W.heap.size W w') := fun W => l2Parts s W hs
  have g1 := partsL_ne s.data.toList
  have hll := partsL_len_le s.data.toList
  have hq9 := lastP_le s.data.toList
  have hf9 := foreP_le s.data.toList
  have HQ : Hid (∀ g W, StrsAt g (partsL s.data.toList) W → W.cell? ⟨g, (partsL s.data.toList).length - 1, none⟩ = some (.string (mk (lastP s.data.toList)))) := fun g W h => h.cell _ (by omega)
  have HFC : Hid (∀ g W, StrsAt g (partsL s.data.toList) W → 2 ≤ (partsL s.data.toList).length → W.cell? ⟨g, (partsL s.data.toList).length - 2, none⟩ = some (.string (mk (foreP s.data.toList)))) := fun g W h h2 => foreP_cell _ g W h h2
  have HL1 : Hid ((partsL s.data.toList).length < 2 → mk (siteL s.data.toList) = mk (lastP s.data.toList)) := fun h => by unfold siteL; rw [if_pos h]
  have HL2 : Hid (¬ (partsL s.data.toList).length < 2 → mk (siteL s.data.toList) = mk (foreP s.data.toList) ++ mk [46] ++ mk (lastP s.data.toList)) := fun h => by unfold siteL; rw [if_neg h, mk_app, mk_app, ByteArray.append_assoc]
  have z1 : (mk (lastP s.data.toList)).size ≤ 60 := by rw [mk_size]; omega
  have z2 : (mk (foreP s.data.toList)).size ≤ 60 := by rw [mk_size]; omega
  generalize mk (lastP s.data.toList) = q at *
  generalize mk (foreP s.data.toList) = p at *
  generalize mk (siteL s.data.toList) = r at *
  obtain ⟨n, hn⟩ : ∃ n, (partsL s.data.toList).length = n + 1 := ⟨(partsL s.data.toList).length - 1, by omega⟩
  rw [hn] at CP HQ HFC HL1 HL2 hll
  have hn9 : n ≤ 61 := by omega
  clear hn hll hq9 hf9 hl g1 hok h1
  by_cases h0 : n = 0
  ·have HR : Hid (r = q) := HL1.out (by omega)
   subst h0
   go_enter Tryz.func49, Tryz.ntmps49
   go_wp2_with fail
   refine (CO.out _).mono ?_
   rintro e W1 ⟨rfl, b1⟩
   have B1 : Below w.heap.size w W1 := box_below b1
   have c0 : W1.cell? ⟨w.heap.size, 0, none⟩ = some (.int .i64 1) := box_cell b1 0
   have c1 : W1.cell? ⟨w.heap.size, 1, none⟩ = some (.string s) := box_cell b1 1
   clear b1
   go_wp2_with fail
   refine (CP.out _).mono ?_
   rintro e W2 ⟨g, c, rfl, hg, hS, b2⟩
   have B2 : Hid (Below w.heap.size w W2) := B1.trans (b2.mono B1.size)
   have hc : W2.cell? ⟨g, 0, none⟩ = some (.string q) := HQ.out _ _ hS
   clear b2 B1 c0 c1 hS hg
   go_wp2
   go_ret
   exact ⟨by rw [HR.out]; rfl, B2.out⟩
  ·have HR : Hid (r = p ++ mk [46] ++ q) := HL2.out (by omega)
   obtain ⟨m, hm⟩ : ∃ m, n = m + 1 := ⟨n - 1, by omega⟩
   subst hm
   go_enter Tryz.func49, Tryz.ntmps49
   go_wp2_with fail
   refine (CO.out _).mono ?_
   rintro e W1 ⟨rfl, b1⟩
   have B1 : Below w.heap.size w W1 := box_below b1
   have c0 : W1.cell? ⟨w.heap.size, 0, none⟩ = some (.int .i64 1) := box_cell b1 0
   have c1 : W1.cell? ⟨w.heap.size, 1, none⟩ = some (.string s) := box_cell b1 1
   clear b1
   go_wp2_with fail
   refine (CP.out _).mono ?_
   rintro e W2 ⟨g, c, rfl, hg, hS, b2⟩
   have B2 : Hid (Below w.heap.size w W2) := B1.trans (b2.mono B1.size)
   have hc : W2.cell? ⟨g, m + 1, none⟩ = some (.string q) := HQ.out _ _ hS
   have hc2 : W2.cell? ⟨g, m, none⟩ = some (.string p) := HFC.out _ _ hS (by omega)
   clear b2 B1 c0 c1 hS hg
   have j0 : ¬ ((m : Int) + 1 + 1 < 2) := by omega
   have w2e : IntKind.i64.wrap ((m : Int) + 1 + 1 - 1) = (m : Int) + 1 := by rw [IntKind.wrap_i64]; omega
   have w2f : IntKind.i64.wrap ((m : Int) + 1 + 1 - 2) = (m : Int) := by rw [IntKind.wrap_i64]; omega
   have w3e : IntKind.i64.wrap (m : Int) = (m : Int) := by rw [IntKind.wrap_i64]; omega
   have w4e : IntKind.i64.wrap ((m : Int) + 1) = (m : Int) + 1 := by rw [IntKind.wrap_i64]; omega
   have i1 : (0 : Int) ≤ (m : Int) := by omega
   have i2 : (0 : Int) ≤ (m : Int) + 1 := by omega
   have i3 : (m : Int) + 1 < (m : Int) + 1 + 1 := by omega
   have i4 : (m : Int) < (m : Int) + 1 + 1 := by omega
   have t1 : ((m : Int)).toNat = m := by omega
   have t2 : ((m : Int) + 1).toNat = m + 1 := by omega
   have z3 : ¬ (9223372036854775807 < p.size + 1) := by omega
   have z4 : ¬ (9223372036854775807 < p.size + 1 + q.size) := by omega
   have z5 : p.size + 1 ≤ 9223372036854775807 := by omega
   have z6 : p.size + 1 + q.size ≤ 9223372036854775807 := by omega
   go_wp2
   go_region_held3 (fun W => W.cell? ⟨g, m, none⟩ = some (.string p) ∧ W.cell? ⟨g, m + 1, none⟩ = some (.string q)) (first | (exact ⟨hc2, hc⟩) | assumption) (fail)
   all_goals
    go_wp2
    go_ret
    exact ⟨by rw [HR.out]; rfl, B2.out.drew⟩
 | false =>
  cases h2 : numbered k s a with
  | true =>
   obtain ⟨rfl, g0, g1, _⟩ := numbered_facts h2
   have hok : okH 2 s a = true := by unfold okH; rw [h2]; simp
   have CP : Hid (∀ W, Calls Tryz.prog 64 #[.agg #[.int .i64 2, .string s, .int .i64 a]] W fun e w' => e = .returned (.string (mk (fourT a))) ∧ Below W.heap.size W w') := fun W => specPutFour s a W hok g0 g1 hs
   rw [site_numbered h1 h2]
   rw [hok] at CO
   generalize mk (fourT a) = r at *
   clear h1 h2 hok
   go_enter Tryz.func49, Tryz.ntmps49
   go_wp2_with fail
   refine (CO.out _).mono ?_
   rintro e W1 ⟨rfl, b1⟩
   have B1 : Below w.heap.size w W1 := box_below b1
   have c0 : W1.cell? ⟨w.heap.size, 0, none⟩ = some (.int .i64 2) := box_cell b1 0
   have c1 : W1.cell? ⟨w.heap.size, 1, none⟩ = some (.string s) := box_cell b1 1
   have c2 : W1.cell? ⟨w.heap.size, 2, none⟩ = some (.int .i64 a) := box_cell b1 2
   clear b1
   go_wp2_with fail
   refine (CP.out _).mono ?_
   rintro e W2 ⟨rfl, b2⟩
   have B2 : Below w.heap.size w W2 := B1.trans (b2.mono B1.size)
   clear b2 c0 c1 c2
   go_wp2
   go_ret
   exact ⟨rfl, B2⟩
  | false =>
   rw [site_none h1 h2]
   cases h3 : noneH k s a with
   | true =>
    have hok : okH k s a = true := by unfold okH; rw [h3]; rfl
    have h4 : (k = 0 ∧ a = 0) ∧ s.size = 0 := by
     unfold noneH at h3
     rw [Bool.and_eq_true, decide_eq_true_eq, List.isEmpty_iff] at h3
     refine ⟨h3.1, ?_⟩
     have hl : s.data.toList.length = s.size := by simp
     rw [h3.2] at hl; simpa using hl.symm
    obtain ⟨⟨rfl, rfl⟩, h5⟩ := h4
    have he := zero_text s h5
    subst he
    rw [hok] at CO
    have CP : Hid (∀ W, Calls Tryz.prog 64 #[.agg #[.int .i64 0, .string ⟨#[]⟩, .int .i64 0]] W fun e w' => e = .returned (.string (mk [])) ∧ Below W.heap.size W w') := fun W => specPutNone W
    clear h1 h2 hok h3 h5
    go_enter Tryz.func49, Tryz.ntmps49
    go_wp2_with fail
    refine (CO.out _).mono ?_
    rintro e W1 ⟨rfl, b1⟩
    have B1 : Below w.heap.size w W1 := box_below b1
    have c0 : W1.cell? ⟨w.heap.size, 0, none⟩ = some (.int .i64 0) := box_cell b1 0
    have c1 : W1.cell? ⟨w.heap.size, 1, none⟩ = some (.string ⟨#[]⟩) := box_cell b1 1
    have c2 : W1.cell? ⟨w.heap.size, 2, none⟩ = some (.int .i64 0) := box_cell b1 2
    clear b1
    go_wp2_with fail
    refine (CP.out _).mono ?_
    rintro e W2 ⟨rfl, b2⟩
    have B2 : Below w.heap.size w W2 := B1.trans (b2.mono B1.size)
    clear b2 c0 c1 c2
    go_wp2
    go_ret
    exact ⟨rfl, B2⟩
   | false =>
    have hok : okH k s a = false := by unfold okH; rw [h1, h2, h3]; rfl
    rw [hok] at CO
    clear h1 h2 h3 hok
    go_enter Tryz.func49, Tryz.ntmps49
    go_wp2_with fail
    refine (CO.out _).mono ?_
    rintro e W1 ⟨rfl, b1⟩
    have B1 : Below w.heap.size w W1 := box_below b1
    clear b1
    go_wp2
    go_ret
    exact ⟨rfl, B1⟩
end Go.Proofs.YtfcbjdooijhibaaGreatDoor
end
section
namespace Go.Proofs.YtfcbjdooijhibaaGreatDoor
open Go.RowKit Go.Shelf
theorem specSiteNo (p q : P) (a a' : Option Addr) (n n' c c' : Nat) (w : World) (hS : StrsOf a n p.ps w) (hS' : StrsOf a' n' q.ps w) (hs : p.tot ≤ 1048576) (hs' : q.tot ≤ 1048576) (hpo : p.po ≤ 9223372036854775807) (hpo' : q.po ≤ 9223372036854775807) (hp : ¬ okP p) :
  Calls Tryz.prog 22 #[.agg (p.cells (.slice a n c)), .agg (q.cells (.slice a' n' c'))] w fun e w' => e = .returned (.bool false) ∧ Below w.heap.size w w' := by
 have COA : Hid (∀ W, Below w.heap.size w W → Calls Tryz.prog 12 #[.agg (p.cells (.slice a n c))] W fun e w' => e = .returned (.bool false) ∧ Below W.heap.size W w') := fun W d => specUrlOk p a n c W (hS.later d) hs hpo false (by simp [hp])
 obtain ⟨V, hV⟩ : ∃ V, V = ((w.alloc (.cells (p.cells (.slice a n c)) 27)).alloc (.cells (q.cells (.slice a' n' c')) 27)) := ⟨_, rfl⟩
 have HT : Hid (Tw w (p.cells (.slice a n c)) (q.cells (.slice a' n' c')) V.drew) := by rw [hV]; exact (Tw.start w _ _).later (Below.refl _ _).drew
 have HK : Hid (Tw w (p.cells (.slice a n c)) (q.cells (.slice a' n' c')) V) := by show Tw _ _ _ _; rw [hV]; exact Tw.start w _ _
 have HK0 := HK
 clear hS hS' hs hs' hpo hpo' hp
 unfold P.cells at *
 go_enter Tryz.func22, Tryz.ntmps22
 go_upto_region 1 with fail
 rw [← hV]
 clear hV
 obtain ⟨k0, k1, k2, k3, k4, k5, k6, k7, k8, k9, k10, k11, k12⟩ := Blk.cells13a HK.out.b1
 obtain ⟨j0, j1, j2, j3, j4, j5, j6, j7, j8, j9, j10, j11, j12⟩ := Blk.cells13a HK.out.b2
 clear HK
 have HT0 := HK0
 have HS : Hid (∀ W, Below V.heap.size V W → Tw w (p.cells (.slice a n c)) (q.cells (.slice a' n' c')) W ∧ (fun W => Below w.heap.size w W ∧ Sc w.heap.size p a n c W ∧ Sc (w.heap.size + 1) q a' n' c' W) W) := fun W d => ⟨HT0.out.later d, (HT0.out.later d).bw, Sc.of (HT0.out.later d).b1, Sc.of (HT0.out.later d).b2⟩
 clear HK0 HT HT0 k0 k1 k2 k3 k4 k5 k6 k7 k8 k9 k10 k11 k12 j0 j1 j2 j3 j4 j5 j6 j7 j8 j9 j10 j11 j12
 go_wp2
 refine wp_region_held_drew (S := (fun W => Below w.heap.size w W ∧ Sc w.heap.size p a n c W ∧ Sc (w.heap.size + 1) q a' n' c' W)) (by kernel_rfl) ((HS.out _ (Below.refl _ _).drew).2) (fun hHeld => ?_)
 refine tk 0 rfl (by kernel_rfl) (fun _ _ _ h => h) (by rfl) (fun w hSw => by (try dsimp only [Sc] at hSw); go_simp; try (with_reducible rfl)) (by assumption) ?_
 simp only [Act.put, x1, x2, x3, x4, x5, x6]
 refine wpAnyH_ready (rs := [1]) (by kernel_rfl) (by simp) ?_
 refine AllReadyH.cons (o := _) rfl (fun K hK => ?_) AllReadyH.nil
 go_simp
 refine (COA.out _ (HS.out _ ((Below.refl _ _).drew)).1.bw).mono ?_
 rintro e W1 ⟨rfl, d1⟩
 have D1 : Hid (Below V.heap.size V W1) := ((Below.refl _ V).drew).trans d1
 refine hK.out _ _ ((HS.out _ D1.out).2) (fun hHeld => ?_)
 clear hK K
 try simp only [Act.put, x1, x2, x3, x4, x5, x6]
 refine tk 2 rfl (by kernel_rfl) (fun _ _ _ h => h) (by rfl) (fun w hSw => by (try dsimp only [Sc] at hSw); go_simp; try (with_reducible rfl)) (by assumption) ?_
 simp only [Act.put, x1, x2, x3, x4, x5, x6]
 refine wpAnyH_take (i := 3) (oi := _) (v := undef) rfl (by kernel_rfl) (by kernel_rfl) (by kernel_rfl) (fun _ _ _ h => h) (Or.inr ⟨by simp [Region.wanted, yielded, undef, Act.put], rfl⟩) (by assumption) ?_
 refine wpAnyH_take (i := 4) (oi := _) (v := undef) rfl (by kernel_rfl) (by kernel_rfl) (by kernel_rfl) (fun _ _ _ h => h) (Or.inr ⟨by simp [Region.wanted, yielded, undef, Act.put], rfl⟩) (by assumption) ?_
 simp only [Act.put, x1, x2, x3, x4, x5, x6]
 refine tk 5 rfl (by kernel_rfl) (fun _ _ _ h => h) (by rfl) (fun w hSw => by (try dsimp only [Sc] at hSw); go_simp; try (with_reducible rfl)) (by assumption) ?_
 simp only [Act.put, x1, x2, x3, x4, x5, x6]
 refine tk 6 rfl (by kernel_rfl) (fun _ _ _ h => h) (by rfl) (fun w hSw => by (try dsimp only [Sc] at hSw); go_simp; try (with_reducible rfl)) (by assumption) ?_
 simp only [Act.put, x1, x2, x3, x4, x5, x6]
 refine wpAnyH_take (i := 7) (oi := _) (v := undef) rfl (by kernel_rfl) (by kernel_rfl) (by kernel_rfl) (fun _ _ _ h => h) (Or.inr ⟨by simp [Region.wanted, yielded, undef, Act.put], rfl⟩) (by assumption) ?_
 refine wpAnyH_take (i := 8) (oi := _) (v := undef) rfl (by kernel_rfl) (by kernel_rfl) (by kernel_rfl) (fun _ _ _ h => h) (Or.inr ⟨by simp [Region.wanted, yielded, undef, Act.put], rfl⟩) (by assumption) ?_
 refine wpAnyH_take (i := 9) (oi := _) (v := undef) rfl (by kernel_rfl) (by kernel_rfl) (by kernel_rfl) (fun _ _ _ h => h) (Or.inr ⟨by simp [Region.wanted, yielded, undef, Act.put], rfl⟩) (by assumption) ?_
 refine wpAnyH_take (i := 10) (oi := _) (v := undef) rfl (by kernel_rfl) (by kernel_rfl) (by kernel_rfl) (fun _ _ _ h => h) (Or.inr ⟨by simp [Region.wanted, yielded, undef, Act.put], rfl⟩) (by assumption) ?_
 simp only [Act.put, x1, x2, x3, x4, x5, x6]
 refine tk 11 rfl (by kernel_rfl) (fun _ _ _ h => h) (by rfl) (fun w hSw => by (try dsimp only [Sc] at hSw); go_simp; try (with_reducible rfl)) (by assumption) ?_
 simp only [Act.put, x1, x2, x3, x4, x5, x6]
 refine tk 12 rfl (by kernel_rfl) (fun _ _ _ h => h) (by rfl) (fun w hSw => by (try dsimp only [Sc] at hSw); go_simp; try (with_reducible rfl)) (by assumption) ?_
 simp only [Act.put, x1, x2, x3, x4, x5, x6]
 refine wpAnyH_take (i := 13) (oi := _) (v := undef) rfl (by kernel_rfl) (by kernel_rfl) (by kernel_rfl) (fun _ _ _ h => h) (Or.inr ⟨by simp [Region.wanted, yielded, undef, Act.put], rfl⟩) (by assumption) ?_
 refine wpAnyH_take (i := 14) (oi := _) (v := undef) rfl (by kernel_rfl) (by kernel_rfl) (by kernel_rfl) (fun _ _ _ h => h) (Or.inr ⟨by simp [Region.wanted, yielded, undef, Act.put], rfl⟩) (by assumption) ?_
 refine wpAnyH_take (i := 15) (oi := _) (v := undef) rfl (by kernel_rfl) (by kernel_rfl) (by kernel_rfl) (fun _ _ _ h => h) (Or.inr ⟨by simp [Region.wanted, yielded, undef, Act.put], rfl⟩) (by assumption) ?_
 refine wpAnyH_take (i := 16) (oi := _) (v := undef) rfl (by kernel_rfl) (by kernel_rfl) (by kernel_rfl) (fun _ _ _ h => h) (Or.inr ⟨by simp [Region.wanted, yielded, undef, Act.put], rfl⟩) (by assumption) ?_
 refine wpAnyH_take (i := 17) (oi := _) (v := undef) rfl (by kernel_rfl) (by kernel_rfl) (by kernel_rfl) (fun _ _ _ h => h) (Or.inr ⟨by simp [Region.wanted, yielded, undef, Act.put], rfl⟩) (by assumption) ?_
 simp only [Act.put, x1, x2, x3, x4, x5, x6]
 refine tk 18 rfl (by kernel_rfl) (fun _ _ _ h => h) (by rfl) (fun w hSw => by (try dsimp only [Sc] at hSw); go_simp; try (with_reducible rfl)) (by assumption) ?_
 simp only [Act.put, x1, x2, x3, x4, x5, x6]
 refine tk 19 rfl (by kernel_rfl) (fun _ _ _ h => h) (by rfl) (fun w hSw => by (try dsimp only [Sc] at hSw); go_simp; try (with_reducible rfl)) (by assumption) ?_
 simp only [Act.put, x1, x2, x3, x4, x5, x6]
 refine wpAnyH_take (i := 20) (oi := _) (v := undef) rfl (by kernel_rfl) (by kernel_rfl) (by kernel_rfl) (fun _ _ _ h => h) (Or.inr ⟨by simp [Region.wanted, yielded, undef, Act.put], rfl⟩) (by assumption) ?_
 refine wpAnyH_take (i := 21) (oi := _) (v := undef) rfl (by kernel_rfl) (by kernel_rfl) (by kernel_rfl) (fun _ _ _ h => h) (Or.inr ⟨by simp [Region.wanted, yielded, undef, Act.put], rfl⟩) (by assumption) ?_
 refine wpAnyH_take (i := 22) (oi := _) (v := undef) rfl (by kernel_rfl) (by kernel_rfl) (by kernel_rfl) (fun _ _ _ h => h) (Or.inr ⟨by simp [Region.wanted, yielded, undef, Act.put], rfl⟩) (by assumption) ?_
 refine wpAnyH_take (i := 23) (oi := _) (v := undef) rfl (by kernel_rfl) (by kernel_rfl) (by kernel_rfl) (fun _ _ _ h => h) (Or.inr ⟨by simp [Region.wanted, yielded, undef, Act.put], rfl⟩) (by assumption) ?_
 refine wpAnyH_take (i := 24) (oi := _) (v := undef) rfl (by kernel_rfl) (by kernel_rfl) (by kernel_rfl) (fun _ _ _ h => h) (Or.inr ⟨by simp [Region.wanted, yielded, undef, Act.put], rfl⟩) (by assumption) ?_
 refine wpAnyH_take (i := 25) (oi := _) (v := undef) rfl (by kernel_rfl) (by kernel_rfl) (by kernel_rfl) (fun _ _ _ h => h) (Or.inr ⟨by simp [Region.wanted, yielded, undef, Act.put], rfl⟩) (by assumption) ?_
 refine wpAnyH_take (i := 26) (oi := _) (v := undef) rfl (by kernel_rfl) (by kernel_rfl) (by kernel_rfl) (fun _ _ _ h => h) (Or.inr ⟨by simp [Region.wanted, yielded, undef, Act.put], rfl⟩) (by assumption) ?_
 simp only [Act.put, x1, x2, x3, x4, x5, x6]
 refine tk 27 rfl (by kernel_rfl) (fun _ _ _ h => h) (by rfl) (fun w hSw => by (try dsimp only [Sc] at hSw); go_simp; try (with_reducible rfl)) (by assumption) ?_
 simp only [Act.put, x1, x2, x3, x4, x5, x6]
 refine tk 28 rfl (by kernel_rfl) (fun _ _ _ h => h) (by rfl) (fun w hSw => by (try dsimp only [Sc] at hSw); go_simp; try (with_reducible rfl)) (by assumption) ?_
 simp only [Act.put, x1, x2, x3, x4, x5, x6]
 refine wpAnyH_done (by kernel_rfl) ?_ _
 go_wp2
 go_ret
 exact ⟨rfl, hHeld.1⟩
theorem specSiteHalf (p q : P) (a a' : Option Addr) (n n' c c' : Nat) (w : World) (hS : StrsOf a n p.ps w) (hS' : StrsOf a' n' q.ps w) (hs : p.tot ≤ 1048576) (hs' : q.tot ≤ 1048576) (hpo : p.po ≤ 9223372036854775807) (hpo' : q.po ≤ 9223372036854775807) (hp : okP p) (hq : ¬ okP q) :
  Calls Tryz.prog 22 #[.agg (p.cells (.slice a n c)), .agg (q.cells (.slice a' n' c'))] w fun e w' => e = .returned (.bool false) ∧ Below w.heap.size w w' := by
 have COA : Hid (∀ W, Below w.heap.size w W → Calls Tryz.prog 12 #[.agg (p.cells (.slice a n c))] W fun e w' => e = .returned (.bool true) ∧ Below W.heap.size W w') := fun W d => specUrlOk p a n c W (hS.later d) hs hpo true (by simp [hp])
 have COB : Hid (∀ W, Below w.heap.size w W → Calls Tryz.prog 12 #[.agg (q.cells (.slice a' n' c'))] W fun e w' => e = .returned (.bool false) ∧ Below W.heap.size W w') := fun W d => specUrlOk q a' n' c' W (hS'.later d) hs' hpo' false (by simp [hq])
 obtain ⟨V, hV⟩ : ∃ V, V = ((w.alloc (.cells (p.cells (.slice a n c)) 27)).alloc (.cells (q.cells (.slice a' n' c')) 27)) := ⟨_, rfl⟩
 have HT : Hid (Tw w (p.cells (.slice a n c)) (q.cells (.slice a' n' c')) V.drew) := by rw [hV]; exact (Tw.start w _ _).later (Below.refl _ _).drew
 have HK : Hid (Tw w (p.cells (.slice a n c)) (q.cells (.slice a' n' c')) V) := by show Tw _ _ _ _; rw [hV]; exact Tw.start w _ _
 have HK0 := HK
 clear hS hS' hs hs' hpo hpo' hp hq
 unfold P.cells at *
 go_enter Tryz.func22, Tryz.ntmps22
 go_upto_region 1 with fail
 rw [← hV]
 clear hV
 obtain ⟨k0, k1, k2, k3, k4, k5, k6, k7, k8, k9, k10, k11, k12⟩ := Blk.cells13a HK.out.b1
 obtain ⟨j0, j1, j2, j3, j4, j5, j6, j7, j8, j9, j10, j11, j12⟩ := Blk.cells13a HK.out.b2
 clear HK
 have HT0 := HK0
 have HS : Hid (∀ W, Below V.heap.size V W → Tw w (p.cells (.slice a n c)) (q.cells (.slice a' n' c')) W ∧ (fun W => Below w.heap.size w W ∧ Sc w.heap.size p a n c W ∧ Sc (w.heap.size + 1) q a' n' c' W) W) := fun W d => ⟨HT0.out.later d, (HT0.out.later d).bw, Sc.of (HT0.out.later d).b1, Sc.of (HT0.out.later d).b2⟩
 clear HK0 HT HT0 k0 k1 k2 k3 k4 k5 k6 k7 k8 k9 k10 k11 k12 j0 j1 j2 j3 j4 j5 j6 j7 j8 j9 j10 j11 j12
 go_wp2
 refine wp_region_held_drew (S := (fun W => Below w.heap.size w W ∧ Sc w.heap.size p a n c W ∧ Sc (w.heap.size + 1) q a' n' c' W)) (by kernel_rfl) ((HS.out _ (Below.refl _ _).drew).2) (fun hHeld => ?_)
 refine tk 0 rfl (by kernel_rfl) (fun _ _ _ h => h) (by rfl) (fun w hSw => by (try dsimp only [Sc] at hSw); go_simp; try (with_reducible rfl)) (by assumption) ?_
 simp only [Act.put, x1, x2, x3, x4, x5, x6]
 refine wpAnyH_ready (rs := [1]) (by kernel_rfl) (by simp) ?_
 refine AllReadyH.cons (o := _) rfl (fun K hK => ?_) AllReadyH.nil
 go_simp
 refine (COA.out _ (HS.out _ ((Below.refl _ _).drew)).1.bw).mono ?_
 rintro e W1 ⟨rfl, d1⟩
 have D1 : Hid (Below V.heap.size V W1) := ((Below.refl _ V).drew).trans d1
 refine hK.out _ _ ((HS.out _ D1.out).2) (fun hHeld => ?_)
 clear hK K
 try simp only [Act.put, x1, x2, x3, x4, x5, x6]
 refine tk 2 rfl (by kernel_rfl) (fun _ _ _ h => h) (by rfl) (fun w hSw => by (try dsimp only [Sc] at hSw); go_simp; try (with_reducible rfl)) (by assumption) ?_
 simp only [Act.put, x1, x2, x3, x4, x5, x6]
 refine tk 3 rfl (by kernel_rfl) (fun _ _ _ h => h) (by rfl) (fun w hSw => by (try dsimp only [Sc] at hSw); go_simp; try (with_reducible rfl)) (by assumption) ?_
 simp only [Act.put, x1, x2, x3, x4, x5, x6]
 refine wpAnyH_ready (rs := [4]) (by kernel_rfl) (by simp) ?_
 refine AllReadyH.cons (o := _) rfl (fun K hK => ?_) AllReadyH.nil
 go_simp
 refine (COB.out _ (HS.out _ D1.out).1.bw).mono ?_
 rintro e W2 ⟨rfl, d2⟩
 have D2 : Hid (Below V.heap.size V W2) := D1.out.trans (d2.mono D1.out.size)
 refine hK.out _ _ ((HS.out _ D2.out).2) (fun hHeld => ?_)
 clear hK K
 try simp only [Act.put, x1, x2, x3, x4, x5, x6]
 refine tk 5 rfl (by kernel_rfl) (fun _ _ _ h => h) (by rfl) (fun w hSw => by (try dsimp only [Sc] at hSw); go_simp; try (with_reducible rfl)) (by assumption) ?_
 simp only [Act.put, x1, x2, x3, x4, x5, x6]
 refine tk 6 rfl (by kernel_rfl) (fun _ _ _ h => h) (by rfl) (fun w hSw => by (try dsimp only [Sc] at hSw); go_simp; try (with_reducible rfl)) (by assumption) ?_
 simp only [Act.put, x1, x2, x3, x4, x5, x6]
 refine wpAnyH_take (i := 7) (oi := _) (v := undef) rfl (by kernel_rfl) (by kernel_rfl) (by kernel_rfl) (fun _ _ _ h => h) (Or.inr ⟨by simp [Region.wanted, yielded, undef, Act.put], rfl⟩) (by assumption) ?_
 refine wpAnyH_take (i := 8) (oi := _) (v := undef) rfl (by kernel_rfl) (by kernel_rfl) (by kernel_rfl) (fun _ _ _ h => h) (Or.inr ⟨by simp [Region.wanted, yielded, undef, Act.put], rfl⟩) (by assumption) ?_
 refine wpAnyH_take (i := 9) (oi := _) (v := undef) rfl (by kernel_rfl) (by kernel_rfl) (by kernel_rfl) (fun _ _ _ h => h) (Or.inr ⟨by simp [Region.wanted, yielded, undef, Act.put], rfl⟩) (by assumption) ?_
 refine wpAnyH_take (i := 10) (oi := _) (v := undef) rfl (by kernel_rfl) (by kernel_rfl) (by kernel_rfl) (fun _ _ _ h => h) (Or.inr ⟨by simp [Region.wanted, yielded, undef, Act.put], rfl⟩) (by assumption) ?_
 simp only [Act.put, x1, x2, x3, x4, x5, x6]
 refine tk 11 rfl (by kernel_rfl) (fun _ _ _ h => h) (by rfl) (fun w hSw => by (try dsimp only [Sc] at hSw); go_simp; try (with_reducible rfl)) (by assumption) ?_
 simp only [Act.put, x1, x2, x3, x4, x5, x6]
 refine tk 12 rfl (by kernel_rfl) (fun _ _ _ h => h) (by rfl) (fun w hSw => by (try dsimp only [Sc] at hSw); go_simp; try (with_reducible rfl)) (by assumption) ?_
 simp only [Act.put, x1, x2, x3, x4, x5, x6]
 refine wpAnyH_take (i := 13) (oi := _) (v := undef) rfl (by kernel_rfl) (by kernel_rfl) (by kernel_rfl) (fun _ _ _ h => h) (Or.inr ⟨by simp [Region.wanted, yielded, undef, Act.put], rfl⟩) (by assumption) ?_
 refine wpAnyH_take (i := 14) (oi := _) (v := undef) rfl (by kernel_rfl) (by kernel_rfl) (by kernel_rfl) (fun _ _ _ h => h) (Or.inr ⟨by simp [Region.wanted, yielded, undef, Act.put], rfl⟩) (by assumption) ?_
 refine wpAnyH_take (i := 15) (oi := _) (v := undef) rfl (by kernel_rfl) (by kernel_rfl) (by kernel_rfl) (fun _ _ _ h => h) (Or.inr ⟨by simp [Region.wanted, yielded, undef, Act.put], rfl⟩) (by assumption) ?_
 refine wpAnyH_take (i := 16) (oi := _) (v := undef) rfl (by kernel_rfl) (by kernel_rfl) (by kernel_rfl) (fun _ _ _ h => h) (Or.inr ⟨by simp [Region.wanted, yielded, undef, Act.put], rfl⟩) (by assumption) ?_
 refine wpAnyH_take (i := 17) (oi := _) (v := undef) rfl (by kernel_rfl) (by kernel_rfl) (by kernel_rfl) (fun _ _ _ h => h) (Or.inr ⟨by simp [Region.wanted, yielded, undef, Act.put], rfl⟩) (by assumption) ?_
 simp only [Act.put, x1, x2, x3, x4, x5, x6]
 refine tk 18 rfl (by kernel_rfl) (fun _ _ _ h => h) (by rfl) (fun w hSw => by (try dsimp only [Sc] at hSw); go_simp; try (with_reducible rfl)) (by assumption) ?_
 simp only [Act.put, x1, x2, x3, x4, x5, x6]
 refine tk 19 rfl (by kernel_rfl) (fun _ _ _ h => h) (by rfl) (fun w hSw => by (try dsimp only [Sc] at hSw); go_simp; try (with_reducible rfl)) (by assumption) ?_
 simp only [Act.put, x1, x2, x3, x4, x5, x6]
 refine wpAnyH_take (i := 20) (oi := _) (v := undef) rfl (by kernel_rfl) (by kernel_rfl) (by kernel_rfl) (fun _ _ _ h => h) (Or.inr ⟨by simp [Region.wanted, yielded, undef, Act.put], rfl⟩) (by assumption) ?_
 refine wpAnyH_take (i := 21) (oi := _) (v := undef) rfl (by kernel_rfl) (by kernel_rfl) (by kernel_rfl) (fun _ _ _ h => h) (Or.inr ⟨by simp [Region.wanted, yielded, undef, Act.put], rfl⟩) (by assumption) ?_
 refine wpAnyH_take (i := 22) (oi := _) (v := undef) rfl (by kernel_rfl) (by kernel_rfl) (by kernel_rfl) (fun _ _ _ h => h) (Or.inr ⟨by simp [Region.wanted, yielded, undef, Act.put], rfl⟩) (by assumption) ?_
 refine wpAnyH_take (i := 23) (oi := _) (v := undef) rfl (by kernel_rfl) (by kernel_rfl) (by kernel_rfl) (fun _ _ _ h => h) (Or.inr ⟨by simp [Region.wanted, yielded, undef, Act.put], rfl⟩) (by assumption) ?_
 refine wpAnyH_take (i := 24) (oi := _) (v := undef) rfl (by kernel_rfl) (by kernel_rfl) (by kernel_rfl) (fun _ _ _ h => h) (Or.inr ⟨by simp [Region.wanted, yielded, undef, Act.put], rfl⟩) (by assumption) ?_
 refine wpAnyH_take (i := 25) (oi := _) (v := undef) rfl (by kernel_rfl) (by kernel_rfl) (by kernel_rfl) (fun _ _ _ h => h) (Or.inr ⟨by simp [Region.wanted, yielded, undef, Act.put], rfl⟩) (by assumption) ?_
 refine wpAnyH_take (i := 26) (oi := _) (v := undef) rfl (by kernel_rfl) (by kernel_rfl) (by kernel_rfl) (fun _ _ _ h => h) (Or.inr ⟨by simp [Region.wanted, yielded, undef, Act.put], rfl⟩) (by assumption) ?_
 simp only [Act.put, x1, x2, x3, x4, x5, x6]
 refine tk 27 rfl (by kernel_rfl) (fun _ _ _ h => h) (by rfl) (fun w hSw => by (try dsimp only [Sc] at hSw); go_simp; try (with_reducible rfl)) (by assumption) ?_
 simp only [Act.put, x1, x2, x3, x4, x5, x6]
 refine tk 28 rfl (by kernel_rfl) (fun _ _ _ h => h) (by rfl) (fun w hSw => by (try dsimp only [Sc] at hSw); go_simp; try (with_reducible rfl)) (by assumption) ?_
 simp only [Act.put, x1, x2, x3, x4, x5, x6]
 refine wpAnyH_done (by kernel_rfl) ?_ _
 go_wp2
 go_ret
 exact ⟨rfl, hHeld.1⟩
theorem specSiteNoHost (p q : P) (a a' : Option Addr) (n n' c c' : Nat) (w : World) (hS : StrsOf a n p.ps w) (hS' : StrsOf a' n' q.ps w) (hs : p.tot ≤ 1048576) (hs' : q.tot ≤ 1048576) (hpo : p.po ≤ 9223372036854775807) (hpo' : q.po ≤ 9223372036854775807) (hp : okP p) (hq : okP q) (ho : ¬ 0 ≤ ownZ p.sc) :
  Calls Tryz.prog 22 #[.agg (p.cells (.slice a n c)), .agg (q.cells (.slice a' n' c'))] w fun e w' => e = .returned (.bool false) ∧ Below w.heap.size w w' := by
 have COA : Hid (∀ W, Below w.heap.size w W → Calls Tryz.prog 12 #[.agg (p.cells (.slice a n c))] W fun e w' => e = .returned (.bool true) ∧ Below W.heap.size W w') := fun W d => specUrlOk p a n c W (hS.later d) hs hpo true (by simp [hp])
 have COB : Hid (∀ W, Below w.heap.size w W → Calls Tryz.prog 12 #[.agg (q.cells (.slice a' n' c'))] W fun e w' => e = .returned (.bool true) ∧ Below W.heap.size W w') := fun W d => specUrlOk q a' n' c' W (hS'.later d) hs' hpo' true (by simp [hq])
 have COH : Hid (∀ W, Calls Tryz.prog 48 #[.string p.sc] W fun e w' => e = .returned (.int .i64 (ownZ p.sc)) ∧ w' = W) := fun W => l3Own p.sc W
 have HSO : Hid (decide (0 ≤ ownZ p.sc) = false) := decide_eq_false ho
 obtain ⟨V, hV⟩ : ∃ V, V = ((w.alloc (.cells (p.cells (.slice a n c)) 27)).alloc (.cells (q.cells (.slice a' n' c')) 27)) := ⟨_, rfl⟩
 have HT : Hid (Tw w (p.cells (.slice a n c)) (q.cells (.slice a' n' c')) V.drew) := by rw [hV]; exact (Tw.start w _ _).later (Below.refl _ _).drew
 have HK : Hid (Tw w (p.cells (.slice a n c)) (q.cells (.slice a' n' c')) V) := by show Tw _ _ _ _; rw [hV]; exact Tw.start w _ _
 have HK0 := HK
 clear hS hS' hs hs' hpo hpo' hp hq ho
 unfold P.cells at *
 go_enter Tryz.func22, Tryz.ntmps22
 go_upto_region 1 with fail
 rw [← hV]
 clear hV
 obtain ⟨k0, k1, k2, k3, k4, k5, k6, k7, k8, k9, k10, k11, k12⟩ := Blk.cells13a HK.out.b1
 obtain ⟨j0, j1, j2, j3, j4, j5, j6, j7, j8, j9, j10, j11, j12⟩ := Blk.cells13a HK.out.b2
 clear HK
 have HT0 := HK0
 have HS : Hid (∀ W, Below V.heap.size V W → Tw w (p.cells (.slice a n c)) (q.cells (.slice a' n' c')) W ∧ (fun W => Below w.heap.size w W ∧ Sc w.heap.size p a n c W ∧ Sc (w.heap.size + 1) q a' n' c' W) W) := fun W d => ⟨HT0.out.later d, (HT0.out.later d).bw, Sc.of (HT0.out.later d).b1, Sc.of (HT0.out.later d).b2⟩
 clear HK0 HT HT0 k0 k1 k2 k3 k4 k5 k6 k7 k8 k9 k10 k11 k12 j0 j1 j2 j3 j4 j5 j6 j7 j8 j9 j10 j11 j12
 go_wp2
 refine wp_region_held_drew (S := (fun W => Below w.heap.size w W ∧ Sc w.heap.size p a n c W ∧ Sc (w.heap.size + 1) q a' n' c' W)) (by kernel_rfl) ((HS.out _ (Below.refl _ _).drew).2) (fun hHeld => ?_)
 refine tk 0 rfl (by kernel_rfl) (fun _ _ _ h => h) (by rfl) (fun w hSw => by (try dsimp only [Sc] at hSw); go_simp; try (with_reducible rfl)) (by assumption) ?_
 simp only [Act.put, x1, x2, x3, x4, x5, x6]
 refine wpAnyH_ready (rs := [1]) (by kernel_rfl) (by simp) ?_
 refine AllReadyH.cons (o := _) rfl (fun K hK => ?_) AllReadyH.nil
 go_simp
 refine (COA.out _ (HS.out _ ((Below.refl _ _).drew)).1.bw).mono ?_
 rintro e W1 ⟨rfl, d1⟩
 have D1 : Hid (Below V.heap.size V W1) := ((Below.refl _ V).drew).trans d1
 refine hK.out _ _ ((HS.out _ D1.out).2) (fun hHeld => ?_)
 clear hK K
 try simp only [Act.put, x1, x2, x3, x4, x5, x6]
 refine tk 2 rfl (by kernel_rfl) (fun _ _ _ h => h) (by rfl) (fun w hSw => by (try dsimp only [Sc] at hSw); go_simp; try (with_reducible rfl)) (by assumption) ?_
 simp only [Act.put, x1, x2, x3, x4, x5, x6]
 refine tk 3 rfl (by kernel_rfl) (fun _ _ _ h => h) (by rfl) (fun w hSw => by (try dsimp only [Sc] at hSw); go_simp; try (with_reducible rfl)) (by assumption) ?_
 simp only [Act.put, x1, x2, x3, x4, x5, x6]
 refine wpAnyH_ready (rs := [4]) (by kernel_rfl) (by simp) ?_
 refine AllReadyH.cons (o := _) rfl (fun K hK => ?_) AllReadyH.nil
 go_simp
 refine (COB.out _ (HS.out _ D1.out).1.bw).mono ?_
 rintro e W2 ⟨rfl, d2⟩
 have D2 : Hid (Below V.heap.size V W2) := D1.out.trans (d2.mono D1.out.size)
 refine hK.out _ _ ((HS.out _ D2.out).2) (fun hHeld => ?_)
 clear hK K
 try simp only [Act.put, x1, x2, x3, x4, x5, x6]
 refine tk 5 rfl (by kernel_rfl) (fun _ _ _ h => h) (by rfl) (fun w hSw => by (try dsimp only [Sc] at hSw); go_simp; try (with_reducible rfl)) (by assumption) ?_
 simp only [Act.put, x1, x2, x3, x4, x5, x6]
 refine tk 6 rfl (by kernel_rfl) (fun _ _ _ h => h) (by rfl) (fun w hSw => by (try dsimp only [Sc] at hSw); go_simp; try (with_reducible rfl)) (by assumption) ?_
 simp only [Act.put, x1, x2, x3, x4, x5, x6]
 refine tk 7 rfl (by kernel_rfl) (fun _ _ _ h => h) (by rfl) (fun w hSw => by (try dsimp only [Sc] at hSw); go_simp; try (with_reducible rfl)) (by assumption) ?_
 simp only [Act.put, x1, x2, x3, x4, x5, x6]
 refine tk 8 rfl (by kernel_rfl) (fun _ _ _ h => h) (by rfl) (fun w hSw => by (try dsimp only [Sc] at hSw); go_simp; try (with_reducible rfl)) (by assumption) ?_
 simp only [Act.put, x1, x2, x3, x4, x5, x6]
 refine wpAnyH_ready (rs := [9]) (by kernel_rfl) (by simp) ?_
 refine AllReadyH.cons (o := _) rfl (fun K hK => ?_) AllReadyH.nil
 go_simp
 refine (COH.out _).mono ?_
 rintro e W9 ⟨rfl, hW⟩
 have hW2 := hW.symm
 subst hW2
 clear hW
 refine hK.out _ _ (hHeld) (fun hHeld => ?_)
 clear hK K
 try simp only [Act.put, x1, x2, x3, x4, x5, x6]
 refine tk (v := .bool false) 10 rfl (by kernel_rfl) (fun _ _ _ h => h) (by rfl) (fun w hSw => by (try dsimp only [Sc] at hSw); go_simp; first | exact HSO.out | (have h := HSO.out; simpa using h)) (by assumption) ?_
 simp only [Act.put, x1, x2, x3, x4, x5, x6]
 refine tk 11 rfl (by kernel_rfl) (fun _ _ _ h => h) (by rfl) (fun w hSw => by (try dsimp only [Sc] at hSw); go_simp; try (with_reducible rfl)) (by assumption) ?_
 simp only [Act.put, x1, x2, x3, x4, x5, x6]
 refine tk 12 rfl (by kernel_rfl) (fun _ _ _ h => h) (by rfl) (fun w hSw => by (try dsimp only [Sc] at hSw); go_simp; try (with_reducible rfl)) (by assumption) ?_
 simp only [Act.put, x1, x2, x3, x4, x5, x6]
 refine wpAnyH_take (i := 13) (oi := _) (v := undef) rfl (by kernel_rfl) (by kernel_rfl) (by kernel_rfl) (fun _ _ _ h => h) (Or.inr ⟨by simp [Region.wanted, yielded, undef, Act.put], rfl⟩) (by assumption) ?_
 refine wpAnyH_take (i := 14) (oi := _) (v := undef) rfl (by kernel_rfl) (by kernel_rfl) (by kernel_rfl) (fun _ _ _ h => h) (Or.inr ⟨by simp [Region.wanted, yielded, undef, Act.put], rfl⟩) (by assumption) ?_
 refine wpAnyH_take (i := 15) (oi := _) (v := undef) rfl (by kernel_rfl) (by kernel_rfl) (by kernel_rfl) (fun _ _ _ h => h) (Or.inr ⟨by simp [Region.wanted, yielded, undef, Act.put], rfl⟩) (by assumption) ?_
 refine wpAnyH_take (i := 16) (oi := _) (v := undef) rfl (by kernel_rfl) (by kernel_rfl) (by kernel_rfl) (fun _ _ _ h => h) (Or.inr ⟨by simp [Region.wanted, yielded, undef, Act.put], rfl⟩) (by assumption) ?_
 refine wpAnyH_take (i := 17) (oi := _) (v := undef) rfl (by kernel_rfl) (by kernel_rfl) (by kernel_rfl) (fun _ _ _ h => h) (Or.inr ⟨by simp [Region.wanted, yielded, undef, Act.put], rfl⟩) (by assumption) ?_
 simp only [Act.put, x1, x2, x3, x4, x5, x6]
 refine tk 18 rfl (by kernel_rfl) (fun _ _ _ h => h) (by rfl) (fun w hSw => by (try dsimp only [Sc] at hSw); go_simp; try (with_reducible rfl)) (by assumption) ?_
 simp only [Act.put, x1, x2, x3, x4, x5, x6]
 refine tk 19 rfl (by kernel_rfl) (fun _ _ _ h => h) (by rfl) (fun w hSw => by (try dsimp only [Sc] at hSw); go_simp; try (with_reducible rfl)) (by assumption) ?_
 simp only [Act.put, x1, x2, x3, x4, x5, x6]
 refine wpAnyH_take (i := 20) (oi := _) (v := undef) rfl (by kernel_rfl) (by kernel_rfl) (by kernel_rfl) (fun _ _ _ h => h) (Or.inr ⟨by simp [Region.wanted, yielded, undef, Act.put], rfl⟩) (by assumption) ?_
 refine wpAnyH_take (i := 21) (oi := _) (v := undef) rfl (by kernel_rfl) (by kernel_rfl) (by kernel_rfl) (fun _ _ _ h => h) (Or.inr ⟨by simp [Region.wanted, yielded, undef, Act.put], rfl⟩) (by assumption) ?_
 refine wpAnyH_take (i := 22) (oi := _) (v := undef) rfl (by kernel_rfl) (by kernel_rfl) (by kernel_rfl) (fun _ _ _ h => h) (Or.inr ⟨by simp [Region.wanted, yielded, undef, Act.put], rfl⟩) (by assumption) ?_
 refine wpAnyH_take (i := 23) (oi := _) (v := undef) rfl (by kernel_rfl) (by kernel_rfl) (by kernel_rfl) (fun _ _ _ h => h) (Or.inr ⟨by simp [Region.wanted, yielded, undef, Act.put], rfl⟩) (by assumption) ?_
 refine wpAnyH_take (i := 24) (oi := _) (v := undef) rfl (by kernel_rfl) (by kernel_rfl) (by kernel_rfl) (fun _ _ _ h => h) (Or.inr ⟨by simp [Region.wanted, yielded, undef, Act.put], rfl⟩) (by assumption) ?_
 refine wpAnyH_take (i := 25) (oi := _) (v := undef) rfl (by kernel_rfl) (by kernel_rfl) (by kernel_rfl) (fun _ _ _ h => h) (Or.inr ⟨by simp [Region.wanted, yielded, undef, Act.put], rfl⟩) (by assumption) ?_
 refine wpAnyH_take (i := 26) (oi := _) (v := undef) rfl (by kernel_rfl) (by kernel_rfl) (by kernel_rfl) (fun _ _ _ h => h) (Or.inr ⟨by simp [Region.wanted, yielded, undef, Act.put], rfl⟩) (by assumption) ?_
 simp only [Act.put, x1, x2, x3, x4, x5, x6]
 refine tk 27 rfl (by kernel_rfl) (fun _ _ _ h => h) (by rfl) (fun w hSw => by (try dsimp only [Sc] at hSw); go_simp; try (with_reducible rfl)) (by assumption) ?_
 simp only [Act.put, x1, x2, x3, x4, x5, x6]
 refine tk 28 rfl (by kernel_rfl) (fun _ _ _ h => h) (by rfl) (fun w hSw => by (try dsimp only [Sc] at hSw); go_simp; try (with_reducible rfl)) (by assumption) ?_
 simp only [Act.put, x1, x2, x3, x4, x5, x6]
 refine wpAnyH_done (by kernel_rfl) ?_ _
 go_wp2
 go_ret
 exact ⟨rfl, hHeld.1⟩
theorem specSiteUnlike (p q : P) (a a' : Option Addr) (n n' c c' : Nat) (w : World) (hS : StrsOf a n p.ps w) (hS' : StrsOf a' n' q.ps w) (hs : p.tot ≤ 1048576) (hs' : q.tot ≤ 1048576) (hpo : p.po ≤ 9223372036854775807) (hpo' : q.po ≤ 9223372036854775807) (hp : okP p) (hq : okP q) (ho : 0 ≤ ownZ p.sc) (hsc : p.sc ≠ q.sc) :
  Calls Tryz.prog 22 #[.agg (p.cells (.slice a n c)), .agg (q.cells (.slice a' n' c'))] w fun e w' => e = .returned (.bool false) ∧ Below w.heap.size w w' := by
 have COA : Hid (∀ W, Below w.heap.size w W → Calls Tryz.prog 12 #[.agg (p.cells (.slice a n c))] W fun e w' => e = .returned (.bool true) ∧ Below W.heap.size W w') := fun W d => specUrlOk p a n c W (hS.later d) hs hpo true (by simp [hp])
 have COB : Hid (∀ W, Below w.heap.size w W → Calls Tryz.prog 12 #[.agg (q.cells (.slice a' n' c'))] W fun e w' => e = .returned (.bool true) ∧ Below W.heap.size W w') := fun W d => specUrlOk q a' n' c' W (hS'.later d) hs' hpo' true (by simp [hq])
 have COH : Hid (∀ W, Calls Tryz.prog 48 #[.string p.sc] W fun e w' => e = .returned (.int .i64 (ownZ p.sc)) ∧ w' = W) := fun W => l3Own p.sc W
 have HSO : Hid (decide (0 ≤ ownZ p.sc) = true) := decide_eq_true ho
 have HSC : Hid ((p.sc.toList == q.sc.toList) = false) := tlb_ne hsc
 obtain ⟨V, hV⟩ : ∃ V, V = ((w.alloc (.cells (p.cells (.slice a n c)) 27)).alloc (.cells (q.cells (.slice a' n' c')) 27)) := ⟨_, rfl⟩
 have HT : Hid (Tw w (p.cells (.slice a n c)) (q.cells (.slice a' n' c')) V.drew) := by rw [hV]; exact (Tw.start w _ _).later (Below.refl _ _).drew
 have HK : Hid (Tw w (p.cells (.slice a n c)) (q.cells (.slice a' n' c')) V) := by show Tw _ _ _ _; rw [hV]; exact Tw.start w _ _
 have HK0 := HK
 clear hS hS' hs hs' hpo hpo' hp hq ho hsc
 unfold P.cells at *
 go_enter Tryz.func22, Tryz.ntmps22
 go_upto_region 1 with fail
 rw [← hV]
 clear hV
 obtain ⟨k0, k1, k2, k3, k4, k5, k6, k7, k8, k9, k10, k11, k12⟩ := Blk.cells13a HK.out.b1
 obtain ⟨j0, j1, j2, j3, j4, j5, j6, j7, j8, j9, j10, j11, j12⟩ := Blk.cells13a HK.out.b2
 clear HK
 have HT0 := HK0
 have HS : Hid (∀ W, Below V.heap.size V W → Tw w (p.cells (.slice a n c)) (q.cells (.slice a' n' c')) W ∧ (fun W => Below w.heap.size w W ∧ Sc w.heap.size p a n c W ∧ Sc (w.heap.size + 1) q a' n' c' W) W) := fun W d => ⟨HT0.out.later d, (HT0.out.later d).bw, Sc.of (HT0.out.later d).b1, Sc.of (HT0.out.later d).b2⟩
 clear HK0 HT HT0 k0 k1 k2 k3 k4 k5 k6 k7 k8 k9 k10 k11 k12 j0 j1 j2 j3 j4 j5 j6 j7 j8 j9 j10 j11 j12
 go_wp2
 refine wp_region_held_drew (S := (fun W => Below w.heap.size w W ∧ Sc w.heap.size p a n c W ∧ Sc (w.heap.size + 1) q a' n' c' W)) (by kernel_rfl) ((HS.out _ (Below.refl _ _).drew).2) (fun hHeld => ?_)
 refine tk 0 rfl (by kernel_rfl) (fun _ _ _ h => h) (by rfl) (fun w hSw => by (try dsimp only [Sc] at hSw); go_simp; try (with_reducible rfl)) (by assumption) ?_
 simp only [Act.put, x1, x2, x3, x4, x5, x6]
 refine wpAnyH_ready (rs := [1]) (by kernel_rfl) (by simp) ?_
 refine AllReadyH.cons (o := _) rfl (fun K hK => ?_) AllReadyH.nil
 go_simp
 refine (COA.out _ (HS.out _ ((Below.refl _ _).drew)).1.bw).mono ?_
 rintro e W1 ⟨rfl, d1⟩
 have D1 : Hid (Below V.heap.size V W1) := ((Below.refl _ V).drew).trans d1
 refine hK.out _ _ ((HS.out _ D1.out).2) (fun hHeld => ?_)
 clear hK K
 try simp only [Act.put, x1, x2, x3, x4, x5, x6]
 refine tk 2 rfl (by kernel_rfl) (fun _ _ _ h => h) (by rfl) (fun w hSw => by (try dsimp only [Sc] at hSw); go_simp; try (with_reducible rfl)) (by assumption) ?_
 simp only [Act.put, x1, x2, x3, x4, x5, x6]
 refine tk 3 rfl (by kernel_rfl) (fun _ _ _ h => h) (by rfl) (fun w hSw => by (try dsimp only [Sc] at hSw); go_simp; try (with_reducible rfl)) (by assumption) ?_
 simp only [Act.put, x1, x2, x3, x4, x5, x6]
 refine wpAnyH_ready (rs := [4]) (by kernel_rfl) (by simp) ?_
 refine AllReadyH.cons (o := _) rfl (fun K hK => ?_) AllReadyH.nil
 go_simp
 refine (COB.out _ (HS.out _ D1.out).1.bw).mono ?_
 rintro e W2 ⟨rfl, d2⟩
 have D2 : Hid (Below V.heap.size V W2) := D1.out.trans (d2.mono D1.out.size)
 refine hK.out _ _ ((HS.out _ D2.out).2) (fun hHeld => ?_)
 clear hK K
 try simp only [Act.put, x1, x2, x3, x4, x5, x6]
 refine tk 5 rfl (by kernel_rfl) (fun _ _ _ h => h) (by rfl) (fun w hSw => by (try dsimp only [Sc] at hSw); go_simp; try (with_reducible rfl)) (by assumption) ?_
 simp only [Act.put, x1, x2, x3, x4, x5, x6]
 refine tk 6 rfl (by kernel_rfl) (fun _ _ _ h => h) (by rfl) (fun w hSw => by (try dsimp only [Sc] at hSw); go_simp; try (with_reducible rfl)) (by assumption) ?_
 simp only [Act.put, x1, x2, x3, x4, x5, x6]
 refine tk 7 rfl (by kernel_rfl) (fun _ _ _ h => h) (by rfl) (fun w hSw => by (try dsimp only [Sc] at hSw); go_simp; try (with_reducible rfl)) (by assumption) ?_
 simp only [Act.put, x1, x2, x3, x4, x5, x6]
 refine tk 8 rfl (by kernel_rfl) (fun _ _ _ h => h) (by rfl) (fun w hSw => by (try dsimp only [Sc] at hSw); go_simp; try (with_reducible rfl)) (by assumption) ?_
 simp only [Act.put, x1, x2, x3, x4, x5, x6]
 refine wpAnyH_ready (rs := [9]) (by kernel_rfl) (by simp) ?_
 refine AllReadyH.cons (o := _) rfl (fun K hK => ?_) AllReadyH.nil
 go_simp
 refine (COH.out _).mono ?_
 rintro e W9 ⟨rfl, hW⟩
 have hW2 := hW.symm
 subst hW2
 clear hW
 refine hK.out _ _ (hHeld) (fun hHeld => ?_)
 clear hK K
 try simp only [Act.put, x1, x2, x3, x4, x5, x6]
 refine tk (v := .bool true) 10 rfl (by kernel_rfl) (fun _ _ _ h => h) (by rfl) (fun w hSw => by (try dsimp only [Sc] at hSw); go_simp; first | exact HSO.out | (have h := HSO.out; simpa using h)) (by assumption) ?_
 simp only [Act.put, x1, x2, x3, x4, x5, x6]
 refine tk 11 rfl (by kernel_rfl) (fun _ _ _ h => h) (by rfl) (fun w hSw => by (try dsimp only [Sc] at hSw); go_simp; try (with_reducible rfl)) (by assumption) ?_
 simp only [Act.put, x1, x2, x3, x4, x5, x6]
 refine tk 12 rfl (by kernel_rfl) (fun _ _ _ h => h) (by rfl) (fun w hSw => by (try dsimp only [Sc] at hSw); go_simp; try (with_reducible rfl)) (by assumption) ?_
 simp only [Act.put, x1, x2, x3, x4, x5, x6]
 refine tk 13 rfl (by kernel_rfl) (fun _ _ _ h => h) (by rfl) (fun w hSw => by (try dsimp only [Sc] at hSw); go_simp; try (with_reducible rfl)) (by assumption) ?_
 simp only [Act.put, x1, x2, x3, x4, x5, x6]
 refine tk 14 rfl (by kernel_rfl) (fun _ _ _ h => h) (by rfl) (fun w hSw => by (try dsimp only [Sc] at hSw); go_simp; try (with_reducible rfl)) (by assumption) ?_
 simp only [Act.put, x1, x2, x3, x4, x5, x6]
 refine tk 15 rfl (by kernel_rfl) (fun _ _ _ h => h) (by rfl) (fun w hSw => by (try dsimp only [Sc] at hSw); go_simp; try (with_reducible rfl)) (by assumption) ?_
 simp only [Act.put, x1, x2, x3, x4, x5, x6]
 refine tk 16 rfl (by kernel_rfl) (fun _ _ _ h => h) (by rfl) (fun w hSw => by (try dsimp only [Sc] at hSw); go_simp; try (with_reducible rfl)) (by assumption) ?_
 simp only [Act.put, x1, x2, x3, x4, x5, x6]
 refine tk (v := .bool false) 17 rfl (by kernel_rfl) (fun _ _ _ h => h) (by rfl) (fun w hSw => by (try dsimp only [Sc] at hSw); go_simp; first | exact HSC.out | (have h := HSC.out; simpa using h)) (by assumption) ?_
 simp only [Act.put, x1, x2, x3, x4, x5, x6]
 refine tk 18 rfl (by kernel_rfl) (fun _ _ _ h => h) (by rfl) (fun w hSw => by (try dsimp only [Sc] at hSw); go_simp; try (with_reducible rfl)) (by assumption) ?_
 simp only [Act.put, x1, x2, x3, x4, x5, x6]
 refine tk 19 rfl (by kernel_rfl) (fun _ _ _ h => h) (by rfl) (fun w hSw => by (try dsimp only [Sc] at hSw); go_simp; try (with_reducible rfl)) (by assumption) ?_
 simp only [Act.put, x1, x2, x3, x4, x5, x6]
 refine wpAnyH_take (i := 20) (oi := _) (v := undef) rfl (by kernel_rfl) (by kernel_rfl) (by kernel_rfl) (fun _ _ _ h => h) (Or.inr ⟨by simp [Region.wanted, yielded, undef, Act.put], rfl⟩) (by assumption) ?_
 refine wpAnyH_take (i := 21) (oi := _) (v := undef) rfl (by kernel_rfl) (by kernel_rfl) (by kernel_rfl) (fun _ _ _ h => h) (Or.inr ⟨by simp [Region.wanted, yielded, undef, Act.put], rfl⟩) (by assumption) ?_
 refine wpAnyH_take (i := 22) (oi := _) (v := undef) rfl (by kernel_rfl) (by kernel_rfl) (by kernel_rfl) (fun _ _ _ h => h) (Or.inr ⟨by simp [Region.wanted, yielded, undef, Act.put], rfl⟩) (by assumption) ?_
 refine wpAnyH_take (i := 23) (oi := _) (v := undef) rfl (by kernel_rfl) (by kernel_rfl) (by kernel_rfl) (fun _ _ _ h => h) (Or.inr ⟨by simp [Region.wanted, yielded, undef, Act.put], rfl⟩) (by assumption) ?_
 refine wpAnyH_take (i := 24) (oi := _) (v := undef) rfl (by kernel_rfl) (by kernel_rfl) (by kernel_rfl) (fun _ _ _ h => h) (Or.inr ⟨by simp [Region.wanted, yielded, undef, Act.put], rfl⟩) (by assumption) ?_
 refine wpAnyH_take (i := 25) (oi := _) (v := undef) rfl (by kernel_rfl) (by kernel_rfl) (by kernel_rfl) (fun _ _ _ h => h) (Or.inr ⟨by simp [Region.wanted, yielded, undef, Act.put], rfl⟩) (by assumption) ?_
 refine wpAnyH_take (i := 26) (oi := _) (v := undef) rfl (by kernel_rfl) (by kernel_rfl) (by kernel_rfl) (fun _ _ _ h => h) (Or.inr ⟨by simp [Region.wanted, yielded, undef, Act.put], rfl⟩) (by assumption) ?_
 simp only [Act.put, x1, x2, x3, x4, x5, x6]
 refine tk 27 rfl (by kernel_rfl) (fun _ _ _ h => h) (by rfl) (fun w hSw => by (try dsimp only [Sc] at hSw); go_simp; try (with_reducible rfl)) (by assumption) ?_
 simp only [Act.put, x1, x2, x3, x4, x5, x6]
 refine tk 28 rfl (by kernel_rfl) (fun _ _ _ h => h) (by rfl) (fun w hSw => by (try dsimp only [Sc] at hSw); go_simp; try (with_reducible rfl)) (by assumption) ?_
 simp only [Act.put, x1, x2, x3, x4, x5, x6]
 refine wpAnyH_done (by kernel_rfl) ?_ _
 go_wp2
 go_ret
 exact ⟨rfl, hHeld.1⟩
theorem specSiteYes (p q : P) (a a' : Option Addr) (n n' c c' : Nat) (w : World) (hS : StrsOf a n p.ps w) (hS' : StrsOf a' n' q.ps w) (hs : p.tot ≤ 1048576) (hs' : q.tot ≤ 1048576) (hpo : p.po ≤ 9223372036854775807) (hpo' : q.po ≤ 9223372036854775807) (hp : okP p) (hq : okP q) (ho : 0 ≤ ownZ p.sc) (hsc : p.sc = q.sc) (t1 t2 : ByteArray) (ht1 : t1 = mk (siteT p.hk p.hn p.ha)) (ht2 : t2 = mk (siteT q.hk q.hn q.ha)) (x : Bool) (hx : x = true ↔ t1 = t2) :
  Calls Tryz.prog 22 #[.agg (p.cells (.slice a n c)), .agg (q.cells (.slice a' n' c'))] w fun e w' => e = .returned (.bool x) ∧ Below w.heap.size w w' := by
 have COA : Hid (∀ W, Below w.heap.size w W → Calls Tryz.prog 12 #[.agg (p.cells (.slice a n c))] W fun e w' => e = .returned (.bool true) ∧ Below W.heap.size W w') := fun W d => specUrlOk p a n c W (hS.later d) hs hpo true (by simp [hp])
 have COB : Hid (∀ W, Below w.heap.size w W → Calls Tryz.prog 12 #[.agg (q.cells (.slice a' n' c'))] W fun e w' => e = .returned (.bool true) ∧ Below W.heap.size W w') := fun W d => specUrlOk q a' n' c' W (hS'.later d) hs' hpo' true (by simp [hq])
 have COH : Hid (∀ W, Calls Tryz.prog 48 #[.string p.sc] W fun e w' => e = .returned (.int .i64 (ownZ p.sc)) ∧ w' = W) := fun W => l3Own p.sc W
 have HSO : Hid (decide (0 ≤ ownZ p.sc) = true) := decide_eq_true ho
 have CSA : Hid (∀ W, Below w.heap.size w W → Calls Tryz.prog 49 #[.agg #[.int .i64 p.hk, .string p.hn, .int .i64 p.ha]] W fun e w' => e = .returned (.string t1) ∧ Below W.heap.size W w') := fun W d => by rw [ht1]; exact specSite p.hk p.hn p.ha W (by have : p.hn.size ≤ p.tot := (by unfold P.tot; omega); omega)
 have CSB : Hid (∀ W, Below w.heap.size w W → Calls Tryz.prog 49 #[.agg #[.int .i64 q.hk, .string q.hn, .int .i64 q.ha]] W fun e w' => e = .returned (.string t2) ∧ Below W.heap.size W w') := fun W d => by rw [ht2]; exact specSite q.hk q.hn q.ha W (by have : q.hn.size ≤ q.tot := (by unfold P.tot; omega); omega)
 have HSC : Hid ((p.sc.toList == q.sc.toList) = true) := by show _ = _; rw [hsc]; exact beq_self_eq_true _
 have HX : Hid ((t1.toList == t2.toList) = x) := by
  show _ = _
  cases hxx : x with
  | true => rw [hx.1 hxx]; exact beq_self_eq_true _
  | false => exact tlb_ne (fun e => by rw [hx.2 e] at hxx; cases hxx)
 obtain ⟨V, hV⟩ : ∃ V, V = ((w.alloc (.cells (p.cells (.slice a n c)) 27)).alloc (.cells (q.cells (.slice a' n' c')) 27)) := ⟨_, rfl⟩
 have HT : Hid (Tw w (p.cells (.slice a n c)) (q.cells (.slice a' n' c')) V.drew) := by rw [hV]; exact (Tw.start w _ _).later (Below.refl _ _).drew
 have HK : Hid (Tw w (p.cells (.slice a n c)) (q.cells (.slice a' n' c')) V) := by show Tw _ _ _ _; rw [hV]; exact Tw.start w _ _
 have HK0 := HK
 clear hS hS' hs hs' hpo hpo' hp hq ho ht1 ht2 hsc hx
 unfold P.cells at *
 go_enter Tryz.func22, Tryz.ntmps22
 go_upto_region 1 with fail
 rw [← hV]
 clear hV
 obtain ⟨k0, k1, k2, k3, k4, k5, k6, k7, k8, k9, k10, k11, k12⟩ := Blk.cells13a HK.out.b1
 obtain ⟨j0, j1, j2, j3, j4, j5, j6, j7, j8, j9, j10, j11, j12⟩ := Blk.cells13a HK.out.b2
 clear HK
 have HT0 := HK0
 have HS : Hid (∀ W, Below V.heap.size V W → Tw w (p.cells (.slice a n c)) (q.cells (.slice a' n' c')) W ∧ (fun W => Below w.heap.size w W ∧ Sc w.heap.size p a n c W ∧ Sc (w.heap.size + 1) q a' n' c' W) W) := fun W d => ⟨HT0.out.later d, (HT0.out.later d).bw, Sc.of (HT0.out.later d).b1, Sc.of (HT0.out.later d).b2⟩
 clear HK0 HT HT0 k0 k1 k2 k3 k4 k5 k6 k7 k8 k9 k10 k11 k12 j0 j1 j2 j3 j4 j5 j6 j7 j8 j9 j10 j11 j12
 go_wp2
 refine wp_region_held_drew (S := (fun W => Below w.heap.size w W ∧ Sc w.heap.size p a n c W ∧ Sc (w.heap.size + 1) q a' n' c' W)) (by kernel_rfl) ((HS.out _ (Below.refl _ _).drew).2) (fun hHeld => ?_)
 refine tk 0 rfl (by kernel_rfl) (fun _ _ _ h => h) (by rfl) (fun w hSw => by (try dsimp only [Sc] at hSw); go_simp; try (with_reducible rfl)) (by assumption) ?_
 simp only [Act.put, x1, x2, x3, x4, x5, x6]
 refine wpAnyH_ready (rs := [1]) (by kernel_rfl) (by simp) ?_
 refine AllReadyH.cons (o := _) rfl (fun K hK => ?_) AllReadyH.nil
 go_simp
 refine (COA.out _ (HS.out _ ((Below.refl _ _).drew)).1.bw).mono ?_
 rintro e W1 ⟨rfl, d1⟩
 have D1 : Hid (Below V.heap.size V W1) := ((Below.refl _ V).drew).trans d1
 refine hK.out _ _ ((HS.out _ D1.out).2) (fun hHeld => ?_)
 clear hK K
 try simp only [Act.put, x1, x2, x3, x4, x5, x6]
 refine tk 2 rfl (by kernel_rfl) (fun _ _ _ h => h) (by rfl) (fun w hSw => by (try dsimp only [Sc] at hSw); go_simp; try (with_reducible rfl)) (by assumption) ?_
 simp only [Act.put, x1, x2, x3, x4, x5, x6]
 refine tk 3 rfl (by kernel_rfl) (fun _ _ _ h => h) (by rfl) (fun w hSw => by (try dsimp only [Sc] at hSw); go_simp; try (with_reducible rfl)) (by assumption) ?_
 simp only [Act.put, x1, x2, x3, x4, x5, x6]
 refine wpAnyH_ready (rs := [4]) (by kernel_rfl) (by simp) ?_
 refine AllReadyH.cons (o := _) rfl (fun K hK => ?_) AllReadyH.nil
 go_simp
 refine (COB.out _ (HS.out _ D1.out).1.bw).mono ?_
 rintro e W2 ⟨rfl, d2⟩
 have D2 : Hid (Below V.heap.size V W2) := D1.out.trans (d2.mono D1.out.size)
 refine hK.out _ _ ((HS.out _ D2.out).2) (fun hHeld => ?_)
 clear hK K
 try simp only [Act.put, x1, x2, x3, x4, x5, x6]
 refine tk 5 rfl (by kernel_rfl) (fun _ _ _ h => h) (by rfl) (fun w hSw => by (try dsimp only [Sc] at hSw); go_simp; try (with_reducible rfl)) (by assumption) ?_
 simp only [Act.put, x1, x2, x3, x4, x5, x6]
 refine tk 6 rfl (by kernel_rfl) (fun _ _ _ h => h) (by rfl) (fun w hSw => by (try dsimp only [Sc] at hSw); go_simp; try (with_reducible rfl)) (by assumption) ?_
 simp only [Act.put, x1, x2, x3, x4, x5, x6]
 refine tk 7 rfl (by kernel_rfl) (fun _ _ _ h => h) (by rfl) (fun w hSw => by (try dsimp only [Sc] at hSw); go_simp; try (with_reducible rfl)) (by assumption) ?_
 simp only [Act.put, x1, x2, x3, x4, x5, x6]
 refine tk 8 rfl (by kernel_rfl) (fun _ _ _ h => h) (by rfl) (fun w hSw => by (try dsimp only [Sc] at hSw); go_simp; try (with_reducible rfl)) (by assumption) ?_
 simp only [Act.put, x1, x2, x3, x4, x5, x6]
 refine wpAnyH_ready (rs := [9]) (by kernel_rfl) (by simp) ?_
 refine AllReadyH.cons (o := _) rfl (fun K hK => ?_) AllReadyH.nil
 go_simp
 refine (COH.out _).mono ?_
 rintro e W9 ⟨rfl, hW⟩
 have hW2 := hW.symm
 subst hW2
 clear hW
 refine hK.out _ _ (hHeld) (fun hHeld => ?_)
 clear hK K
 try simp only [Act.put, x1, x2, x3, x4, x5, x6]
 refine tk (v := .bool true) 10 rfl (by kernel_rfl) (fun _ _ _ h => h) (by rfl) (fun w hSw => by (try dsimp only [Sc] at hSw); go_simp; first | exact HSO.out | (have h := HSO.out; simpa using h)) (by assumption) ?_
 simp only [Act.put, x1, x2, x3, x4, x5, x6]
 refine tk 11 rfl (by kernel_rfl) (fun _ _ _ h => h) (by rfl) (fun w hSw => by (try dsimp only [Sc] at hSw); go_simp; try (with_reducible rfl)) (by assumption) ?_
 simp only [Act.put, x1, x2, x3, x4, x5, x6]
 refine tk 12 rfl (by kernel_rfl) (fun _ _ _ h => h) (by rfl) (fun w hSw => by (try dsimp only [Sc] at hSw); go_simp; try (with_reducible rfl)) (by assumption) ?_
 simp only [Act.put, x1, x2, x3, x4, x5, x6]
 refine tk 13 rfl (by kernel_rfl) (fun _ _ _ h => h) (by rfl) (fun w hSw => by (try dsimp only [Sc] at hSw); go_simp; try (with_reducible rfl)) (by assumption) ?_
 simp only [Act.put, x1, x2, x3, x4, x5, x6]
 refine tk 14 rfl (by kernel_rfl) (fun _ _ _ h => h) (by rfl) (fun w hSw => by (try dsimp only [Sc] at hSw); go_simp; try (with_reducible rfl)) (by assumption) ?_
 simp only [Act.put, x1, x2, x3, x4, x5, x6]
 refine tk 15 rfl (by kernel_rfl) (fun _ _ _ h => h) (by rfl) (fun w hSw => by (try dsimp only [Sc] at hSw); go_simp; try (with_reducible rfl)) (by assumption) ?_
 simp only [Act.put, x1, x2, x3, x4, x5, x6]
 refine tk 16 rfl (by kernel_rfl) (fun _ _ _ h => h) (by rfl) (fun w hSw => by (try dsimp only [Sc] at hSw); go_simp; try (with_reducible rfl)) (by assumption) ?_
 simp only [Act.put, x1, x2, x3, x4, x5, x6]
 refine tk (v := .bool true) 17 rfl (by kernel_rfl) (fun _ _ _ h => h) (by rfl) (fun w hSw => by (try dsimp only [Sc] at hSw); go_simp; first | exact HSC.out | (have h := HSC.out; simpa using h)) (by assumption) ?_
 simp only [Act.put, x1, x2, x3, x4, x5, x6]
 refine tk 18 rfl (by kernel_rfl) (fun _ _ _ h => h) (by rfl) (fun w hSw => by (try dsimp only [Sc] at hSw); go_simp; try (with_reducible rfl)) (by assumption) ?_
 simp only [Act.put, x1, x2, x3, x4, x5, x6]
 refine tk 19 rfl (by kernel_rfl) (fun _ _ _ h => h) (by rfl) (fun w hSw => by (try dsimp only [Sc] at hSw); go_simp; try (with_reducible rfl)) (by assumption) ?_
 simp only [Act.put, x1, x2, x3, x4, x5, x6]
 refine tk 20 rfl (by kernel_rfl) (fun _ _ _ h => h) (by rfl) (fun w hSw => by (try dsimp only [Sc] at hSw); go_simp; try (with_reducible rfl)) (by assumption) ?_
 simp only [Act.put, x1, x2, x3, x4, x5, x6]
 refine tk 21 rfl (by kernel_rfl) (fun _ _ _ h => h) (by rfl) (fun w hSw => by (try dsimp only [Sc] at hSw); go_simp; try (with_reducible rfl)) (by assumption) ?_
 simp only [Act.put, x1, x2, x3, x4, x5, x6]
 refine tk 23 rfl (by kernel_rfl) (fun _ _ _ h => h) (by rfl) (fun w hSw => by (try dsimp only [Sc] at hSw); go_simp; try (with_reducible rfl)) (by assumption) ?_
 simp only [Act.put, x1, x2, x3, x4, x5, x6]
 refine tk 24 rfl (by kernel_rfl) (fun _ _ _ h => h) (by rfl) (fun w hSw => by (try dsimp only [Sc] at hSw); go_simp; try (with_reducible rfl)) (by assumption) ?_
 simp only [Act.put, x1, x2, x3, x4, x5, x6]
 refine wpAnyH_ready (rs := [22]) (by kernel_rfl) (by simp) ?_
 refine AllReadyH.cons (o := _) rfl (fun K hK => ?_) AllReadyH.nil
 go_simp
 refine (CSA.out _ (HS.out _ D2.out).1.bw).mono ?_
 rintro e W3 ⟨rfl, d3⟩
 have D3 : Hid (Below V.heap.size V W3) := D2.out.trans (d3.mono D2.out.size)
 refine hK.out _ _ ((HS.out _ D3.out).2) (fun hHeld => ?_)
 clear hK K
 try simp only [Act.put, x1, x2, x3, x4, x5, x6]
 refine wpAnyH_ready (rs := [25]) (by kernel_rfl) (by simp) ?_
 refine AllReadyH.cons (o := _) rfl (fun K hK => ?_) AllReadyH.nil
 go_simp
 refine (CSB.out _ (HS.out _ D3.out).1.bw).mono ?_
 rintro e W4 ⟨rfl, d4⟩
 have D4 : Hid (Below V.heap.size V W4) := D3.out.trans (d4.mono D3.out.size)
 refine hK.out _ _ ((HS.out _ D4.out).2) (fun hHeld => ?_)
 clear hK K
 try simp only [Act.put, x1, x2, x3, x4, x5, x6]
 refine tk (v := .bool x) 26 rfl (by kernel_rfl) (fun _ _ _ h => h) (by rfl) (fun w hSw => by (try dsimp only [Sc] at hSw); go_simp; first | exact HX.out | (have h := HX.out; simpa using h)) (by assumption) ?_
 simp only [Act.put, x1, x2, x3, x4, x5, x6]
 refine tk 27 rfl (by kernel_rfl) (fun _ _ _ h => h) (by rfl) (fun w hSw => by (try dsimp only [Sc] at hSw); go_simp; try (with_reducible rfl)) (by assumption) ?_
 simp only [Act.put, x1, x2, x3, x4, x5, x6]
 refine tk 28 rfl (by kernel_rfl) (fun _ _ _ h => h) (by rfl) (fun w hSw => by (try dsimp only [Sc] at hSw); go_simp; try (with_reducible rfl)) (by assumption) ?_
 simp only [Act.put, x1, x2, x3, x4, x5, x6]
 refine wpAnyH_done (by kernel_rfl) ?_ _
 go_wp2
 go_ret
 exact ⟨rfl, hHeld.1⟩
theorem specSiteSame (p q : P) (a a' : Option Addr) (n n' c c' : Nat) (w : World) (hS : StrsOf a n p.ps w) (hS' : StrsOf a' n' q.ps w) (hs : p.tot ≤ 1048576) (hs' : q.tot ≤ 1048576) (hpo : p.po ≤ 9223372036854775807) (hpo' : q.po ≤ 9223372036854775807) (x : Bool) (hx : x = true ↔ okP p ∧ okP q ∧ 0 ≤ ownZ p.sc ∧ p.sc = q.sc ∧ siteT p.hk p.hn p.ha = siteT q.hk q.hn q.ha) :
  Calls Tryz.prog 22 #[.agg (p.cells (.slice a n c)), .agg (q.cells (.slice a' n' c'))] w fun e w' => e = .returned (.bool x) ∧ Below w.heap.size w w' := by
 by_cases hp : okP p
 ·by_cases hq : okP q
  ·by_cases ho : 0 ≤ ownZ p.sc
   ·by_cases hsc : p.sc = q.sc
    ·refine specSiteYes p q a a' n n' c c' w hS hS' hs hs' hpo hpo' hp hq ho hsc _ _ rfl rfl x ?_
     rw [hx]
     refine ⟨fun h => by rw [h.2.2.2.2], fun e => ⟨hp, hq, ho, hsc, ?_⟩⟩
     have := congrArg (fun b : ByteArray => b.data.toList) e
     simpa only [mk_data] using this
    ·obtain rfl : x = false := by rw [Bool.eq_false_iff]; intro h; exact hsc (hx.1 h).2.2.2.1
     exact specSiteUnlike p q a a' n n' c c' w hS hS' hs hs' hpo hpo' hp hq ho hsc
   ·obtain rfl : x = false := by rw [Bool.eq_false_iff]; intro h; exact ho (hx.1 h).2.2.1
    exact specSiteNoHost p q a a' n n' c c' w hS hS' hs hs' hpo hpo' hp hq ho
  ·obtain rfl : x = false := by rw [Bool.eq_false_iff]; intro h; exact hq (hx.1 h).2.1
   exact specSiteHalf p q a a' n n' c c' w hS hS' hs hs' hpo hpo' hp hq
 ·obtain rfl : x = false := by rw [Bool.eq_false_iff]; intro h; exact hp (hx.1 h).1
  exact specSiteNo p q a a' n n' c c' w hS hS' hs hs' hpo hpo' hp
end Go.Proofs.YtfcbjdooijhibaaGreatDoor
end

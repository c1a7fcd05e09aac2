/- spec.l1Dec and l2Four: numbers in decimals. -/
import Derived.Test.YtdiloljmpcapfaaDoorPutI
import Derived.Deep.RegionHeld3
import Derived.Deep.RegionWith
set_option linter.unusedVariables false
namespace Go.Proofs.YtdiloljmpcapfaaDoor
open Go.RowKit Go.Shelf

/-- A figure's byte. -/
def figC (n : Int) : UInt8 := UInt8.ofNat (48 + n.toNat)
theorem dg_one (n : Int) (h0 : 0 ≤ n) (h : n < 10) : dg n = [figC n] := by
  unfold dg figC; rw [Lib.decDigits, dif_pos (by omega)]
theorem dg_more (n : Int) (h : 10 ≤ n) : dg n = dg (n / 10) ++ [figC (n % 10)] := by
  unfold dg figC; rw [Lib.decDigits, dif_neg (by omega)]
  have e1 : n.toNat / 10 = (n / 10).toNat := by omega
  have e2 : n.toNat % 10 = (n % 10).toNat := by omega
  rw [e1, e2]

theorem conv_one (g : Nat) (c : UInt8) (W : World) (x : Int) (hx : x = (c.toNat : Int)) (hg : W.heap[g]? = some (.cells #[.int .u8 x] 5)) :
    (convert 42 9 (.slice (some ⟨g, 0, none⟩) 1 1)).run Tryd.prog W = .ok (.string (mk [c])) W := by
  have h : OwnB 0 (.slice (some ⟨g, 0, none⟩) 1 1) [c] W := ⟨rfl, .inr ⟨g, 1, #[.int .u8 x], rfl, Nat.zero_le _, hg, Nat.le_refl _, by decide, rfl, by subst hx; rfl⟩⟩
  exact ownB_text h
theorem fig_val (n : Int) (h0 : 0 ≤ n) (h : n < 10) : 48 + n = ((figC n).toNat : Int) := by
  unfold figC; rw [UInt8.toNat_ofNat']; omega

set_option maxHeartbeats 2000000 in
set_option maxRecDepth 100000 in
theorem l1Dec_one (n : Int) (w : World) (h0 : 0 ≤ n) (h : n < 10) :
    Calls Tryd.prog 13 #[.int .i64 n] w fun e w' => e = .returned (.string (mk (dg n))) ∧ Below w.heap.size w w' := by
  have HD : Hid (dg n = [figC n]) := dg_one n h0 h
  have hw1 : IntKind.i64.wrap (48 + n) = 48 + n := by rw [IntKind.wrap_i64]; omega
  have hw2 : IntKind.u8.wrap (48 + n) = 48 + n := by rw [IntKind.wrap_u8]; omega
  have hcv := conv_one w.heap.size _ (w.alloc (.cells #[.int .u8 (48 + n)] 5)) (48 + n) (fig_val n h0 h) (heap_alloc_new w _)
  go_enter Tryd.func13, Tryd.ntmps13
  go_wp2
  go_ret
  exact ⟨by rw [HD.out]; rfl, (Below.refl _ w).alloc (Nat.le_refl _) _⟩

theorem mk_app (a b : List UInt8) : mk (a ++ b) = mk a ++ mk b := by
  apply ByteArray.ext
  simp [mk, ByteArray.data_append]
theorem dec_below1 {w W1 : World} {o : Obj} (b : Below w.drew.heap.size w.drew W1) : Below w.heap.size w (W1.alloc o) :=
  have h : Below w.heap.size w W1 := (Below.refl _ w).drew.trans b
  h.alloc h.size _
theorem dec_below2 {w W1 : World} {o : Obj} (b : Below ((w.alloc o).drew).heap.size (w.alloc o).drew W1) : Below w.heap.size w W1 :=
  have h : Below w.heap.size w (w.alloc o).drew := ((Below.refl _ w).alloc (Nat.le_refl _) _).drew
  h.trans (b.mono h.size)
theorem dec_below3 {w W1 : World} {o : Obj} (b : Below (w.drew.alloc o).heap.size (w.drew.alloc o) W1) : Below w.heap.size w W1 :=
  have h : Below w.heap.size w (w.drew.alloc o) := (Below.refl _ w).drew.alloc (Nat.le_refl _) _
  h.trans (b.mono h.size)
theorem conv_lt (w : World) (o : Obj) : w.heap.size < (w.drew.alloc o).heap.size := by
  have := (Array.getElem?_eq_some_iff.1 (heap_alloc_new w.drew o)).1
  exact this

set_option maxHeartbeats 600000 in
set_option maxRecDepth 100000 in
theorem l1Dec_more (n : Int) (w : World) (h0 : 10 ≤ n) (h : n < 256)
    (HC : ∀ W, Calls Tryd.prog 13 #[.int .i64 (n / 10)] W fun e w' => e = .returned (.string (mk (dg (n / 10)))) ∧ Below W.heap.size W w') :
    Calls Tryd.prog 13 #[.int .i64 n] w fun e w' => e = .returned (.string (mk (dg n))) ∧ Below w.heap.size w w' := by
  have HD : Hid (dg n = dg (n / 10) ++ [figC (n % 10)]) := dg_more n h0
  have hw1 : IntKind.i64.wrap (48 + n % 10) = 48 + n % 10 := by rw [IntKind.wrap_i64]; omega
  have hw2 : IntKind.u8.wrap (48 + n % 10) = 48 + n % 10 := by rw [IntKind.wrap_u8]; omega
  have ht1 : IntKind.i64.wrap (n.tdiv 10) = n / 10 := by rw [Int.tdiv_eq_ediv_of_nonneg (by omega), IntKind.wrap_i64]; omega
  have ht2 : n.tmod 10 = n % 10 := Int.tmod_eq_emod_of_nonneg (by omega)
  have hdv : (mk (dg (n / 10))).size ≤ 3 := by rw [mk_size]; exact dg_len _ (by omega)
  have HFV : Hid (48 + n % 10 = ((figC (n % 10)).toNat : Int)) := fig_val (n % 10) (by omega) (by omega)
  obtain ⟨d, hd⟩ : ∃ d, d = mk (dg (n / 10)) := ⟨_, rfl⟩
  rw [← hd] at hdv
  have HC2 : Hid (∀ W, Calls Tryd.prog 13 #[.int .i64 (n / 10)] W fun e w' => e = .returned (.string d) ∧ Below W.heap.size W w') := by rw [hd]; exact HC
  have HDD : Hid (d = mk (dg (n / 10))) := hd
  clear HC hd
  obtain ⟨q, hq⟩ : ∃ q, q = mk [figC (n % 10)] := ⟨_, rfl⟩
  have hqs : q.size = 1 := by rw [hq, mk_size]; rfl
  have z3 : ¬ (9223372036854775807 < d.size + q.size) := by omega
  have z4 : d.size + q.size ≤ 9223372036854775807 := by omega
  have HQ : Hid (q = mk [figC (n % 10)]) := hq
  have cA : ∀ W : World, (convert 42 9 (.slice (some ⟨W.heap.size, 0, none⟩) 1 1)).run Tryd.prog (W.alloc (.cells #[.int .u8 (48 + n % 10)] 5)) = .ok (.string q) (W.alloc (.cells #[.int .u8 (48 + n % 10)] 5)) := fun W => by
    rw [hq]; exact conv_one W.heap.size (figC (n % 10)) _ (48 + n % 10) HFV.out (heap_alloc_new W _)
  have cB : (convert 42 9 (.slice (some ⟨w.heap.size, 0, none⟩) 1 1)).run Tryd.prog (w.drew.alloc (.cells #[.int .u8 (48 + n % 10)] 5)) = .ok (.string q) (w.drew.alloc (.cells #[.int .u8 (48 + n % 10)] 5)) := cA w.drew
  clear hq hqs hdv
  go_enter Tryd.func13, Tryd.ntmps13
  go_wp2
  go_region_with (first
    | (go_at_call 13; refine (HC2.out _).mono ?_; rintro e W1 ⟨rfl, bW⟩)
    | (rw [conv_one _ (figC (n % 10)) _ (48 + n % 10) HFV.out (by first | exact heap_alloc_new _ _ | exact heap_alloc_new w _ | exact heap_alloc_new W1 _ | exact (bW.block _ (Array.getElem?_eq_some_iff.1 (heap_alloc_new w _)).1).trans (heap_alloc_new w _)), ← HQ.out])
    | fail)
  all_goals
    go_wp2
    go_ret
    refine ⟨by rw [HD.out, mk_app, ← HDD.out, ← HQ.out]; rfl, ?_⟩
    first
      | exact dec_below1 bW
      | exact dec_below2 bW
      | exact dec_below3 bW

theorem l1Dec (n : Int) (w : World) (h0 : 0 ≤ n) (h : n < 256) :
    Calls Tryd.prog 13 #[.int .i64 n] w fun e w' => e = .returned (.string (mk (dg n))) ∧ Below w.heap.size w w' := by
  by_cases h1 : n < 10
  · exact l1Dec_one n w h0 h1
  · refine l1Dec_more n w (by omega) h (fun W => ?_)
    by_cases h2 : n / 10 < 10
    · exact l1Dec_one _ W (by omega) h2
    · exact l1Dec_more _ W (by omega) (by omega) (fun W' => l1Dec_one _ W' (by omega) (by omega))

theorem four_sum (a : Int) (h0 : 0 ≤ a) (h1 : a ≤ 4294967295) : mk (fourT a) = mk (dg (a / 16777216)) ++ mk [46] ++ mk (dg (a / 65536 % 256)) ++ mk [46] ++ mk (dg (a / 256 % 256)) ++ mk [46] ++ mk (dg (a % 256)) := by
  unfold fourT pre3 pre2 pre1
  have e : a / 16777216 % 256 = a / 16777216 := by omega
  rw [e]
  simp only [← mk_app, List.append_assoc]

set_option maxHeartbeats 2000000 in
set_option maxRecDepth 100000 in
theorem l2Four (a : Int) (w : World) (h0 : 0 ≤ a) (h1 : a ≤ 4294967295) :
    Calls Tryd.prog 18 #[.int .i64 a] w fun e w' => e = .returned (.string (mk (fourT a))) ∧ Below w.heap.size w w' := by
  have HS : Hid (mk (fourT a) = mk (dg (a / 16777216)) ++ mk [46] ++ mk (dg (a / 65536 % 256)) ++ mk [46] ++ mk (dg (a / 256 % 256)) ++ mk [46] ++ mk (dg (a % 256))) := four_sum a h0 h1
  have C0 : Hid (∀ W, Calls Tryd.prog 13 #[.int .i64 (a / 16777216)] W fun e w' => e = .returned (.string (mk (dg (a / 16777216)))) ∧ Below W.heap.size W w') := fun W => l1Dec _ W (by omega) (by omega)
  have C1 : Hid (∀ W, Calls Tryd.prog 13 #[.int .i64 (a / 65536 % 256)] W fun e w' => e = .returned (.string (mk (dg (a / 65536 % 256)))) ∧ Below W.heap.size W w') := fun W => l1Dec _ W (by omega) (by omega)
  have C2 : Hid (∀ W, Calls Tryd.prog 13 #[.int .i64 (a / 256 % 256)] W fun e w' => e = .returned (.string (mk (dg (a / 256 % 256)))) ∧ Below W.heap.size W w') := fun W => l1Dec _ W (by omega) (by omega)
  have C3 : Hid (∀ W, Calls Tryd.prog 13 #[.int .i64 (a % 256)] W fun e w' => e = .returned (.string (mk (dg (a % 256)))) ∧ Below W.heap.size W w') := fun W => l1Dec _ W (by omega) (by omega)
  have s0 : (mk (dg (a / 16777216))).size ≤ 3 := by rw [mk_size]; exact dg_len _ (by omega)
  have s1 : (mk (dg (a / 65536 % 256))).size ≤ 3 := by rw [mk_size]; exact dg_len _ (by omega)
  have s2 : (mk (dg (a / 256 % 256))).size ≤ 3 := by rw [mk_size]; exact dg_len _ (by omega)
  have s3 : (mk (dg (a % 256))).size ≤ 3 := by rw [mk_size]; exact dg_len _ (by omega)
  generalize mk (dg (a / 16777216)) = d0 at *
  generalize mk (dg (a / 65536 % 256)) = d1 at *
  generalize mk (dg (a / 256 % 256)) = d2 at *
  generalize mk (dg (a % 256)) = d3 at *
  go_enter Tryd.func18, Tryd.ntmps18
  go_wp2_with fail
  refine (C0.out _).mono ?_
  rintro e W1 ⟨rfl, b1⟩
  go_wp2_with fail
  refine (C1.out _).mono ?_
  rintro e W2 ⟨rfl, b2⟩
  go_wp2_with fail
  refine (C2.out _).mono ?_
  rintro e W3 ⟨rfl, b3⟩
  go_wp2_with fail
  refine (C3.out _).mono ?_
  rintro e W4 ⟨rfl, b4⟩
  have B2 : Below w.heap.size w W2 := b1.trans (b2.mono b1.size)
  have B3 : Below w.heap.size w W3 := B2.trans (b3.mono B2.size)
  have B4 : Below w.heap.size w W4 := B3.trans (b4.mono B3.size)
  clear b1 b2 b3 b4 B2 B3
  go_wp2
  go_ret
  exact ⟨by rw [HS.out]; rfl, B4⟩
end Go.Proofs.YtdiloljmpcapfaaDoor

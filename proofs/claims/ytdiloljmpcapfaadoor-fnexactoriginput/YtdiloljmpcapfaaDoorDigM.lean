/- Numbers of at most five figures, written: strconv.Itoa and spec.l1Dec. -/
import Derived.Test.YtdiloljmpcapfaaDoorDigS
set_option linter.unusedVariables false
namespace Go.Proofs.YtdiloljmpcapfaaDoor
open Go.RowKit Go.Shelf

theorem dg_len5 (x : Int) (h : x < 100000) : (dg x).length ≤ 5 := by
  unfold dg
  obtain ⟨n, hn, hl⟩ : ∃ n, n = x.toNat ∧ n < 100000 := ⟨_, rfl, by omega⟩
  rw [← hn]
  rw [Lib.decDigits]
  split
  · simp
  · rw [Lib.decDigits]
    split
    · simp
    · rw [Lib.decDigits]
      split
      · simp
      · rw [Lib.decDigits]
        split
        · simp
        · rw [Lib.decDigits]
          split
          · simp
          · omega
theorem itoaM (x : Int) (h0 : 0 ≤ x) (h1 : x < 100000) (W : World) (ht : Lib.TabIs Tryd.prog W "internal/strconv.uint64pow10" .u64 Lib.pow10Tab) :
    Calls Tryd.prog 22 #[.int .i64 x] W fun e w' => e = .returned (.string (mk (dg x))) ∧ Below W.heap.size W w' := by
  refine (Tryd.strconv_Itoa x (by omega) (by omega) W ht).mono ?_
  rintro e w' ⟨rfl, k, os, rfl⟩
  exact ⟨by rw [itoa_dg x h0]; rfl, Lib.below_grow _ _ (Nat.le_refl _) k os⟩

set_option maxHeartbeats 600000 in
set_option maxRecDepth 100000 in
theorem l1Dec_step (n : Int) (w : World) (h0 : 10 ≤ n) (h : n < 100000)
    (HC : ∀ W, Calls Tryd.prog 13 #[.int .i64 (n / 10)] W fun e w' => e = .returned (.string (mk (dg (n / 10)))) ∧ Below W.heap.size W w') :
    Calls Tryd.prog 13 #[.int .i64 n] w fun e w' => e = .returned (.string (mk (dg n))) ∧ Below w.heap.size w w' := by
  have HD : Hid (dg n = dg (n / 10) ++ [figC (n % 10)]) := dg_more n h0
  have hw1 : IntKind.i64.wrap (48 + n % 10) = 48 + n % 10 := by rw [IntKind.wrap_i64]; omega
  have hw2 : IntKind.u8.wrap (48 + n % 10) = 48 + n % 10 := by rw [IntKind.wrap_u8]; omega
  have ht1 : IntKind.i64.wrap (n.tdiv 10) = n / 10 := by rw [Int.tdiv_eq_ediv_of_nonneg (by omega), IntKind.wrap_i64]; omega
  have ht2 : n.tmod 10 = n % 10 := Int.tmod_eq_emod_of_nonneg (by omega)
  have hdv : (mk (dg (n / 10))).size ≤ 5 := by rw [mk_size]; exact dg_len5 _ (by omega)
  have HFV : Hid (48 + n % 10 = ((figC (n % 10)).toNat : Int)) := fig_val (n % 10) (by omega) (by omega)
  obtain ⟨d, hd⟩ : ∃ d, d = mk (dg (n / 10)) := ⟨_, rfl⟩
  rw [← hd] at hdv
  have HC2 : Hid (∀ W, Calls Tryd.prog 13 #[.int .i64 (n / 10)] W fun e w' => e = .returned (.string d) ∧ Below W.heap.size W w') := by rw [hd]; exact HC
  have HDD : Hid (d = mk (dg (n / 10))) := hd
  clear HC hd
  obtain ⟨q, hq⟩ : ∃ q, q = mk [figC (n % 10)] := ⟨_, rfl⟩
  have hqs : q.size = 1 := by rw [hq, mk_size]; rfl
  have z3 : ¬ (9223372036854775807 < d.size + q.size) := by omega
  have z4 : d.size + q.size ≤ 9223372036854775807 := by omega
  have HQ : Hid (q = mk [figC (n % 10)]) := hq
  have cA : ∀ W : World, (convert 42 9 (.slice (some ⟨W.heap.size, 0, none⟩) 1 1)).run Tryd.prog (W.alloc (.cells #[.int .u8 (48 + n % 10)] 5)) = .ok (.string q) (W.alloc (.cells #[.int .u8 (48 + n % 10)] 5)) := fun W => by
    rw [hq]; exact conv_one W.heap.size (figC (n % 10)) _ (48 + n % 10) HFV.out (heap_alloc_new W _)
  have cB : (convert 42 9 (.slice (some ⟨w.heap.size, 0, none⟩) 1 1)).run Tryd.prog (w.drew.alloc (.cells #[.int .u8 (48 + n % 10)] 5)) = .ok (.string q) (w.drew.alloc (.cells #[.int .u8 (48 + n % 10)] 5)) := cA w.drew
  clear hq hqs hdv
  go_enter Tryd.func13, Tryd.ntmps13
  go_wp2
  go_region_with (first
    | (go_at_call 13; refine (HC2.out _).mono ?_; rintro e W1 ⟨rfl, bW⟩)
    | (rw [conv_one _ (figC (n % 10)) _ (48 + n % 10) HFV.out (by first | exact heap_alloc_new _ _ | exact heap_alloc_new w _ | exact heap_alloc_new W1 _ | exact (bW.block _ (Array.getElem?_eq_some_iff.1 (heap_alloc_new w _)).1).trans (heap_alloc_new w _)), ← HQ.out])
    | fail)
  all_goals
    go_wp2
    go_ret
    refine ⟨by rw [HD.out, mk_app, ← HDD.out, ← HQ.out]; rfl, ?_⟩
    first
      | exact dec_below1 bW
      | exact dec_below2 bW
      | exact dec_below3 bW


theorem l1DecF : ∀ (f : Nat) (n : Int) (w : World), 0 ≤ n → n < 100000 → n ≤ (f : Int) →
    Calls Tryd.prog 13 #[.int .i64 n] w fun e w' => e = .returned (.string (mk (dg n))) ∧ Below w.heap.size w w' := by
  intro f
  induction f with
  | zero => intro n w h0 h hf; exact l1Dec_one n w h0 (by omega)
  | succ f ih =>
    intro n w h0 h hf
    by_cases h1 : n < 10
    · exact l1Dec_one n w h0 h1
    · exact l1Dec_step n w (by omega) h (fun W => ih (n / 10) W (by omega) (by omega) (by omega))
theorem l1DecM (n : Int) (w : World) (h0 : 0 ≤ n) (h : n < 100000) :
    Calls Tryd.prog 13 #[.int .i64 n] w fun e w' => e = .returned (.string (mk (dg n))) ∧ Below w.heap.size w w' := l1DecF n.toNat n w h0 h (by omega)
end Go.Proofs.YtdiloljmpcapfaaDoor

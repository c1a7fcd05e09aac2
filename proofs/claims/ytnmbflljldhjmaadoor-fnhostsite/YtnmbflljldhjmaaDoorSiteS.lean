/- spec.HostPut, spec.HostSite. -/
import Derived.Test.YtnmbflljldhjmaaDoorSiteJ
set_option linter.unusedVariables false
namespace Go.Proofs.YtnmbflljldhjmaaDoor
open Go.RowKit Go.Shelf

set_option maxHeartbeats 2000000 in
set_option maxRecDepth 100000 in
theorem specPutFour (s : ByteArray) (a : Int) (w : World) (hk : okH 2 s a = true) (h0 : 0 ≤ a) (h1 : a ≤ 4294967295) (hs : s.size ≤ 1048576) :
    Calls Tryd.prog 13 #[.agg #[.int .i64 2, .string s, .int .i64 a]] w fun e w' => e = .returned (.string (mk (fourT a))) ∧ Below w.heap.size w w' := by
  have CO : Hid (∀ W, Calls Tryd.prog 7 #[.agg #[.int .i64 2, .string s, .int .i64 a]] W fun e w' => e = .returned (.bool true) ∧ Below W.heap.size W w') := fun W => by rw [← hk]; exact specOk 2 s a W hs
  have CF : Hid (∀ W, Calls Tryd.prog 32 #[.int .i64 a] W fun e w' => e = .returned (.string (mk (fourT a))) ∧ Below W.heap.size W w') := fun W => l2Four a W h0 h1
  generalize mk (fourT a) = r at *
  clear hk
  go_enter Tryd.func13, Tryd.ntmps13
  go_wp2_with fail
  refine (CO.out _).mono ?_
  rintro e W1 ⟨rfl, b1⟩
  have B1 : Below w.heap.size w W1 := box_below b1
  have c0 : W1.cell? ⟨w.heap.size, 0, none⟩ = some (.int .i64 2) := box_cell b1 0
  have c2 : W1.cell? ⟨w.heap.size, 2, none⟩ = some (.int .i64 a) := box_cell b1 2
  clear b1
  go_wp2_with fail
  refine (CF.out _).mono ?_
  rintro e W2 ⟨rfl, b2⟩
  have B2 : Below w.heap.size w W2 := B1.trans (b2.mono B1.size)
  clear b2 c0 c2
  go_wp2
  go_ret
  exact ⟨rfl, B2⟩
set_option maxHeartbeats 2000000 in
set_option maxRecDepth 100000 in
theorem specPutNone (w : World) :
    Calls Tryd.prog 13 #[.agg #[.int .i64 0, .string ⟨#[]⟩, .int .i64 0]] w fun e w' => e = .returned (.string (mk [])) ∧ Below w.heap.size w w' := by
  have hk : okH 0 ⟨#[]⟩ 0 = true := by rw [ok_zero]; rfl
  have CO : Hid (∀ W, Calls Tryd.prog 7 #[.agg #[.int .i64 0, .string ⟨#[]⟩, .int .i64 0]] W fun e w' => e = .returned (.bool true) ∧ Below W.heap.size W w') := fun W => by rw [← hk]; exact specOk 0 ⟨#[]⟩ 0 W (Nat.zero_le _)
  clear hk
  go_enter Tryd.func13, Tryd.ntmps13
  go_wp2_with fail
  refine (CO.out _).mono ?_
  rintro e W1 ⟨rfl, b1⟩
  have B1 : Below w.heap.size w W1 := box_below b1
  have c0 : W1.cell? ⟨w.heap.size, 0, none⟩ = some (.int .i64 0) := box_cell b1 0
  have c1 : W1.cell? ⟨w.heap.size, 1, none⟩ = some (.string ⟨#[]⟩) := box_cell b1 1
  clear b1
  go_wp2
  go_ret
  exact ⟨rfl, B1⟩

set_option maxHeartbeats 4000000 in
set_option maxRecDepth 100000 in
theorem specSite (k : Int) (s : ByteArray) (a : Int) (w : World) (hs : s.size ≤ 1048576) :
    Calls Tryd.prog 6 #[.agg #[.int .i64 k, .string s, .int .i64 a]] w fun e w' => e = .returned (.string (mk (siteT k s a))) ∧ Below w.heap.size w w' := by
  have CO : Hid (∀ W, Calls Tryd.prog 7 #[.agg #[.int .i64 k, .string s, .int .i64 a]] W fun e w' => e = .returned (.bool (okH k s a)) ∧ Below W.heap.size W w') := fun W => specOk k s a W hs
  cases h1 : named k s a with
  | true =>
    obtain ⟨rfl, rfl, h60⟩ := named_facts h1
    have hok : okH 1 s 0 = true := by unfold okH; rw [h1]; simp
    rw [site_named h1]
    rw [hok] at CO
    have hl : s.data.toList.length = s.size := by simp
    have CP : Hid (∀ W, Calls Tryd.prog 14 #[.string s] W fun e w' => ∃ g c, e = .returned (.slice (some ⟨g, 0, none⟩) (partsL s.data.toList).length c) ∧ W.heap.size ≤ g ∧ StrsAt g (partsL s.data.toList) w' ∧ Below W.heap.size W w') := fun W => l2Parts s W hs
    have g1 := partsL_ne s.data.toList
    have hll := partsL_len_le s.data.toList
    have hq9 := lastP_le s.data.toList
    have hf9 := foreP_le s.data.toList
    have HQ : Hid (∀ g W, StrsAt g (partsL s.data.toList) W → W.cell? ⟨g, (partsL s.data.toList).length - 1, none⟩ = some (.string (mk (lastP s.data.toList)))) := fun g W h => h.cell _ (by omega)
    have HFC : Hid (∀ g W, StrsAt g (partsL s.data.toList) W → 2 ≤ (partsL s.data.toList).length → W.cell? ⟨g, (partsL s.data.toList).length - 2, none⟩ = some (.string (mk (foreP s.data.toList)))) := fun g W h h2 => foreP_cell _ g W h h2
    have HL1 : Hid ((partsL s.data.toList).length < 2 → mk (siteL s.data.toList) = mk (lastP s.data.toList)) := fun h => by unfold siteL; rw [if_pos h]
    have HL2 : Hid (¬ (partsL s.data.toList).length < 2 → mk (siteL s.data.toList) = mk (foreP s.data.toList) ++ mk [46] ++ mk (lastP s.data.toList)) := fun h => by unfold siteL; rw [if_neg h, mk_app, mk_app, ByteArray.append_assoc]
    have z1 : (mk (lastP s.data.toList)).size ≤ 60 := by rw [mk_size]; omega
    have z2 : (mk (foreP s.data.toList)).size ≤ 60 := by rw [mk_size]; omega
    generalize mk (lastP s.data.toList) = q at *
    generalize mk (foreP s.data.toList) = p at *
    generalize mk (siteL s.data.toList) = r at *
    obtain ⟨n, hn⟩ : ∃ n, (partsL s.data.toList).length = n + 1 := ⟨(partsL s.data.toList).length - 1, by omega⟩
    rw [hn] at CP HQ HFC HL1 HL2 hll
    have hn9 : n ≤ 61 := by omega
    clear hn hll hq9 hf9 hl g1 hok h1
    by_cases h0 : n = 0
    · have HR : Hid (r = q) := HL1.out (by omega)
      subst h0
      go_enter Tryd.func6, Tryd.ntmps6
      go_wp2_with fail
      refine (CO.out _).mono ?_
      rintro e W1 ⟨rfl, b1⟩
      have B1 : Below w.heap.size w W1 := box_below b1
      have c0 : W1.cell? ⟨w.heap.size, 0, none⟩ = some (.int .i64 1) := box_cell b1 0
      have c1 : W1.cell? ⟨w.heap.size, 1, none⟩ = some (.string s) := box_cell b1 1
      clear b1
      go_wp2_with fail
      refine (CP.out _).mono ?_
      rintro e W2 ⟨g, c, rfl, hg, hS, b2⟩
      have B2 : Hid (Below w.heap.size w W2) := B1.trans (b2.mono B1.size)
      have hc : W2.cell? ⟨g, 0, none⟩ = some (.string q) := HQ.out _ _ hS
      clear b2 B1 c0 c1 hS hg
      go_wp2
      go_ret
      exact ⟨by rw [HR.out]; rfl, B2.out⟩
    · have HR : Hid (r = p ++ mk [46] ++ q) := HL2.out (by omega)
      obtain ⟨m, hm⟩ : ∃ m, n = m + 1 := ⟨n - 1, by omega⟩
      subst hm
      go_enter Tryd.func6, Tryd.ntmps6
      go_wp2_with fail
      refine (CO.out _).mono ?_
      rintro e W1 ⟨rfl, b1⟩
      have B1 : Below w.heap.size w W1 := box_below b1
      have c0 : W1.cell? ⟨w.heap.size, 0, none⟩ = some (.int .i64 1) := box_cell b1 0
      have c1 : W1.cell? ⟨w.heap.size, 1, none⟩ = some (.string s) := box_cell b1 1
      clear b1
      go_wp2_with fail
      refine (CP.out _).mono ?_
      rintro e W2 ⟨g, c, rfl, hg, hS, b2⟩
      have B2 : Hid (Below w.heap.size w W2) := B1.trans (b2.mono B1.size)
      have hc : W2.cell? ⟨g, m + 1, none⟩ = some (.string q) := HQ.out _ _ hS
      have hc2 : W2.cell? ⟨g, m, none⟩ = some (.string p) := HFC.out _ _ hS (by omega)
      clear b2 B1 c0 c1 hS hg
      have j0 : ¬ ((m : Int) + 1 + 1 < 2) := by omega
      have w2e : IntKind.i64.wrap ((m : Int) + 1 + 1 - 1) = (m : Int) + 1 := by rw [IntKind.wrap_i64]; omega
      have w2f : IntKind.i64.wrap ((m : Int) + 1 + 1 - 2) = (m : Int) := by rw [IntKind.wrap_i64]; omega
      have w3e : IntKind.i64.wrap (m : Int) = (m : Int) := by rw [IntKind.wrap_i64]; omega
      have w4e : IntKind.i64.wrap ((m : Int) + 1) = (m : Int) + 1 := by rw [IntKind.wrap_i64]; omega
      have i1 : (0 : Int) ≤ (m : Int) := by omega
      have i2 : (0 : Int) ≤ (m : Int) + 1 := by omega
      have i3 : (m : Int) + 1 < (m : Int) + 1 + 1 := by omega
      have i4 : (m : Int) < (m : Int) + 1 + 1 := by omega
      have t1 : ((m : Int)).toNat = m := by omega
      have t2 : ((m : Int) + 1).toNat = m + 1 := by omega
      have z3 : ¬ (9223372036854775807 < p.size + 1) := by omega
      have z4 : ¬ (9223372036854775807 < p.size + 1 + q.size) := by omega
      have z5 : p.size + 1 ≤ 9223372036854775807 := by omega
      have z6 : p.size + 1 + q.size ≤ 9223372036854775807 := by omega
      go_wp2
      go_region_held3 (fun W => W.cell? ⟨g, m, none⟩ = some (.string p) ∧ W.cell? ⟨g, m + 1, none⟩ = some (.string q)) (first | (exact ⟨hc2, hc⟩) | assumption) (fail)
      all_goals
        go_wp2
        go_ret
        exact ⟨by rw [HR.out]; rfl, B2.out.drew⟩
  | false =>
    cases h2 : numbered k s a with
    | true =>
      obtain ⟨rfl, g0, g1, _⟩ := numbered_facts h2
      have hok : okH 2 s a = true := by unfold okH; rw [h2]; simp
      have CP : Hid (∀ W, Calls Tryd.prog 13 #[.agg #[.int .i64 2, .string s, .int .i64 a]] W fun e w' => e = .returned (.string (mk (fourT a))) ∧ Below W.heap.size W w') := fun W => specPutFour s a W hok g0 g1 hs
      rw [site_numbered h1 h2]
      rw [hok] at CO
      generalize mk (fourT a) = r at *
      clear h1 h2 hok
      go_enter Tryd.func6, Tryd.ntmps6
      go_wp2_with fail
      refine (CO.out _).mono ?_
      rintro e W1 ⟨rfl, b1⟩
      have B1 : Below w.heap.size w W1 := box_below b1
      have c0 : W1.cell? ⟨w.heap.size, 0, none⟩ = some (.int .i64 2) := box_cell b1 0
      have c1 : W1.cell? ⟨w.heap.size, 1, none⟩ = some (.string s) := box_cell b1 1
      have c2 : W1.cell? ⟨w.heap.size, 2, none⟩ = some (.int .i64 a) := box_cell b1 2
      clear b1
      go_wp2_with fail
      refine (CP.out _).mono ?_
      rintro e W2 ⟨rfl, b2⟩
      have B2 : Below w.heap.size w W2 := B1.trans (b2.mono B1.size)
      clear b2 c0 c1 c2
      go_wp2
      go_ret
      exact ⟨rfl, B2⟩
    | false =>
      rw [site_none h1 h2]
      cases h3 : noneH k s a with
      | true =>
        have hok : okH k s a = true := by unfold okH; rw [h3]; rfl
        have h4 : (k = 0 ∧ a = 0) ∧ s.size = 0 := by
          unfold noneH at h3
          rw [Bool.and_eq_true, decide_eq_true_eq, List.isEmpty_iff] at h3
          refine ⟨h3.1, ?_⟩
          have hl : s.data.toList.length = s.size := by simp
          rw [h3.2] at hl; simpa using hl.symm
        obtain ⟨⟨rfl, rfl⟩, h5⟩ := h4
        have he := zero_text s h5
        subst he
        rw [hok] at CO
        have CP : Hid (∀ W, Calls Tryd.prog 13 #[.agg #[.int .i64 0, .string ⟨#[]⟩, .int .i64 0]] W fun e w' => e = .returned (.string (mk [])) ∧ Below W.heap.size W w') := fun W => specPutNone W
        clear h1 h2 hok h3 h5
        go_enter Tryd.func6, Tryd.ntmps6
        go_wp2_with fail
        refine (CO.out _).mono ?_
        rintro e W1 ⟨rfl, b1⟩
        have B1 : Below w.heap.size w W1 := box_below b1
        have c0 : W1.cell? ⟨w.heap.size, 0, none⟩ = some (.int .i64 0) := box_cell b1 0
        have c1 : W1.cell? ⟨w.heap.size, 1, none⟩ = some (.string ⟨#[]⟩) := box_cell b1 1
        have c2 : W1.cell? ⟨w.heap.size, 2, none⟩ = some (.int .i64 0) := box_cell b1 2
        clear b1
        go_wp2_with fail
        refine (CP.out _).mono ?_
        rintro e W2 ⟨rfl, b2⟩
        have B2 : Below w.heap.size w W2 := B1.trans (b2.mono B1.size)
        clear b2 c0 c1 c2
        go_wp2
        go_ret
        exact ⟨rfl, B2⟩
      | false =>
        have hok : okH k s a = false := by unfold okH; rw [h1, h2, h3]; rfl
        rw [hok] at CO
        clear h1 h2 h3 hok
        go_enter Tryd.func6, Tryd.ntmps6
        go_wp2_with fail
        refine (CO.out _).mono ?_
        rintro e W1 ⟨rfl, b1⟩
        have B1 : Below w.heap.size w W1 := box_below b1
        clear b1
        go_wp2
        go_ret
        exact ⟨rfl, B1⟩
end Go.Proofs.YtnmbflljldhjmaaDoor

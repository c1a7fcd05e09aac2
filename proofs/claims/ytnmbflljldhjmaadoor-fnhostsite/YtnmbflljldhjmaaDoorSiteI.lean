/- impl.hostSiteOf, impl.HostSite. -/
import Derived.Test.YtnmbflljldhjmaaDoorDigS
import Derived.Test.YtnmbflljldhjmaaDoorTaI
set_option linter.unusedVariables false
namespace Go.Proofs.YtnmbflljldhjmaaDoor
open Go.RowKit Go.Shelf

/-- The part ahead of the last one. -/
def foreP (l : List UInt8) : List UInt8 := ((partsL l)[(partsL l).length - 2]?).getD []
/-- The last two labels. -/
def siteL (l : List UInt8) : List UInt8 := if (partsL l).length < 2 then lastP l else foreP l ++ ([46] ++ lastP l)
theorem foreP_le (l : List UInt8) : (foreP l).length ≤ l.length := by
  unfold foreP
  cases h : (partsL l)[(partsL l).length - 2]? with
  | none => simp
  | some p => exact partsL_mem_le l p (List.mem_of_getElem? h)
theorem foreP_cell (l : List UInt8) (g : Nat) (W : World) (h : StrsAt g (partsL l) W) (h2 : 2 ≤ (partsL l).length) : W.cell? ⟨g, (partsL l).length - 2, none⟩ = some (.string (mk (foreP l))) := by
  rw [h.cell ((partsL l).length - 2) (by omega)]
  unfold foreP
  rw [List.getElem?_eq_getElem (by omega)]; rfl

def siteT (k : Int) (s : ByteArray) (a : Int) : List UInt8 := if named k s a = true then siteL s.data.toList else if numbered k s a = true then fourT a else []

theorem cloneAt (s : ByteArray) (w : World) (hs : s.size ≤ 60) : Calls Tryd.prog 28 #[.string s] w fun e w' => e = .returned (.string s) ∧ Below w.heap.size w w' := by
  have CC : Hid (∀ W, Calls Tryd.prog 43 #[.string s] W fun e w' => e = .returned (.string s) ∧ Below W.heap.size W w') := fun W => Tryd.stringslite_Clone s W (by omega)
  go_enter Tryd.func28, Tryd.ntmps28
  go_wp2_with fail
  refine (CC.out _).mono ?_
  rintro e W1 ⟨rfl, b1⟩
  go_wp2
  go_ret
  exact ⟨rfl, b1⟩

set_option maxHeartbeats 4000000 in
set_option maxRecDepth 100000 in
theorem siteNamed (s : ByteArray) (w : World) (hm : ∃ m, w.cell? ⟨0, 0, none⟩ = some (.int .i64 m)) (hs : s.size ≤ 60) :
    Calls Tryd.prog 11 #[.iface 52 (.string s)] w fun e w' => e = .returned (.string (mk (siteL s.data.toList))) ∧ Below w.heap.size w w' := by
  have hl : s.data.toList.length = s.size := by simp
  have CP : Hid (Calls Tryd.prog 27 #[.string s] w fun e w' => ∃ c, e = .returned (.slice (some ⟨w.heap.size, 0, none⟩) (partsL s.data.toList).length c) ∧ StrsAt w.heap.size (partsL s.data.toList) w' ∧ Below w.heap.size w w') := hostParts s w (by omega) hm
  have h1 := partsL_ne s.data.toList
  have hll := partsL_len_le s.data.toList
  have hq9 := lastP_le s.data.toList
  have hf9 := foreP_le s.data.toList
  have HQ : Hid (∀ g W, StrsAt g (partsL s.data.toList) W → W.cell? ⟨g, (partsL s.data.toList).length - 1, none⟩ = some (.string (mk (lastP s.data.toList)))) := fun g W h => h.cell _ (by omega)
  have HFC : Hid (∀ g W, StrsAt g (partsL s.data.toList) W → 2 ≤ (partsL s.data.toList).length → W.cell? ⟨g, (partsL s.data.toList).length - 2, none⟩ = some (.string (mk (foreP s.data.toList)))) := fun g W h h2 => foreP_cell _ g W h h2
  have HL1 : Hid ((partsL s.data.toList).length < 2 → mk (siteL s.data.toList) = mk (lastP s.data.toList)) := fun h => by unfold siteL; rw [if_pos h]
  have HL2 : Hid (¬ (partsL s.data.toList).length < 2 → mk (siteL s.data.toList) = mk (foreP s.data.toList) ++ mk [46] ++ mk (lastP s.data.toList)) := fun h => by unfold siteL; rw [if_neg h, mk_app, mk_app, ByteArray.append_assoc]
  have z1 : (mk (lastP s.data.toList)).size ≤ 60 := by rw [mk_size]; omega
  have z2 : (mk (foreP s.data.toList)).size ≤ 60 := by rw [mk_size]; omega
  generalize mk (lastP s.data.toList) = q at *
  generalize mk (foreP s.data.toList) = p at *
  generalize mk (siteL s.data.toList) = r at *
  obtain ⟨n, hn⟩ : ∃ n, (partsL s.data.toList).length = n + 1 := ⟨(partsL s.data.toList).length - 1, by omega⟩
  rw [hn] at CP HQ HFC HL1 HL2 hll
  have hn9 : n ≤ 61 := by omega
  have hn1 : (n : Int) + 1 - 1 = (n : Int) := by omega
  clear hn hll hq9 hf9 hl h1 hm
  by_cases h0 : n = 0
  · have HR : Hid (r = q) := HL1.out (by omega)
    subst h0
    have tn := ta_named (.string s) w
    go_enter Tryd.func11, Tryd.ntmps11
    go_wp2_with fail
    refine CP.out.mono ?_
    rintro e w1 ⟨c, rfl, hS, hB⟩
    have hc : w1.cell? ⟨w.heap.size, 0, none⟩ = some (.string q) := HQ.out _ _ hS
    have HB : Hid (Below w.heap.size w w1) := hB
    clear hS hB HQ
    go_wp2_with fail
    refine (cloneAt q _ z1).mono ?_
    rintro e W2 ⟨rfl, b2⟩
    have B2 : Below w.heap.size w W2 := HB.out.trans (b2.mono HB.out.size)
    clear b2
    go_wp2
    go_ret
    exact ⟨by rw [HR.out]; rfl, B2⟩
  · have HR : Hid (r = p ++ mk [46] ++ q) := HL2.out (by omega)
    have hn0 : ((n : Int) == 0) = false := by rw [beq_eq_false_iff_ne]; omega
    obtain ⟨m, hm⟩ : ∃ m, n = m + 1 := ⟨n - 1, by omega⟩
    subst hm
    have hm1 : ((m + 1 : Nat) : Int) - 1 = (m : Int) := by omega
    have tn := ta_named (.string s) w
    go_enter Tryd.func11, Tryd.ntmps11
    go_wp2_with fail
    refine CP.out.mono ?_
    rintro e w1 ⟨c, rfl, hS, hB⟩
    have hc : w1.cell? ⟨w.heap.size, m + 1, none⟩ = some (.string q) := HQ.out _ _ hS
    have hc2 : w1.cell? ⟨w.heap.size, m, none⟩ = some (.string p) := HFC.out _ _ hS (by omega)
    have HB : Hid (Below w.heap.size w w1) := hB
    clear hS hB HQ HFC
    have w1e : IntKind.i64.wrap (((m + 1 : Nat) : Int) - 1) = (m : Int) := by rw [IntKind.wrap_i64]; omega
    have w2e : IntKind.i64.wrap ((m : Int) + 1 - 1) = (m : Int) := by rw [IntKind.wrap_i64]; omega
    have w3e : IntKind.i64.wrap (m : Int) = (m : Int) := by rw [IntKind.wrap_i64]; omega
    have i1 : (0 : Int) ≤ (m : Int) := by omega
    have i2 : (0 : Int) ≤ (m : Int) + 1 := by omega
    have i3 : (m : Int) + 1 < (m : Int) + 1 + 1 := by omega
    have i4 : (m : Int) < (m : Int) + 1 + 1 := by omega
    have t1 : ((m : Int)).toNat = m := by omega
    have t2 : ((m : Int) + 1).toNat = m + 1 := by omega
    have z3 : ¬ (9223372036854775807 < p.size + 1) := by omega
    have z4 : ¬ (9223372036854775807 < p.size + 1 + q.size) := by omega
    have z5 : p.size + 1 ≤ 9223372036854775807 := by omega
    have z6 : p.size + 1 + q.size ≤ 9223372036854775807 := by omega
    go_wp2
    go_region_held3 (fun W => W.cell? ⟨w.heap.size, m, none⟩ = some (.string p) ∧ W.cell? ⟨w.heap.size, m + 1, none⟩ = some (.string q)) (first | (exact ⟨hc2, hc⟩) | assumption) (fail)
    all_goals
      go_wp2
      go_ret
      exact ⟨by rw [HR.out]; rfl, HB.out.drew⟩
end Go.Proofs.YtnmbflljldhjmaaDoor

/- spec.DrawFormPut draws at most three pairs of at most three bytes each. -/
import Derived.Test.YtjjpbkoglnimaaaDoorDrForm
import Derived.Test.YtjjpbkoglnimaaaDoorFormGS
import Derived.Test.YtjjpbkoglnimaaaDoorFormTP
set_option linter.unusedVariables false
namespace Go.Proofs.YtjjpbkoglnimaaaDoor
open Go.RowKit Go.Shelf

theorem OwnP.keptRd {B0 B r p : Nat} {v : Value} {ps : List PairL} {w w' : World} (h : OwnP B0 v ps w) (hr : Rd B r p w) (hg : w.grownBy w' (some r)) : OwnP B0 v ps w' := by
  obtain ⟨_, a, len, cap, z, hh, _⟩ := hr
  refine ⟨h.1, ?_⟩
  rcases h.2 with h | ⟨g, cap, cur, hv, hB, hgg, hnc, hcm, hcs, ht⟩
  · exact .inl h
  · refine .inr ⟨g, cap, cur, hv, hB, ?_, hnc, hcm, hcs, ht⟩
    rw [hg.block g (Array.getElem?_eq_some_iff.1 hgg).1 ?_]
    · exact hgg
    · intro e
      simp only [Option.some.injEq] at e
      subst e
      rw [hh] at hgg
      simp at hgg
theorem Rd.keptT {B r p B1 : Nat} {w w' : World} (h : Rd B r p w) (hk : KeptT w w') (hb : Below B1 w w') (hB : B ≤ B1) : Rd B r p w' := by
  obtain ⟨_, a, len, cap, z, hh, _⟩ := id h
  exact h.stays (hk r _ _ _ hh (by decide)) (fun k hk => hb.block k (by omega))
theorem totP_app (ps : List PairL) (p : PairL) : totP (ps ++ [p]) = totP ps + (p.1.length + p.2.length) := by simp [totP]

set_option maxHeartbeats 4000000 in
set_option maxRecDepth 100000 in
theorem drawFormPut (B : Nat) (a : Option Addr) (len cap : Nat) (w : World) (hB : B ≤ w.heap.size) (h : Code B w a len cap) :
    Calls Tryd.prog 7 #[.slice a len cap] w fun e w' => ∃ (v : Value) (ps : List PairL), e = .returned v ∧ OwnP w.heap.size v ps w' ∧ ps.length ≤ 3 ∧ totP ps ≤ 18 ∧ Below w.heap.size w w' := by
  go_enter Tryd.func7, Tryd.ntmps7
  go_wp2_with fail
  refine (l1Open B a len cap _ hB h).mono ?_
  rintro e w1 ⟨rfl, hr, b1⟩
  have hr' := rd_alloc' hr (.cells #[] 41)
  have hO := ownP_new w1 w.heap.size b1.size
  have b1' : Below w.heap.size w (w1.alloc (.cells #[] 41)) := b1.alloc b1.size _
  go_wp2_with fail
  refine (pick B w.heap.size 0 4 _ (by decide) (by decide) (by decide) hr').mono ?_
  rintro e w2 ⟨v, rfl, hv0, hv1, hr2, hg2⟩
  have hO2 := hO.keptRd hr' hg2
  have hb2 : Below w.heap.size w w2 := b1'.trans (below_grown hg2 (Nat.le_refl _) b1'.size)
  obtain ⟨n, rfl⟩ := Int.eq_ofNat_of_zero_le hv0
  have hn : n ≤ 3 := by omega
  clear hv0 hv1 hr hr' hO b1 b1' hg2
  go_wp2_with fail
  go_loopw [4, 5] (fun o i wr => ∃ (j : Nat) (ps : List PairL) (q : Nat), j ≤ n ∧ i = .int .i64 j ∧ OwnP w.heap.size o ps wr ∧ ps.length + j ≤ 3 ∧ totP ps ≤ 6 * ps.length ∧ q + 100 * j ≤ 1000 ∧ Rd B w.heap.size q wr ∧ Below w.heap.size w wr) (fun _ i wr => (intOf i).toNat)
  case atStart => exact ⟨n, [], 1, Nat.le_refl _, rfl, hO2, by simpa using hn, by decide, by omega, hr2, hb2⟩
  case round =>
    clear hO2 hr2 hb2
    obtain ⟨j, ps, q, hj, rfl, hI, hpl, hpt, hq, hR, hbw⟩ := hrel
    by_cases h0 : j = 0
    · subst h0
      go_wp2
      go_ret
      exact ⟨_, ps, rfl, hI, by omega, by omega, hbw⟩
    · have h0i : (0 : Int) < (j : Int) := by omega
      go_wp2_with fail
      refine (pick B w.heap.size q 4 _ (by decide) (by decide) (by omega) hR).mono ?_
      rintro e w3 ⟨x, rfl, hx0, hx1, hr3, hg3⟩
      have hI3 := hI.keptRd hR hg3
      have hb3 : Below w.heap.size w w3 := hbw.trans (below_grown hg3 (Nat.le_refl _) hbw.size)
      go_wp2_with fail
      refine (l11BytesI B w.heap.size (q + 1) x _ hx0 (by omega) (by omega) hr3).mono ?_
      rintro e w4 ⟨l, rfl, hl, hr4, hg4⟩
      have hI4 := hI3.keptRd hr3 hg4
      have hb4 : Below w.heap.size w w4 := hb3.trans (below_grown hg4 (Nat.le_refl _) hb3.size)
      go_wp2_with fail
      refine (pick B w.heap.size (q + 1 + 2 * x.toNat) 4 _ (by decide) (by decide) (by omega) hr4).mono ?_
      rintro e w5 ⟨y, rfl, hy0, hy1, hr5, hg5⟩
      have hI5 := hI4.keptRd hr4 hg5
      have hb5 : Below w.heap.size w w5 := hb4.trans (below_grown hg5 (Nat.le_refl _) hb4.size)
      go_wp2_with fail
      refine (l11BytesI B w.heap.size (q + 1 + 2 * x.toNat + 1) y _ hy0 (by omega) (by omega) hr5).mono ?_
      rintro e w6 ⟨l', rfl, hl', hr6, hg6⟩
      have hI6 := hI5.keptRd hr5 hg6
      have hb6 : Below w.heap.size w w6 := hb5.trans (below_grown hg6 (Nat.le_refl _) hb5.size)
      have hsz6 := hb6.size
      clear hI hI3 hI4 hI5 hR hr3 hr4 hr5 hbw hb3 hb4 hb5 hg3 hg4 hg5 hg6
      have hll : l.length ≤ 3 := by omega
      have hll' : l'.length ≤ 3 := by omega
      have hxt : x.toNat ≤ 3 := by omega
      have hyt : y.toNat ≤ 3 := by omega
      clear hl hl'
      go_wp2_with (at_builtin; refine wpAppendPairK w6 rfl _ _ rfl w.heap.size _ ps (l, l') _ _ rfl rfl hI6 rfl _ rfl (by first | rfl | simp) (by omega) hsz6 ?_; intro v1 w7 R b7 k7)
      go_roundw
      case rel => exact ⟨j - 1, ps ++ [(l, l')], _, by omega, by go_num, R, by simp; omega, by rw [totP_app]; simp; omega, by omega, hr6.keptT k7 b7 (by omega), hb6.trans b7⟩
      case measure => simp [intOf]; omega
end Go.Proofs.YtjjpbkoglnimaaaDoor

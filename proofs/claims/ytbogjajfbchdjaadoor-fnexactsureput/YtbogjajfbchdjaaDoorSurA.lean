/- laws.szSure, laws.toSure, laws.eqSure: hosts that are only gone to safely, as the laws hand them in. -/
import Derived.Test.YtbogjajfbchdjaaDoorStrT
import Derived.Test.YtbogjajfbchdjaaDoorStrZ
import Derived.Test.YtbogjajfbchdjaaDoorStrE
import Derived.Test.YtbogjajfbchdjaaDoorBlk
set_option linter.unusedVariables false
set_option linter.unusedSimpArgs false
namespace Go.Proofs.YtbogjajfbchdjaaDoor
open Go.RowKit Go.Shelf

theorem StrsOf.set {a : Option Addr} {len : Nat} {ss : List (List UInt8)} {w : World} (h : StrsOf a len ss w) (q : Addr) (v : Value) (hq : ∀ b off, a = some ⟨b, off, none⟩ → q.block ≠ b) : StrsOf a len ss (w.setCell q v) := by
  obtain ⟨hl, h⟩ := h
  refine ⟨hl, ?_⟩
  rcases h with h | ⟨b, off, ha, hc⟩
  · exact .inl h
  · exact .inr ⟨b, off, ha, fun j hj => (World.cell?_setCell_other w q ⟨b, off + j, none⟩ v (fun e => hq b off ha (by rw [e]))).trans (hc j hj)⟩

theorem sure_end {w W1 : World} {len : Nat} {ss : List (List UInt8)} (B1 : Below w.heap.size w W1) (hs : StrsOf (some ⟨w.heap.size + 1 + 1 + 1, 0, none⟩) len ss W1) (v1 v2 : Value) :
    StrsOf (some ⟨w.heap.size + 1 + 1 + 1, 0, none⟩) len ss ((W1.setCell ⟨w.heap.size + 1 + 1, 0, none⟩ v1).setCell ⟨w.heap.size + 1, 0, none⟩ v2) ∧ Below w.heap.size w ((W1.setCell ⟨w.heap.size + 1 + 1, 0, none⟩ v1).setCell ⟨w.heap.size + 1, 0, none⟩ v2) := by
  refine ⟨StrsOf.set (StrsOf.set hs _ _ ?_) _ _ ?_, Below.setCell (Below.setCell B1 ?_ _) ?_ _⟩
  · intro b off e
    have := congrArg Addr.block (Option.some.inj e)
    dsimp only at this ⊢
    omega
  · intro b off e
    have := congrArg Addr.block (Option.some.inj e)
    dsimp only at this ⊢
    omega
  · show w.heap.size ≤ w.heap.size + 1 + 1
    omega
  · show w.heap.size ≤ w.heap.size + 1
    omega

set_option maxHeartbeats 1000000 in
set_option maxRecDepth 100000 in
theorem szSure (a : Option Addr) (len cap : Nat) (ss : List (List UInt8)) (w : World) (h : StrsOf a len ss w) (hl : len ≤ maxLen) (hss : ∀ s ∈ ss, s.length ≤ maxLen) :
    Calls Tryd.prog 5 #[.agg #[.slice a len cap], .int .i64 1048576] w fun e w' => ∃ r : Int, e = .returned (.int .i64 r) ∧ Below w.heap.size w w' ∧ (0 ≤ r → ((ss.length : Int) + (tot ss : Int)) ≤ 1048576 - r) := by
  have B0 : ∀ o, Below w.heap.size w (w.alloc o) := fun o => (Below.refl _ w).alloc (Nat.le_refl _) o
  go_enter Tryd.func5, Tryd.ntmps5
  go_wp2_with fail
  refine (szStringS a len cap ss 1048576 _ (h.later (B0 _)) hl hss (by decide) (by decide)).mono ?_
  rintro e w1 ⟨r, rfl, hw, hr, hr2⟩
  have hw2 := hw.symm
  subst hw2
  clear hw
  by_cases h0 : r < 0
  · go_wp2
    go_ret
    exact ⟨-1, rfl, B0 _, fun h => absurd h (by decide)⟩
  · go_wp2
    go_ret
    exact ⟨r, rfl, B0 _, hr⟩

set_option maxHeartbeats 1000000 in
set_option maxRecDepth 100000 in
theorem toSure (a : Option Addr) (len cap : Nat) (ss : List (List UInt8)) (w : World) (h : StrsOf a len ss w) (hl : len ≤ 1000000000) :
    Calls Tryd.prog 7 #[.agg #[.slice a len cap]] w fun e w' => ∃ g, e = .returned (.agg #[.slice (some ⟨g, 0, none⟩) len len]) ∧ w.heap.size < g ∧ StrsOf (some ⟨g, 0, none⟩) len ss w' ∧ Below w.heap.size w w' := by
  have B3 : ∀ o o1 o2, Below w.heap.size w (((w.alloc o).alloc o1).alloc o2) := fun o o1 o2 => by
    have h1 := (Below.refl w.heap.size w).alloc (Nat.le_refl _) o
    have h2 := h1.alloc h1.size o1
    exact h2.alloc h2.size o2
  have HLEN : Hid (len = ss.length) := h.1
  go_enter Tryd.func7, Tryd.ntmps7
  go_wp2_with fail
  refine (toStringP a len cap ss _ (h.later (B3 _ _ _)) hl).mono ?_
  rintro e W1 ⟨rfl, p1, b1⟩
  have q1 : Blk (w.heap.size + 1) #[.slice none 0 0] 27 W1 := by
    refine Blk.below ?_ b1 (by simp)
    refine Blk.alloc ?_ _
    have := Blk.new (w.alloc (.cells #[.slice a len cap] 24)) #[.slice none 0 0] 27
    simpa using this
  have q2 : Blk (w.heap.size + 1 + 1) #[.slice none 0 0] 27 W1 := by
    refine Blk.below ?_ b1 (by simp)
    have := Blk.new ((w.alloc (.cells #[.slice a len cap] 24)).alloc (.cells #[.slice none 0 0] 27)) #[.slice none 0 0] 27
    simpa using this
  have c1 := q1.cell 0
  have c2 := q2.cell 0
  have f1 := q1.free 0
  have f2 := q2.free 0
  simp at c1 c2
  have B1 : Hid (Below w.heap.size w W1) := (B3 _ _ _).trans (b1.mono (B3 _ _ _).size)
  have hs := p1.strs
  rw [← HLEN.out] at hs
  have hs' : StrsOf (some ⟨w.heap.size + 1 + 1 + 1, 0, none⟩) len ss W1 := by simpa using hs
  have HE : Hid (∀ v1 v2, StrsOf (some ⟨w.heap.size + 1 + 1 + 1, 0, none⟩) len ss ((W1.setCell ⟨w.heap.size + 1 + 1, 0, none⟩ v1).setCell ⟨w.heap.size + 1, 0, none⟩ v2) ∧ Below w.heap.size w ((W1.setCell ⟨w.heap.size + 1 + 1, 0, none⟩ v1).setCell ⟨w.heap.size + 1, 0, none⟩ v2)) := sure_end B1.out hs'
  have HLT : Hid (w.heap.size < w.heap.size + 1 + 1 + 1) := by show w.heap.size < w.heap.size + 1 + 1 + 1; omega
  clear hs hs'
  clear q1 q2 b1 p1 B3 h
  go_wp2
  refine bodyPost_ret (v := .agg #[.slice (some ⟨w.heap.size + 1 + 1 + 1, 0, none⟩) len len]) ?_ ?_ ?_
  · have hres : Tryd.f7.results = #[.cell 2 27] := by kernel_rfl
    simp only [results, hres]
    go_simp
  · rfl
  · exact ⟨_, rfl, HLT.out, (HE.out _ _).1, (HE.out _ _).2⟩

set_option maxHeartbeats 1000000 in
set_option maxRecDepth 100000 in
theorem eqSure (a a' : Option Addr) (len cap len' cap' : Nat) (ss : List (List UInt8)) (w : World) (h : StrsOf a len ss w) (h' : StrsOf a' len' ss w) (hl : len ≤ 1000000000) :
    Calls Tryd.prog 9 #[.agg #[.slice a len cap], .agg #[.slice a' len' cap']] w fun e w' => e = .returned (.bool true) ∧ Below w.heap.size w w' := by
  have B2 : ∀ o o1, Below w.heap.size w ((w.alloc o).alloc o1) := fun o o1 => by
    have h1 := (Below.refl w.heap.size w).alloc (Nat.le_refl _) o
    exact h1.alloc h1.size o1
  go_enter Tryd.func9, Tryd.ntmps9
  go_wp2_with fail
  refine (eqStringS a a' len cap len' cap' ss _ (h.later (B2 _ _)) (h'.later (B2 _ _)) hl).mono ?_
  rintro e W1 ⟨rfl, n, rfl⟩
  go_wp2
  go_ret
  exact ⟨rfl, below_drewN (B2 _ _) _⟩
end Go.Proofs.YtbogjajfbchdjaaDoor

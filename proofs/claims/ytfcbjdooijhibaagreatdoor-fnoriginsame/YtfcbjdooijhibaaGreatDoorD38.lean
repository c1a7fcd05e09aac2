/- spec.UrlPut, impl.UrlPut, spec.PortOf, impl.PortOf: an address that is ok, written, and its port. -/
import Derived.Test.YtfcbjdooijhibaaGreatDoorD37
set_option linter.unusedVariables false
set_option linter.unusedSimpArgs false
set_option maxHeartbeats 4000000
set_option maxRecDepth 100000
section
namespace Go.Proofs.YtfcbjdooijhibaaGreatDoor
open Go.RowKit Go.Shelf
theorem implPortOf (q : P) (a : Option Addr) (n c : Nat) (w : World) (hL : Lean1 w) (hS : StrsOf a n q.ps w) (hs : q.tot ≤ 1048576) (hpo : q.po ≤ 9223372036854775807) (b : Bool) (hb : b = true ↔ okP q) :
  Calls Tryz.prog 29 #[.agg (q.cells (.slice a n c))] w fun e w' => e = .returned (.int .i64 (if b = true then (if q.po < 0 then ownZ q.sc else q.po) else -1)) ∧ Below w.heap.size w w' := by
 have hn : n = q.ps.length := hS.1
 have H0 : Hid (Wp w q (.slice a n c) (w.alloc (.cells #[(.string q.sc), (.string q.us), (.string q.pw), (.int .i64 q.hk), (.string q.hn), (.int .i64 q.ha), (.int .i64 q.po), (.slice a n c), (.string q.op), (.bool q.hq), (.string q.qu), (.bool q.hf), (.string q.fr)] 27))) := Wp.start w q _
 have CO : Hid (∀ W, Below w.heap.size w W → Calls Tryz.prog 27 #[.agg #[(.string q.sc), (.string q.us), (.string q.pw), (.int .i64 q.hk), (.string q.hn), (.int .i64 q.ha), (.int .i64 q.po), (.slice a n c), (.string q.op), (.bool q.hq), (.string q.qu), (.bool q.hf), (.string q.fr)]] W fun e w' => e = .returned (.bool b) ∧ Below W.heap.size W w') := fun W d => implUrlOk q a n c W (hL.below d) (hS.later d) hs hpo b hb
 have CP : Hid (∀ W, Calls Tryz.prog 53 #[.string q.sc] W fun e w' => e = .returned (.int .i64 (ownZ q.sc)) ∧ w' = W) := fun W => schemePort q.sc W
 clear hS hs hpo hb hn hL
 unfold P.cells
 cases b with
 | false =>
  rw [if_neg (by decide)]
  go_enter Tryz.func29, Tryz.ntmps29
  go_wp2_with fail
  refine (CO.out _ H0.out.bw).mono ?_
  rintro e W1 ⟨rfl, d1⟩
  have HX1 : Hid (Wp w q (.slice a n c) W1) := H0.out.later d1
  go_wp2
  go_ret
  exact ⟨rfl, HX1.out.bw⟩
 | true =>
  rw [if_pos rfl]
  by_cases hp : q.po < 0
  ·rw [if_pos hp]
   go_enter Tryz.func29, Tryz.ntmps29
   go_wp2_with fail
   refine (CO.out _ H0.out.bw).mono ?_
   rintro e W1 ⟨rfl, d1⟩
   have HX1 : Hid (Wp w q (.slice a n c) W1) := H0.out.later d1
   clear d1 H0 CO
   obtain ⟨k0, k1, k2, k3, k4, k5, k6, k7, k8, k9, k10, k11, k12⟩ := Blk.cells13 (q := q) HX1.out.bx
   go_wp2_with fail
   refine (CP.out _).mono ?_
   rintro e W2 ⟨rfl, hW⟩
   have hW2 := hW.symm
   subst hW2
   go_wp2
   go_ret
   exact ⟨rfl, HX1.out.bw⟩
  ·rw [if_neg hp]
   go_enter Tryz.func29, Tryz.ntmps29
   go_wp2_with fail
   refine (CO.out _ H0.out.bw).mono ?_
   rintro e W1 ⟨rfl, d1⟩
   have HX1 : Hid (Wp w q (.slice a n c) W1) := H0.out.later d1
   clear d1 H0 CO
   obtain ⟨k0, k1, k2, k3, k4, k5, k6, k7, k8, k9, k10, k11, k12⟩ := Blk.cells13 (q := q) HX1.out.bx
   go_wp2
   go_ret
   exact ⟨rfl, HX1.out.bw⟩
end Go.Proofs.YtfcbjdooijhibaaGreatDoor
end

/- The law FnExactPathPut answers true, whatever the texts. -/
import Derived.Test.YtjkbgdnjghlakaaStrT
import Derived.Test.YtjkbgdnjghlakaaPutP
set_option linter.unusedVariables false
namespace Go.Proofs.Ytjkbgdnjghlakaa
open Go.RowKit Go.Shelf

set_option maxHeartbeats 1000000 in
set_option maxRecDepth 100000 in
theorem fnExactPathPut_walk (w : World) (a : Option Addr) (len cap : Nat) (ss : List (List UInt8)) (h : StrsOf a len ss w) (hl : len ≤ maxLen) (hss : ∀ s ∈ ss, s.length ≤ maxLen) :
    Calls Try.prog 3 #[.slice a len cap] w fun e w' => e = .returned (.bool true) ∧ Below w.heap.size w w' := by
  have HLEN : Hid (len = ss.length) := h.1
  go_enter Try.func3, Try.ntmps3
  go_wp2_with fail
  refine (szStringS a len cap ss 1048576 _ h hl hss (by decide) (by decide)).mono ?_
  rintro e w1 ⟨r, rfl, rfl, hr, hr2⟩
  by_cases h0 : r < 0
  · go_wp2
    go_ret
    exact ⟨rfl, Below.refl _ _⟩
  · have hb := hr (by omega)
    have hb2 : ss.length + tot ss ≤ 1000000000 := by omega
    have hl2 : len ≤ 1000000000 := by have := HLEN.out; omega
    clear hr hr2 hb hl hss
    go_wp2_with fail
    refine (toStringS a len cap ss _ h hl2).mono ?_
    rintro e w2 ⟨rfl, s2, b2⟩
    go_wp2_with fail
    refine (specPathPut _ len len ss _ s2 hb2).mono ?_
    rintro e w3 ⟨rfl, rfl⟩
    go_wp2_with fail
    have h2 := h.later b2
    refine (toStringS a len cap ss _ h2 hl2).mono ?_
    rintro e w4 ⟨rfl, s4, b4⟩
    go_wp2_with fail
    refine (implPathPut _ len len ss _ s4 hb2).mono ?_
    rintro e w5 ⟨rfl, b5⟩
    go_wp2_with fail
    have h5 := (h2.later b4).later b5
    have s5 := s4.later b5
    refine (toStringS a len cap ss _ h5 hl2).mono ?_
    rintro e w6 ⟨rfl, s6, b6⟩
    go_wp2_with fail
    refine (eqStringS _ _ len len len len ss _ (s5.later b6) s6 hl2).mono ?_
    rintro e w7 ⟨rfl, n, rfl⟩
    go_wp2
    go_ret
    have z2 := b2.size
    have z4 := b4.size
    have z5 := b5.size
    have bb := ((b2.trans (b4.mono z2)).trans (b5.mono (Nat.le_trans z2 z4))).trans (b6.mono (Nat.le_trans z2 (Nat.le_trans z4 z5)))
    exact ⟨rfl, below_drewN bb _⟩
end Go.Proofs.Ytjkbgdnjghlakaa

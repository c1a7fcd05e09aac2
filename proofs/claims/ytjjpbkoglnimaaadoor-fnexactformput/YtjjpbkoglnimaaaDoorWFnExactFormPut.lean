/- The law FnExactFormPut answers true, whatever the pairs. -/
import Derived.Test.YtjjpbkoglnimaaaDoorPairZ
import Derived.Test.YtjjpbkoglnimaaaDoorPairE
import Derived.Test.YtjjpbkoglnimaaaDoorFormPutI
import Derived.Test.YtjjpbkoglnimaaaDoorFormPutS
set_option linter.unusedVariables false
namespace Go.Proofs.YtjjpbkoglnimaaaDoor
open Go.RowKit Go.Shelf

set_option maxHeartbeats 2000000 in
set_option maxRecDepth 100000 in
theorem fnExactFormPut_walk (w : World) (hM : ∃ m, w.cell? ⟨0, 0, none⟩ = some (.int .i64 m)) (a : Option Addr) (len cap : Nat) (ps : List PairL) (h : PairsOf a len ps w) (hl : len ≤ maxLen) (hss : ∀ p ∈ ps, p.1.length ≤ maxLen ∧ p.2.length ≤ maxLen) :
    Calls Tryd.prog 6 #[.slice a len cap] w fun e w' => e = .returned (.bool true) ∧ Below w.heap.size w w' := by
  obtain ⟨m, hm⟩ := hM
  have hG : 0 < w.heap.size := cell_in hm
  have HLEN : Hid (len = ps.length) := h.1
  go_enter Tryd.func6, Tryd.ntmps6
  go_wp2_with fail
  refine (szPairS a len cap ps 1048576 _ h hl hss (by decide) (by decide)).mono ?_
  rintro e w1 ⟨r, rfl, b1, hr, hr2⟩
  by_cases h0 : r < 0
  · go_wp2
    go_ret
    exact ⟨rfl, b1⟩
  · have hb := hr (by omega)
    have hb2 : totP ps ≤ 1100000 := by omega
    have hb3 : ps.length ≤ 1100000 := by omega
    have hl2 : len ≤ 1000000000 := by have := HLEN.out; omega
    have h1 := h.later b1
    have m1 := cell_keep b1 hm hG
    have z1 := b1.size
    clear hr hr2 hb hl hss h
    go_wp2_with fail
    refine (toPairS a len cap ps _ h1 hl2).mono ?_
    rintro e w2 ⟨rfl, s2, b2⟩
    have z2 := b2.size
    go_wp2_with fail
    refine (specFormPut _ len len ps _ s2 hb2 hb3).mono ?_
    rintro e w3 ⟨rfl, b3⟩
    have h3 := (h1.later b2).later b3
    have z3 := b3.size
    go_wp2_with fail
    refine (toPairS a len cap ps _ h3 hl2).mono ?_
    rintro e w4 ⟨rfl, s4, b4⟩
    have z4 := b4.size
    have m2 := cell_keep b2 m1 (by omega)
    have m3 := cell_keep b3 m2 (by omega)
    have m4 := cell_keep b4 m3 (by omega)
    go_wp2_with fail
    refine (implFormPut _ len len ps m _ s4 hb2 hb3 m4).mono ?_
    rintro e w5 ⟨rfl, b5⟩
    have z5 := b5.size
    have h5 := (h3.later b4).later b5
    have s5 := s4.later b5
    go_wp2_with fail
    refine (toPairS a len cap ps _ h5 hl2).mono ?_
    rintro e w6 ⟨rfl, s6, b6⟩
    have z6 := b6.size
    go_wp2_with fail
    refine (eqPairS _ _ len len len len ps _ (s5.later b6) s6 hl2).mono ?_
    rintro e w7 ⟨rfl, b7⟩
    go_wp2
    go_ret
    exact ⟨rfl, b1.trans ((b2.mono z1).trans ((b3.mono (by omega)).trans ((b4.mono (by omega)).trans ((b5.mono (by omega)).trans ((b6.mono (by omega)).trans (b7.mono (by omega)))))))⟩
end Go.Proofs.YtjjpbkoglnimaaaDoor

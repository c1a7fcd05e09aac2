/- DrawLower draws a short text. -/
import Derived.Test.YtdmfmiophpdnaaaL11
set_option linter.unusedVariables false
namespace Go.Proofs.Ytdmfmiophpdnaaa
open Go.RowKit Go.Shelf

theorem Rd.alloc {B r p : Nat} {w : World} (h : Rd B r p w) (o : Obj) : Rd B r p (w.alloc o) :=
  h.stays (Lib.alloc_old w _ r h.lt) (fun k hk => Lib.alloc_old w _ k (by have := h.1; have := h.lt; omega))

set_option maxHeartbeats 2000000 in
set_option maxRecDepth 100000 in
theorem drawLower (B : Nat) (a : Option Addr) (len cap : Nat) (w : World) (hB : B ≤ w.heap.size) (h : Code B w a len cap) :
    Calls Try.prog 15 #[.slice a len cap] w fun e w' => ∃ s : ByteArray, e = .returned (.string s) ∧ s.size ≤ 200 ∧ Below w.heap.size w w' := by
  go_enter Try.func15, Try.ntmps15
  go_wp2_with fail
  refine (l1Open B a len cap _ hB h).mono ?_
  rintro e w1 ⟨rfl, hr1, b1⟩
  go_wp2_with fail
  refine (l11Bytes B w.heap.size 0 5 _ (by omega) (by omega) hr1).mono ?_
  rintro e w2 ⟨l, rfl, hl, hr2, hg2⟩
  have hrl := hr2.lt
  go_wp2_with fail
  refine (rdOf B w.heap.size _ w2.heap.size 4 [⟨#[65, 98, 67]⟩, ⟨#[]⟩, ⟨#[90, 64, 91, 122]⟩, ⟨l.toArray⟩] 9 (0, 0) _ _ rfl (heap_alloc_new w2 _) (by omega) (by simp) (by simp) (by omega) (hr2.alloc _)).mono ?_
  rintro e w3 ⟨s, hs, rfl, hr3, hg3⟩
  go_wp2
  go_ret
  refine ⟨s, rfl, ?_, ?_⟩
  · simp only [List.mem_cons, List.not_mem_nil, or_false] at hs
    rcases hs with rfl | rfl | rfl | rfl
    · decide
    · decide
    · decide
    · show l.toArray.size ≤ 200; simp; omega
  · exact b1.trans ((below_grown (B := w.heap.size) hg2 (Nat.le_refl _) b1.size).trans (((Below.refl _ w2).alloc (Nat.le_of_lt hrl) _).trans (below_grown hg3 (Nat.le_refl _) (by simp; omega))))
end Go.Proofs.Ytdmfmiophpdnaaa

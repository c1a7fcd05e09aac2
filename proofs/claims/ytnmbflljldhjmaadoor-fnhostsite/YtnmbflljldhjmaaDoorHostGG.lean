/- impl.HostGet: a host, read of a text. -/
import Derived.Test.YtnmbflljldhjmaaDoorHostGI
set_option linter.unusedVariables false
namespace Go.Proofs.YtnmbflljldhjmaaDoor
open Go.RowKit Go.Shelf

/-- What is left of a text when figures are read, in small letters. -/
def readL (l : List UInt8) : List UInt8 := low (dec l)
def hostOkL (l : List UInt8) : Bool := decide (hostKind l ≠ 0)
/-- What HostGet answers: the host, and whether there is one. -/
def getAgg (l : List UInt8) : Value := if l.length ≤ 200 then hostAgg (readL l) else .agg #[.int .i64 0, .string ⟨#[]⟩, .int .i64 0]
def getOk (l : List UInt8) : Bool := if l.length ≤ 200 then hostOkL (readL l) else false

set_option maxHeartbeats 2000000 in
set_option maxRecDepth 100000 in
theorem implHostGet (s : ByteArray) (w : World) (hm : ∃ m, w.cell? ⟨0, 0, none⟩ = some (.int .i64 m)) (hs : s.size ≤ 1048576) :
    Calls Tryd.prog 8 #[.string s] w fun e w' => e = .returned (.tuple #[getAgg s.data.toList, .bool (getOk s.data.toList)]) ∧ Below w.heap.size w w' := by
  have hl : s.data.toList.length = s.size := by simp
  by_cases hL : s.size ≤ 200
  · have hLi : (s.size : Int) ≤ 200 := by omega
    have hdl := dec_le s.data.toList
    obtain ⟨t, ht⟩ : ∃ t, t = readL s.data.toList := ⟨_, rfl⟩
    have htl : t.length ≤ 200 := by rw [ht]; unfold readL; rw [low_length]; omega
    have keep : ∀ W, Below w.heap.size w W → ∃ m, W.cell? ⟨0, 0, none⟩ = some (.int .i64 m) := by
      intro W hW
      obtain ⟨m, hm⟩ := hm
      exact ⟨m, by rw [hW.cell (p := ⟨_, 0, none⟩) (cell_in hm)]; exact hm⟩
    have C1 : Hid (∀ W, Calls Tryd.prog 21 #[.string s] W fun e w' => e = .returned (.string (mk (dec s.data.toList))) ∧ Below W.heap.size W w') := by
      intro W
      refine (implDecode s W (by unfold maxLen; omega)).mono ?_
      rintro e w' ⟨rfl, b⟩
      exact ⟨by rw [decode_small _ (by omega)]; rfl, b⟩
    have C2 : Hid (∀ W, Calls Tryd.prog 20 #[.string (mk (dec s.data.toList))] W fun e w' => e = .returned (.string (mk t)) ∧ Below W.heap.size W w') := by
      intro W; rw [ht]; exact implLower (mk (dec s.data.toList)) W (by rw [mk_size]; omega)
    have C3 : Hid (∀ W, Below w.heap.size w W → Calls Tryd.prog 19 #[.string (mk t)] W fun e w' => e = .returned (hostV t) ∧ Below W.heap.size W w') := by
      intro W hW; exact hostRead (mk t) W (keep W hW) (by rw [mk_size]; omega)
    have C4 : Hid (∀ W, Calls Tryd.prog 18 #[hostV t] W fun e w' => e = .returned (.agg #[.int .i64 (hostKind t), .string (hostName t), .int .i64 (hostAddr t)]) ∧ Below W.heap.size W w') := fun W => hostOf t W
    have HG : Hid (getAgg s.data.toList = .agg #[.int .i64 (hostKind t), .string (hostName t), .int .i64 (hostAddr t)]) := by show _ = _; unfold getAgg; rw [if_pos (by omega), ← ht]; rfl
    have HO : Hid (getOk s.data.toList = (hostKind t != 0)) := by
      show _ = _
      unfold getOk hostOkL
      rw [if_pos (by omega), ← ht, Bool.eq_iff_iff, decide_eq_true_eq, bne_iff_ne]
    generalize hostKind t = kd at *
    generalize hostName t = nm at *
    generalize hostAddr t = ad at *
    generalize hostV t = hv at *
    generalize mk (dec s.data.toList) = ds at *
    clear ht htl hdl keep hm
    generalize mk t = tt at *
    go_enter Tryd.func8, Tryd.ntmps8
    go_wp2_with fail
    refine (C1.out _).mono ?_
    rintro e W1 ⟨rfl, d1⟩
    have b1 : Below w.heap.size w W1 := ((Below.refl _ w).alloc (Nat.le_refl _) _).trans (d1.mono (by simp))
    have hh1 : W1.heap[w.heap.size]? = some (.cells #[.int .i64 0, .string ⟨#[]⟩, .int .i64 0] 24 (0, 0)) := (d1.block _ (by simp)).trans (heap_alloc_new w _)
    go_wp2_with fail
    refine (C2.out _).mono ?_
    rintro e W2 ⟨rfl, d2⟩
    have b2 := b1.trans (d2.mono b1.size)
    have hh2 := (d2.block _ (Array.getElem?_eq_some_iff.1 hh1).1).trans hh1
    go_wp2_with fail
    refine (C3.out _ b2).mono ?_
    rintro e W3 ⟨rfl, d3⟩
    have b3 := b2.trans (d3.mono b2.size)
    have hh3 := (d3.block _ (Array.getElem?_eq_some_iff.1 hh2).1).trans hh2
    go_wp2_with fail
    refine (C4.out _).mono ?_
    rintro e W4 ⟨rfl, d4⟩
    have b4 := b3.trans (d4.mono b3.size)
    have hh4 := (d4.block _ (Array.getElem?_eq_some_iff.1 hh3).1).trans hh3
    have hlt4 : w.heap.size < W4.heap.size := (Array.getElem?_eq_some_iff.1 hh4).1
    have c0 : W4.cell? ⟨w.heap.size, 0, none⟩ = some (.int .i64 0) := by rw [Lib.cell_of_heap hh4]; rfl
    have c1 : W4.cell? ⟨w.heap.size, 1, none⟩ = some (.string ⟨#[]⟩) := by rw [Lib.cell_of_heap hh4]; rfl
    have c2 : W4.cell? ⟨w.heap.size, 2, none⟩ = some (.int .i64 0) := by rw [Lib.cell_of_heap hh4]; rfl
    have f0 : W4.frozen? ⟨w.heap.size, 0, none⟩ = false := Lib.frozen_of_heap hh4 0
    have f1 : W4.frozen? ⟨w.heap.size, 1, none⟩ = false := Lib.frozen_of_heap hh4 1
    have f2 : W4.frozen? ⟨w.heap.size, 2, none⟩ = false := Lib.frozen_of_heap hh4 2
    have hne : w.heap.size ≠ W4.heap.size := by omega
    clear C1 C2 C3 C4 b1 b2 b3 d1 d2 d3 d4 hh1 hh2 hh3
    go_wp2
    go_region
    go_wp2
    refine bodyPost_ret (v := .tuple #[.agg #[.int .i64 kd, .string nm, .int .i64 ad], .bool (kd != 0)]) (by simp [results, Tryd.results8, go_sem, c0, c1, c2, hlt4]) rfl ⟨by rw [HG.out, HO.out], ?_⟩
    exact ((((b4.setCell (p := ⟨w.heap.size, 0, none⟩) (Nat.le_refl _) _).setCell (p := ⟨w.heap.size, 1, none⟩) (Nat.le_refl _) _).setCell (p := ⟨w.heap.size, 2, none⟩) (Nat.le_refl _) _).alloc (by simp; omega) _).drew
  · have hLi : (200 : Int) < (s.size : Int) := by omega
    have HG : Hid (getAgg s.data.toList = .agg #[.int .i64 0, .string ⟨#[]⟩, .int .i64 0]) := by show _ = _; unfold getAgg; rw [if_neg (by omega)]
    have HO : Hid (getOk s.data.toList = false) := by show _ = _; unfold getOk; rw [if_neg (by omega)]
    go_enter Tryd.func8, Tryd.ntmps8
    go_wp2
    exact bodyPost_ret (v := .tuple #[.agg #[.int .i64 0, .string ⟨#[]⟩, .int .i64 0], .bool false]) (by simp [results, Tryd.results8, go_sem]) rfl ⟨by rw [HG.out, HO.out], (Below.refl _ w).alloc (Nat.le_refl _) _⟩
end Go.Proofs.YtnmbflljldhjmaaDoor

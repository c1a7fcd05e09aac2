/- laws.markText: a text for a number, the same each time. laws.markStringS, heldStringS: texts put into an answer, and found there again. laws.markStringS keeps a block that holds something else. laws.eqUrl, markUrl, heldUrl. What the laid tables and io.EOF give a walk. -/
import Derived.Test.YtmbojhlfhafhjaaGreatDoorB01
import Derived.Test.YtmbojhlfhafhjaaGreatDoorB02
import Derived.Deep.RegionHeld3
import Derived.Lib.ItoaNum
import Derived.Test.YtmbojhlfhafhjaaGreatDoorB05
import Derived.Test.YtmbojhlfhafhjaaGreatDoorB14
import Derived.Test.YtmbojhlfhafhjaaGreatDoorB21
import Derived.Test.YtmbojhlfhafhjaaGreatDoorRows
import Derived.Stop.LaidErr
import Derived.Lib.LaidTab
import Derived.WalkKit
import Derived.ProofKit
import Derived.Deep.DeepHandedRow
section
set_option linter.unusedVariables false
namespace Go.Proofs.YtmbojhlfhafhjaaGreatDoor
open Go.RowKit Go.Shelf

def digM (n : Nat) : List UInt8 := if n = 0 then [] else Lib.decDigits n
theorem digM_zero : digM 0 = [] := rfl
theorem digM_pos (n : Nat) (h : n ≠ 0) : digM n = digM (n / 10) ++ [UInt8.ofNat (48 + n % 10)] := by
  unfold digM
  rw [if_neg h, Lib.decDigits]
  by_cases h1 : n < 10
  · rw [dif_pos h1, if_pos (by omega), show n % 10 = n from by omega]; rfl
  · rw [dif_neg h1, if_neg (by omega)]
def markT (n : Nat) : List UInt8 := 109 :: digM n

theorem conv_c (g : Nat) (c : UInt8) (W : World) (x : Int) (hx : x = (c.toNat : Int)) (hg : W.heap[g]? = some (.cells #[.int .u8 x] 5)) :
    (convert 63 9 (.slice (some ⟨g, 0, none⟩) 1 1)).run Tryz.prog W = .ok (.string (mk [c])) W := by
  have h : OwnB 0 (.slice (some ⟨g, 0, none⟩) 1 1) [c] W := ⟨rfl, .inr ⟨g, 1, #[.int .u8 x], rfl, Nat.zero_le _, hg, Nat.le_refl _, by decide, rfl, by subst hx; rfl⟩⟩
  exact ownB_text h

set_option maxHeartbeats 1000000 in
set_option maxRecDepth 100000 in
theorem markText (n : Nat) (w : World) (h0 : 1 ≤ n) (h1 : n ≤ 1000000000) :
    Calls Tryz.prog 70 #[.int .i64 n] w fun e w' => e = .returned (.string (mk (markT n))) ∧ Below w.heap.size w w' := by
  have h0i : (1 : Int) ≤ (n : Int) := by omega
  go_enter Tryz.func70, Tryz.ntmps70
  go_wp2
  go_loopw [0, 3] (fun k o wr => ∃ (j : Nat) (x : ByteArray), k = .int .i64 j ∧ o = .string x ∧ x.size + j ≤ 1000000000 ∧ Hid (digM n = digM j ++ x.data.toList) ∧ Below w.heap.size w wr) (fun k _ wr => (intOf k).toNat)
  case atStart => exact ⟨n, ⟨#[]⟩, rfl, rfl, by show 0 + n ≤ _; omega, by show _ = _; simp, Below.refl _ _⟩
  case round =>
    obtain ⟨j, x, rfl, rfl, hx, HD, hbw⟩ := hrel
    by_cases hj : j = 0
    · subst hj
      have HE := HD.out
      rw [digM_zero, List.nil_append] at HE
      have HX : Hid (mk (markT n) = ⟨#[109]⟩ ++ x) := by
        unfold markT; rw [HE]; apply ByteArray.ext; apply Array.ext'; simp [mk]
      clear HE
      have hz : (⟨#[109]⟩ : ByteArray).size = 1 := rfl
      go_wp2
      go_ret
      exact ⟨by rw [HX.out]; rfl, hbw⟩
    · have hji : (0 : Int) < (j : Int) := by omega
      have hw1 : IntKind.i64.wrap (48 + (j : Int) % 10) = 48 + (j : Int) % 10 := by rw [IntKind.wrap_i64]; omega
      have hw2 : IntKind.u8.wrap (48 + (j : Int) % 10) = 48 + (j : Int) % 10 := by rw [IntKind.wrap_u8]; omega
      have hfv : (48 : Int) + (j : Int) % 10 = ((UInt8.ofNat (48 + j % 10)).toNat : Int) := by rw [UInt8.toNat_ofNat']; omega
      obtain ⟨q, hq⟩ : ∃ q, q = mk [UInt8.ofNat (48 + j % 10)] := ⟨_, rfl⟩
      have hqs : q.size = 1 := by rw [hq, mk_size]; rfl
      have hcv : (convert 63 9 (.slice (some ⟨wr.heap.size, 0, none⟩) 1 1)).run Tryz.prog (wr.alloc (.cells #[.int .u8 (48 + (j : Int) % 10)] 5)) = .ok (.string q) (wr.alloc (.cells #[.int .u8 (48 + (j : Int) % 10)] 5)) := by
        rw [hq]; exact conv_c wr.heap.size _ _ _ hfv (heap_alloc_new wr _)
      have HE : Hid (digM n = digM (j / 10) ++ (q ++ x).data.toList) := by
        show _ = _
        rw [HD.out, digM_pos j hj, hq, List.append_assoc]
        congr 1
      clear hfv hq
      go_wp2
      go_roundw
      case rel => exact ⟨j / 10, q ++ x, by go_num, rfl, by rw [ByteArray.size_append, hqs]; omega, HE, hbw.alloc hbw.size _⟩
      case measure => simp [intOf]; omega
end Go.Proofs.YtmbojhlfhafhjaaGreatDoor
end

section
set_option linter.unusedVariables false
namespace Go.Proofs.YtmbojhlfhafhjaaGreatDoor
open Go.RowKit Go.Shelf

def markTs (k n : Nat) : List (List UInt8) := (List.range n).map fun i => markT (k + i)
theorem markTs_len (k n : Nat) : (markTs k n).length = n := by simp [markTs]
theorem markTs_at (k n j : Nat) (h : j < (markTs k n).length) : (markTs k n)[j] = markT (k + j) := by simp [markTs]
theorem markTs_succ (k n : Nat) : markTs k (n + 1) = markTs k n ++ [markT (k + n)] := by simp [markTs, List.range_succ]

theorem OwnS.set {B g n c : Nat} {ps : List (List UInt8)} {w : World} (h : OwnS B (.slice (some ⟨g, 0, none⟩) n c) ps w) (j : Nat) (q : List UInt8) (hj : j < ps.length) : OwnS B (.slice (some ⟨g, 0, none⟩) n c) (ps.set j q) (w.setCell ⟨g, j, none⟩ (.string (mk q))) := by
  rcases h.2 with ⟨hv, h0⟩ | ⟨g', cap, cur, hv, hB, hg, hnc, hcm, hcs, ht⟩
  · cases hv
  · simp only [Value.slice.injEq, Option.some.injEq, Addr.mk.injEq, and_true] at hv
    obtain ⟨rfl, hn, rfl⟩ := hv
    refine ⟨by simp, .inr ⟨g, c, cur.set j (.string (mk q)) (by omega), by rw [List.length_set, hn], hB, ?_, by simpa using hnc, hcm, by simpa using hcs, ?_⟩⟩
    · simp [World.setCell, Array.getElem?_modify, hg]
      rw [Array.setIfInBounds_def]
      simp [show j < cur.size from by omega]
    · rw [List.length_set, Array.toList_set, List.take_set, ht, List.map_set]
theorem OwnS.lay {B g n c : Nat} {ps : List (List UInt8)} {w : World} (h : OwnS B (.slice (some ⟨g, 0, none⟩) n c) ps w) (j : Nat) (hj : j < ps.length) : (∃ v, w.cell? ⟨g, j, none⟩ = some v) ∧ w.frozen? ⟨g, j, none⟩ = false ∧ B ≤ g := by
  rcases h.2 with ⟨hv, h0⟩ | ⟨g', cap, cur, hv, hB, hg, hnc, hcm, hcs, ht⟩
  · cases hv
  · simp only [Value.slice.injEq, Option.some.injEq, Addr.mk.injEq, and_true] at hv
    obtain ⟨rfl, hn, rfl⟩ := hv
    refine ⟨⟨cur[j]'(by omega), ?_⟩, Lib.frozen_of_heap hg j, hB⟩
    rw [Lib.cell_of_heap hg, Array.getElem?_eq_getElem]

theorem set_marks (k j : Nat) (ps : List (List UInt8)) (hj : j < ps.length) : (markTs k j ++ ps.drop j).set j (markT (k + j)) = markTs k (j + 1) ++ ps.drop (j + 1) := by
  rw [List.set_append_right _ _ (by rw [markTs_len]; omega), markTs_len, Nat.sub_self, List.drop_eq_getElem_cons hj, List.set_cons_zero, markTs_succ, List.append_assoc]
  rfl

set_option maxHeartbeats 1000000 in
set_option maxRecDepth 100000 in
theorem markStringS (B : Nat) (v : Value) (ps : List (List UInt8)) (k : Nat) (w : World) (h : OwnS B v ps w) (hB : B ≤ w.heap.size) (hk : 1 ≤ k) (hk2 : k ≤ 2000000) (hl : ps.length ≤ 1100000) :
    Calls Tryz.prog 37 #[v, .int .i64 k] w fun e w' => e = .returned (.int .i64 ((k + ps.length : Nat) : Int)) ∧ OwnS B v (markTs k ps.length) w' ∧ Below B w w' := by
  obtain ⟨a, c, rfl, hcc⟩ := h.shape
  go_enter Tryz.func37, Tryz.ntmps37
  go_wp2
  go_loopw [1, 5] (fun q i wr => ∃ j : Nat, j ≤ ps.length ∧ i = .int .i64 j ∧ q = .int .i64 ((k + j : Nat) : Int) ∧ OwnS B (.slice a ps.length c) (markTs k j ++ ps.drop j) wr ∧ Below B w wr) (fun _ i wr => ps.length - (intOf i).toNat)
  case atStart => exact ⟨0, Nat.zero_le _, rfl, rfl, h, Below.refl _ _⟩
  case round =>
    obtain ⟨j, hj, rfl, rfl, hI, hbw⟩ := hrel
    have hsz : B ≤ wr.heap.size := Nat.le_trans hB hbw.size
    by_cases hp : j < ps.length
    · have hji : (j : Int) < (ps.length : Int) := by omega
      have hlen : (markTs k j ++ ps.drop j).length = ps.length := by rw [List.length_append, markTs_len, List.length_drop]; omega
      have hne : ps ≠ [] := by intro e; rw [e] at hp; simp at hp
      obtain ⟨g, rfl⟩ : ∃ g, a = some ⟨g, 0, none⟩ := by
        obtain ⟨g, c', hv, _⟩ := ownS_strs h hne
        simp only [Value.slice.injEq] at hv
        exact ⟨g, hv.1⟩
      go_wp2_with fail
      refine (markText (k + j) _ (by omega) (by omega)).mono ?_
      rintro e W1 ⟨rfl, d1⟩
      have hI1 := hI.later d1
      obtain ⟨⟨u, hu⟩, hf, hgB⟩ := hI1.lay j (by omega)
      have HS : Hid (OwnS B (.slice (some ⟨g, 0, none⟩) ps.length c) (markTs k (j + 1) ++ ps.drop (j + 1)) (W1.setCell ⟨g, j, none⟩ (.string (mk (markT (k + j)))))) := by
        rw [← set_marks k j ps hp]; exact hI1.set j _ (by omega)
      have hb1 := hbw.trans (d1.mono hsz)
      clear hI hI1
      go_wp2
      go_roundw
      case rel => exact ⟨j + 1, by omega, by go_num, by congr 1, HS.out, hb1.setCell (p := ⟨g, j, none⟩) hgB _⟩
      case measure => simp [intOf]; omega
    · have hkk : j = ps.length := by omega
      subst hkk
      rw [List.drop_length, List.append_nil] at hI
      go_wp2
      go_ret
      exact ⟨rfl, hI, hbw⟩

theorem held_call {w W W1 : World} {b o : Nat} {v : Value} (h : Below w.heap.size w W ∧ W.cell? ⟨b, o, none⟩ = some v) (bW : Below W.heap.size W W1) : Below w.heap.size w W1 ∧ W1.cell? ⟨b, o, none⟩ = some v :=
  ⟨h.1.trans (bW.mono h.1.size), cell_kept bW h.2 (cell_in h.2)⟩
theorem held_call2 {w W W1 : World} {b o : Nat} {v : Value} (h : Below w.heap.size w W) (hc : W.cell? ⟨b, o, none⟩ = some v) (bW : Below W.heap.size W W1) : Below w.heap.size w W1 ∧ W1.cell? ⟨b, o, none⟩ = some v := held_call ⟨h, hc⟩ bW

set_option maxHeartbeats 1000000 in
set_option maxRecDepth 100000 in
theorem heldStringS (a : Option Addr) (n c : Nat) (k : Nat) (w : World) (h : StrsOf a n (markTs k n) w) (hk : 1 ≤ k) (hk2 : k ≤ 2000000) (hl : n ≤ 1100000) :
    Calls Tryz.prog 38 #[.slice a n c, .int .i64 k] w fun e w' => e = .returned (.int .i64 ((k + n : Nat) : Int)) ∧ Below w.heap.size w w' := by
  go_enter Tryz.func38, Tryz.ntmps38
  go_wp2
  go_loopw [1, 5] (fun q i wr => ∃ j : Nat, j ≤ n ∧ i = .int .i64 j ∧ q = .int .i64 ((k + j : Nat) : Int) ∧ Below w.heap.size w wr) (fun _ i wr => n - (intOf i).toNat)
  case atStart => exact ⟨0, Nat.zero_le _, rfl, rfl, Below.refl _ _⟩
  case round =>
    obtain ⟨j, hj, rfl, rfl, hbw⟩ := hrel
    by_cases hp : j < n
    · have hji : (j : Int) < (n : Int) := by omega
      obtain ⟨b, off, z, rfl, hc, hz, _⟩ := (h.later hbw).at j (by rw [markTs_len]; exact hp)
      rw [markTs_at] at hz
      have CM : Hid (∀ W, Calls Tryz.prog 70 #[.int .i64 ((k + j : Nat) : Int)] W fun e w' => e = .returned (.string z) ∧ Below W.heap.size W w') := by
        intro W; rw [hz]; exact markText (k + j) W (by omega) (by omega)
      clear hz
      go_wp2
      go_region_held3 (fun W => Below w.heap.size w W ∧ W.cell? ⟨b, off + j, none⟩ = some (.string z)) (first | exact ⟨Below.drew hbw, hc⟩ | exact ⟨hbw, hc⟩ | assumption | exact held_call (by assumption) (by assumption) | exact held_call2 (by assumption) (by assumption) (by assumption)) (first | (go_at_call 70; refine (CM.out _).mono ?_; rintro e W1 ⟨rfl, bW⟩) | fail)
      all_goals
        go_wp2
        go_roundw
        case rel => exact ⟨j + 1, by omega, by go_num, by go_num, by first | assumption | exact And.left (by assumption)⟩
        case measure => simp [intOf]; omega
    · have hkk : j = n := by omega
      subst hkk
      go_wp2
      go_ret
      exact ⟨rfl, hbw⟩
end Go.Proofs.YtmbojhlfhafhjaaGreatDoor
end

section
set_option linter.unusedVariables false
namespace Go.Proofs.YtmbojhlfhafhjaaGreatDoor
open Go.RowKit Go.Shelf

set_option maxHeartbeats 1000000 in
set_option maxRecDepth 100000 in
theorem markStringK (b : Nat) (A : Array Value) (t : TypeId) (ht : t ≠ 9) (B : Nat) (v : Value) (ps : List (List UInt8)) (k : Nat) (w : World) (h : OwnS B v ps w) (hK : Blk b A t w) (hB : B ≤ w.heap.size) (hk : 1 ≤ k) (hk2 : k ≤ 2000000) (hl : ps.length ≤ 1100000) :
    Calls Tryz.prog 37 #[v, .int .i64 k] w fun e w' => e = .returned (.int .i64 ((k + ps.length : Nat) : Int)) ∧ OwnS B v (markTs k ps.length) w' ∧ Below B w w' ∧ Blk b A t w' := by
  obtain ⟨a, c, rfl, hcc⟩ := h.shape
  go_enter Tryz.func37, Tryz.ntmps37
  go_wp2
  go_loopw [1, 5] (fun q i wr => ∃ j : Nat, j ≤ ps.length ∧ i = .int .i64 j ∧ q = .int .i64 ((k + j : Nat) : Int) ∧ OwnS B (.slice a ps.length c) (markTs k j ++ ps.drop j) wr ∧ Below B w wr ∧ Blk b A t wr) (fun _ i wr => ps.length - (intOf i).toNat)
  case atStart => exact ⟨0, Nat.zero_le _, rfl, rfl, h, Below.refl _ _, hK⟩
  case round =>
    obtain ⟨j, hj, rfl, rfl, hI, hbw, hkb⟩ := hrel
    have hsz : B ≤ wr.heap.size := Nat.le_trans hB hbw.size
    by_cases hp : j < ps.length
    · have hji : (j : Int) < (ps.length : Int) := by omega
      have hlen : (markTs k j ++ ps.drop j).length = ps.length := by rw [List.length_append, markTs_len, List.length_drop]; omega
      have hne : ps ≠ [] := by intro e; rw [e] at hp; simp at hp
      obtain ⟨g, rfl⟩ : ∃ g, a = some ⟨g, 0, none⟩ := by
        obtain ⟨g, c', hv, _⟩ := ownS_strs h hne
        simp only [Value.slice.injEq] at hv
        exact ⟨g, hv.1⟩
      go_wp2_with fail
      refine (markText (k + j) _ (by omega) (by omega)).mono ?_
      rintro e W1 ⟨rfl, d1⟩
      have hI1 := hI.later d1
      have HKB : Hid (Blk b A t (W1.setCell ⟨g, j, none⟩ (.string (mk (markT (k + j)))))) := (hkb.below d1 hkb.lt).other g j _ (hI1.ne (hkb.below d1 hkb.lt) ht)
      obtain ⟨⟨u, hu⟩, hf, hgB⟩ := hI1.lay j (by omega)
      have HS : Hid (OwnS B (.slice (some ⟨g, 0, none⟩) ps.length c) (markTs k (j + 1) ++ ps.drop (j + 1)) (W1.setCell ⟨g, j, none⟩ (.string (mk (markT (k + j)))))) := by
        rw [← set_marks k j ps hp]; exact hI1.set j _ (by omega)
      have hb1 := hbw.trans (d1.mono hsz)
      clear hI hI1 hkb
      go_wp2
      go_roundw
      case rel => exact ⟨j + 1, by omega, by go_num, by congr 1, HS.out, hb1.setCell (p := ⟨g, j, none⟩) hgB _, HKB.out⟩
      case measure => simp [intOf]; omega
    · have hkk : j = ps.length := by omega
      subst hkk
      rw [List.drop_length, List.append_nil] at hI
      go_wp2
      go_ret
      exact ⟨rfl, hI, hbw, hkb⟩

end Go.Proofs.YtmbojhlfhafhjaaGreatDoor
end

section
set_option linter.unusedVariables false
set_option linter.unusedSimpArgs false
namespace Go.Proofs.YtmbojhlfhafhjaaGreatDoor
open Go.RowKit Go.Shelf

set_option maxHeartbeats 4000000 in
set_option maxRecDepth 100000 in
theorem eqHost (k : Int) (s : ByteArray) (a : Int) (w : World) :
    Calls Tryz.prog 35 #[.agg #[.int .i64 k, .string s, .int .i64 a], .agg #[.int .i64 k, .string s, .int .i64 a]] w fun e w' => e = .returned (.bool true) ∧ Below w.heap.size w w' := by
  have HB : Hid (Below w.heap.size w ((w.alloc (.cells #[.int .i64 k, .string s, .int .i64 a] 23)).alloc (.cells #[.int .i64 k, .string s, .int .i64 a] 23))) := ((Below.refl _ w).alloc (Nat.le_refl _) _).alloc (by simp) _
  go_enter Tryz.func35, Tryz.ntmps35
  go_wp2
  go_ret
  exact ⟨rfl, HB.out⟩
/-- Two copies of an address. -/
structure TB (w : World) (q : P) (v v' : Value) (W : World) : Prop where
  make ::
  b1 : Blk w.heap.size (q.cells v) 26 W
  b2 : Blk (w.heap.size + 1) (q.cells v') 26 W
  bw : Below w.heap.size w W
theorem TB.start (w : World) (q : P) (v v' : Value) : TB w q v v' ((w.alloc (.cells (q.cells v) 26)).alloc (.cells (q.cells v') 26)) where
  b1 := Blk.alloc (Blk.new w _ _) _
  b2 := by
    have := Blk.new (w.alloc (.cells (q.cells v) 26)) (q.cells v') 26
    rw [show (w.alloc (Obj.cells (q.cells v) 26)).heap.size = w.heap.size + 1 by simp] at this
    exact this
  bw := ((Below.refl _ w).alloc (Nat.le_refl _) _).alloc (by simp) _
theorem TB.later {w W W' : World} {q : P} {v v' : Value} (h : TB w q v v' W) (b : Below W.heap.size W W') : TB w q v v' W' := ⟨h.b1.below b h.b1.lt, h.b2.below b h.b2.lt, h.bw.trans (b.mono h.bw.size)⟩
set_option maxHeartbeats 4000000 in
set_option maxRecDepth 100000 in
theorem eqUrl (q : P) (a a' : Option Addr) (c c' : Nat) (w : World) (h : StrsOf a q.ps.length q.ps w) (h' : StrsOf a' q.ps.length q.ps w) (hl : q.ps.length ≤ 1100000) :
    Calls Tryz.prog 11 #[.agg (q.cells (.slice a q.ps.length c)), .agg (q.cells (.slice a' q.ps.length c'))] w fun e w' => e = .returned (.bool true) ∧ Below w.heap.size w w' := by
  have H0 : Hid (TB w q (.slice a q.ps.length c) (.slice a' q.ps.length c') ((w.alloc (.cells (q.cells (.slice a q.ps.length c)) 26)).alloc (.cells (q.cells (.slice a' q.ps.length c')) 26))) := TB.start w q _ _
  obtain ⟨n, hn⟩ : ∃ n, n = q.ps.length := ⟨_, rfl⟩
  have CH : Hid (∀ W, Calls Tryz.prog 35 #[.agg #[.int .i64 q.hk, .string q.hn, .int .i64 q.ha], .agg #[.int .i64 q.hk, .string q.hn, .int .i64 q.ha]] W fun e w' => e = .returned (.bool true) ∧ Below W.heap.size W w') := fun W => eqHost q.hk q.hn q.ha W
  have CS : Hid (∀ W, Below w.heap.size w W → Calls Tryz.prog 36 #[.slice a n c, .slice a' n c'] W fun e w' => e = .returned (.bool true) ∧ ∃ n, w' = W.drewN n) := fun W b => by
    rw [hn]; exact eqStringS _ _ _ _ _ _ q.ps W (h.later b) (h'.later b) (by omega)
  rw [← hn] at H0 ⊢
  clear h h' hl hn
  unfold P.cells at H0 ⊢
  go_enter Tryz.func11, Tryz.ntmps11
  go_wp2_with fail
  refine (CH.out _).mono ?_
  rintro e W1 ⟨rfl, d1⟩
  have HX1 : Hid (TB w q (.slice a n c) (.slice a' n c') W1) := H0.out.later d1
  clear d1 H0 CH
  obtain ⟨k0, k1, k2, k3, k4, k5, k6, k7, k8, k9, k10, k11, k12⟩ := Blk.cells13 (q := q) HX1.out.b1
  obtain ⟨j0, j1, j2, j3, j4, j5, j6, j7, j8, j9, j10, j11, j12⟩ := Blk.cells13 (q := q) HX1.out.b2
  go_wp2_with fail
  refine (CS.out _ HX1.out.bw).mono ?_
  rintro e W2 ⟨rfl, n2, hW2⟩
  have HX2 : Hid (TB w q (.slice a n c) (.slice a' n c') W2) := by
    have e2 := hW2
    have b2 : Below W1.heap.size W1 W2 := by rw [e2]; exact below_drewN (Below.refl _ _) n2
    exact HX1.out.later b2
  clear hW2 HX1 CS k0 k1 k2 k3 k4 k5 k6 k7 k8 k9 k10 k11 k12 j0 j1 j2 j3 j4 j5 j6 j7 j8 j9 j10 j11 j12
  obtain ⟨k0, k1, k2, k3, k4, k5, k6, k7, k8, k9, k10, k11, k12⟩ := Blk.cells13 (q := q) HX2.out.b1
  obtain ⟨j0, j1, j2, j3, j4, j5, j6, j7, j8, j9, j10, j11, j12⟩ := Blk.cells13 (q := q) HX2.out.b2
  go_wp2
  go_ret
  exact ⟨rfl, HX2.out.bw⟩
set_option maxHeartbeats 4000000 in
set_option maxRecDepth 100000 in
theorem markUrl (b : Nat) (A : Array Value) (B : Nat) (q : P) (a : Option Addr) (n c k : Nat) (w : World) (hn : n = q.ps.length) (h : OwnS B (.slice a n c) q.ps w) (hK : Blk b A 26 w) (hB : B ≤ w.heap.size) (hk : 1 ≤ k) (hk2 : k ≤ 2000000) (hl : n ≤ 1100000) :
    Calls Tryz.prog 12 #[.agg (q.cells (.slice a n c)), .int .i64 k] w fun e w' => e = .returned (.int .i64 ((k + n : Nat) : Int)) ∧ OwnS B (.slice a n c) (markTs k n) w' ∧ Below B w w' ∧ Blk b A 26 w' := by
  have H0 : Hid (Wp w q (.slice a n c) (w.alloc (.cells (q.cells (.slice a n c)) 26))) := Wp.start w q _
  have CM : Hid (∀ W, Below w.heap.size w W → Calls Tryz.prog 37 #[.slice a n c, .int .i64 k] W fun e w' => e = .returned (.int .i64 ((k + n : Nat) : Int)) ∧ OwnS B (.slice a n c) (markTs k n) w' ∧ Below B W w' ∧ Blk b A 26 w') := fun W d => by
    rw [hn]; exact markStringK b A _ (by decide) B _ q.ps k W (by rw [← hn]; exact h.later d) (hK.below d hK.lt) (by have := d.size; omega) hk hk2 (by omega)
  have HB : Hid (B ≤ w.heap.size) := hB
  clear h hn hB hl hK
  unfold P.cells at H0 ⊢
  go_enter Tryz.func12, Tryz.ntmps12
  go_wp2_with fail
  refine (CM.out _ H0.out.bw).mono ?_
  rintro e W1 ⟨rfl, o1, d1, k1⟩
  have HK : Hid (Blk b A 26 W1) := k1
  have HO : Hid (OwnS B (.slice a n c) (markTs k n) W1) := o1
  have HD : Hid (Below B w W1) := (H0.out.bw.mono HB.out).trans d1
  clear o1 d1 k1 H0 CM HB
  go_wp2
  go_ret
  exact ⟨rfl, HO.out, HD.out, HK.out⟩
set_option maxHeartbeats 4000000 in
set_option maxRecDepth 100000 in
theorem heldUrl (q : P) (a : Option Addr) (n c k : Nat) (w : World) (h : StrsOf a n (markTs k n) w) (hk : 1 ≤ k) (hk2 : k ≤ 2000000) (hl : n ≤ 1100000) :
    Calls Tryz.prog 13 #[.agg (q.cells (.slice a n c)), .int .i64 k] w fun e w' => e = .returned (.int .i64 ((k + n : Nat) : Int)) ∧ Below w.heap.size w w' := by
  have H0 : Hid (Wp w q (.slice a n c) (w.alloc (.cells (q.cells (.slice a n c)) 26))) := Wp.start w q _
  have CM : Hid (∀ W, Below w.heap.size w W → Calls Tryz.prog 38 #[.slice a n c, .int .i64 k] W fun e w' => e = .returned (.int .i64 ((k + n : Nat) : Int)) ∧ Below W.heap.size W w') := fun W b => heldStringS a n c k W (h.later b) hk hk2 hl
  clear h hl
  unfold P.cells at H0 ⊢
  go_enter Tryz.func13, Tryz.ntmps13
  go_wp2_with fail
  refine (CM.out _ H0.out.bw).mono ?_
  rintro e W1 ⟨rfl, d1⟩
  have HD : Hid (Below w.heap.size w W1) := H0.out.bw.trans (d1.mono H0.out.bw.size)
  clear d1 H0 CM
  go_wp2
  go_ret
  exact ⟨rfl, HD.out⟩
end Go.Proofs.YtmbojhlfhafhjaaGreatDoor
end

section
set_option linter.unusedVariables false
set_option linter.unusedSimpArgs false
namespace Go.Proofs.YtmbojhlfhafhjaaGreatDoor
open Go.RowKit Go.Shelf

def laidRow (k : IntKind) (cs : List Int) : Obj → Obj
  | .cells _ t frozen => .cells (cs.map (Value.int k)).toArray t frozen
  | o => o
def eofRow (g : Nat) : Obj → Obj
  | .cells _ t frozen => .cells #[.iface 115 (.pointer (some ⟨g, 0, none⟩))] t frozen
  | o => o
theorem max_shaped {W : World} (h : W.ShapedOpen Tryz.prog) : ∃ m, W.cell? ⟨1, 0, none⟩ = some (.int .i64 m) :=
  Go.Proofs.cell_of_shapedOpen_int (zero := #[.int .i64 0]) (t := 3) h (of_decide_eq_true (by kernel_rfl)) (by kernel_rfl) rfl (by kernel_rfl) (by kernel_rfl) Tryz.underlying3
theorem row_eof (u : TypeId) (h : Tryz.prog.typeName? 3 u = some "*errors.errorString") : u = 115 :=
  typeName_ptr_named (nm := "errors.errorString") (by rw [show "*" ++ "errors.errorString" = "*errors.errorString" by decide]; kernel_rfl) (by kernel_rfl) (by decide) u (by rw [show "*" ++ "errors.errorString" = "*errors.errorString" by decide]; exact h)
theorem pow10_named : Tryz.prog.globalNamed "internal/strconv.uint64pow10" = some 4 := by kernel_rfl
theorem lean1_laid {W : World} (h : laidMet Tryz.prog Rows.fnExactUrlGetRow.laid W) (hsh : W.ShapedOpen Tryz.prog) : Lean1 W := by
  have h1 : laidMet Tryz.prog (("internal/strconv.uint64pow10", Rows.laid_internal_strconv_uint64pow10) :: ("unicode/utf8.acceptRanges", Rows.laid_unicode_utf8_acceptRanges) :: ("io.EOF", Rows.laid_io_EOF) :: ("unicode/utf8.first", Rows.laid_unicode_utf8_first) :: []) W := laidMet.tail (laidMet.tail h)
  have h2 : laidMet Tryz.prog (("io.EOF", Rows.laid_io_EOF) :: ("unicode/utf8.first", Rows.laid_unicode_utf8_first) :: []) W := laidMet.tail (laidMet.tail h1)
  have e : (Rows.laid_internal_strconv_uint64pow10 : DataW Unit) = Lib.tabData .u64 Lib.pow10Tab := by kernel_rfl
  rw [e] at h1
  have ht : Lib.TabIs Tryz.prog W "internal/strconv.uint64pow10" .u64 Lib.pow10Tab := Lib.tabIs_of_head pow10_named (by kernel_rfl) Tryz.underlying149 Tryz.underlying135 (by kernel_rfl) (by kernel_rfl) h1
  have hlt : 4 < W.heap.size := cell_in (ht.cell pow10_named 0 (by decide))
  have hg : Tryz.prog.globalNamed "io.EOF" = some 0 := by kernel_rfl
  obtain ⟨a, s, hv, _⟩ := laid_sentinel h2 hg (by kernel_rfl) Tryz.underlying75 row_eof Tryz.underlying115 Tryz.underlying117 rfl rfl Tryz.underlying9 (by kernel_rfl) (by kernel_rfl)
  have hc := World.var?_cell hg hv 0
  exact ⟨⟨max_shaped hsh, hlt, ht⟩, ⟨_, _, by simpa using hc⟩⟩
end Go.Proofs.YtmbojhlfhafhjaaGreatDoor
end

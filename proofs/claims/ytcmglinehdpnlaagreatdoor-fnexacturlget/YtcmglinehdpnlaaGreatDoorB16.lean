/- strings.Replacer's build, at the six texts that take line ends and tabs away. -/
import Derived.Test.YtcmglinehdpnlaaGreatDoorB04
import Derived.Test.YtcmglinehdpnlaaGreatDoorB12
import Derived.Test.YtcmglinehdpnlaaGreatDoorB01
import Derived.Deep.WholeRow
import Derived.Test.YtcmglinehdpnlaaGreatDoorB05
section
set_option linter.unusedVariables false
namespace Go.Proofs.YtcmglinehdpnlaaGreatDoor
open Go.RowKit Go.Shelf

theorem make3 (W : World) : (Instr.makeSlice 24 (.int .i64 0) (.int .i64 3)).run Tryz.prog W = .ok (.slice (some ⟨W.heap.size, 0, none⟩) 0 3) (W.alloc (.cells #[.string ⟨#[]⟩, .string ⟨#[]⟩, .string ⟨#[]⟩] 9)) := by
  obtain ⟨i0, hi, hz0, hz1, hz2⟩ := info_parts infoStr
  have := run_make (P := Tryz.prog) W 24 9 i0 (.string ⟨#[]⟩) Tryz.underlying24 hi hz0 .i64 .i64 0 3 (by decide) (by decide) (by rw [hz2]; decide) (by decide)
  rw [this, hz1]
  have e : madeCells (Value.string ⟨#[]⟩).cells ((3 : Int).toNat * 1) = #[.string ⟨#[]⟩, .string ⟨#[]⟩, .string ⟨#[]⟩] := by
    kernel_rfl
  rw [e]
  rfl
theorem zeros_rep : Tryz.zeroCells145 = Array.replicate 257 (Value.slice none 0 0) := by kernel_rfl
/-- The table of the replacer, as it begins: nothing is replaced; what is to be is told in memory q. -/
def tab0 (q : Nat) : Array Value := (Array.replicate 257 (Value.slice none 0 0)).setIfInBounds 256 (.slice (some ⟨q, 0, none⟩) 0 3)
theorem store0 (W : World) (q : Nat) : (storeCells ⟨W.heap.size, 0, none⟩ (Tryz.zeroCells145.toList.set 256 (.slice (some ⟨q, 0, none⟩) 0 3)) 0).run Tryz.prog (W.alloc (.cells Tryz.zeroCells145 145)) = .ok () (W.alloc (.cells (tab0 q) 145)) := by
  have hs : (Tryz.prog.info? 145).map (·.size) = some 257 := by kernel_rfl
  have e : (tab0 q).toList = Tryz.zeroCells145.toList.set 256 (.slice (some ⟨q, 0, none⟩) 0 3) := by
    rw [zeros_rep]; unfold tab0; rw [Array.toList_setIfInBounds]
  have hz : (tab0 q).size = 257 := by unfold tab0; rw [Array.size_setIfInBounds, Array.size_replicate]
  have := run_storeCells_new (P := Tryz.prog) W 145 Tryz.zeroCells145 (tab0 q) (by rw [hz]; exact hs) (by rw [hz, zeros_rep, Array.size_replicate]) (by
    rw [Array.all_eq_true']
    intro v hv
    unfold tab0 at hv
    rcases Array.mem_or_eq_of_mem_setIfInBounds hv with h | h
    · rw [Array.mem_replicate] at h; rw [h.2]; rfl
    · rw [h]; rfl)
  rw [e] at this
  exact this

set_option maxRecDepth 100000 in
theorem nil_eql (W : World) : (binOp .eql 63 (.slice none 0 0) (.slice none 0 0)).run Tryz.prog W = .ok (.bool true) W := rfl
/-- The six texts in memory o. -/
def Six (o : Nat) (w : World) : Prop := w.cell? ⟨o, 0, none⟩ = some (.string ⟨#[9]⟩) ∧ w.cell? ⟨o, 1, none⟩ = some (.string ⟨#[]⟩) ∧ w.cell? ⟨o, 2, none⟩ = some (.string ⟨#[10]⟩) ∧ w.cell? ⟨o, 3, none⟩ = some (.string ⟨#[]⟩) ∧ w.cell? ⟨o, 4, none⟩ = some (.string ⟨#[13]⟩) ∧ w.cell? ⟨o, 5, none⟩ = some (.string ⟨#[]⟩)
theorem cell_low {w w' : World} {B : Nat} {p : Addr} {v : Value} (b : Below B w w') (h : w.cell? p = some v) (hB : w.heap.size ≤ B) : w'.cell? p = some v := (b.cell (Nat.lt_of_lt_of_le (cell_in h) hB)).trans h
theorem Six.low {o B : Nat} {w w' : World} (h : Six o w) (b : Below B w w') (hB : w.heap.size ≤ B) : Six o w' :=
  ⟨cell_low b h.1 hB, cell_low b h.2.1 hB, cell_low b h.2.2.1 hB, cell_low b h.2.2.2.1 hB, cell_low b h.2.2.2.2.1 hB, cell_low b h.2.2.2.2.2 hB⟩

/-- The bytes that are to be replaced, in the order in which they are entered. -/
def dn (k : Nat) : List Nat := [13, 10, 9].take k
def Tab (k q : Nat) (A : Array Value) : Prop := A.size = 257 ∧ A[256]? = some (.slice (some ⟨q, 0, none⟩) k 3) ∧ (∀ c, c < 256 → ¬ c ∈ dn k → A[c]? = some (.slice none 0 0)) ∧ ∀ c ∈ dn k, ∃ x n, A[c]? = some (.slice (some x) 0 n)
def rowT (k : Nat) : Array Value := if k = 0 then #[.string ⟨#[]⟩, .string ⟨#[]⟩, .string ⟨#[]⟩] else if k = 1 then #[.string ⟨#[13]⟩, .string ⟨#[]⟩, .string ⟨#[]⟩] else if k = 2 then #[.string ⟨#[13]⟩, .string ⟨#[10]⟩, .string ⟨#[]⟩] else #[.string ⟨#[13]⟩, .string ⟨#[10]⟩, .string ⟨#[9]⟩]
theorem tab_start (q : Nat) : Tab 0 q (tab0 q) := by
  unfold tab0
  refine ⟨by rw [Array.size_setIfInBounds, Array.size_replicate], ?_, ?_, by simp [dn]⟩
  · rw [Array.getElem?_setIfInBounds]; simp
  · intro c hc _
    rw [Array.getElem?_setIfInBounds, if_neg (by omega), Array.getElem?_replicate, if_pos (by omega)]
theorem tab_next (k q : Nat) (A : Array Value) (h : Tab k q A) (c : Nat) (hk : [13, 10, 9][k]? = some c) (x : Addr) (n : Nat) : Tab (k + 1) q ((A.setIfInBounds 256 (.slice (some ⟨q, 0, none⟩) (k + 1) 3)).setIfInBounds c (.slice (some x) 0 n)) := by
  have hd : dn (k + 1) = dn k ++ [c] := by unfold dn; rw [List.take_add_one, hk]; rfl
  have hc : c < 256 := by
    have := List.mem_of_getElem? hk
    simp at this
    omega
  obtain ⟨h1, h2, h3, h4⟩ := h
  refine ⟨by rw [Array.size_setIfInBounds, Array.size_setIfInBounds, h1], ?_, ?_, ?_⟩
  · rw [Array.getElem?_setIfInBounds, if_neg (by omega), Array.getElem?_setIfInBounds, if_pos rfl, if_pos (by omega)]
  · intro d hd' hn
    rw [hd] at hn
    have hne : ¬ c = d := fun e => hn (by simp [e])
    rw [Array.getElem?_setIfInBounds, if_neg hne, Array.getElem?_setIfInBounds, if_neg (by omega)]
    exact h3 d hd' (fun e => hn (by simp [e]))
  · intro d hd'
    rw [hd] at hd'
    by_cases e : c = d
    · subst e
      exact ⟨x, n, by rw [Array.getElem?_setIfInBounds, if_pos rfl, if_pos (by rw [Array.size_setIfInBounds]; omega)]⟩
    · have hm : d ∈ dn k := by
        rcases List.mem_append.1 hd' with h | h
        · exact h
        · simp at h; exact absurd h.symm e
      obtain ⟨x', n', e'⟩ := h4 d hm
      have hdl : d < 256 := by
        unfold dn at hm
        have := List.mem_of_mem_take hm
        simp at this; omega
      exact ⟨x', n', by rw [Array.getElem?_setIfInBounds, if_neg e, Array.getElem?_setIfInBounds, if_neg (by omega)]; exact e'⟩
/-- While the table is made. -/
def Mk (w : World) (k : Nat) (W : World) : Prop := ∃ A, Tab k w.heap.size A ∧ Blk (w.heap.size + 1) A 145 W ∧ Blk w.heap.size (rowT k) 9 W ∧ Below w.heap.size w W

theorem Blk.other {w : World} {g : Nat} {A : Array Value} {t : TypeId} (h : Blk g A t w) (g' j : Nat) (v : Value) (hne : g ≠ g') : Blk g A t (w.setCell ⟨g', j, none⟩ v) := (Below.heap_setCell _ _ _ _ (fun e => hne (by simpa using e))).trans h
theorem convE (W : World) : ∃ c V, (convert 9 63 (.string ⟨#[]⟩)).run Tryz.prog W = .ok (.slice (some ⟨W.heap.size, 0, none⟩) 0 c) V ∧ Below W.heap.size W V := by
  have := Lib.run_convert_string_bytes (P := Tryz.prog) W 9 63 5 ⟨#[]⟩ Tryz.underlying9 Tryz.underlying63 Tryz.underlying5
  exact ⟨_, _, this, bytes_below _ W⟩
/-- The world when a byte has been entered, but for its place in the table. -/
def V3 (w : World) (k k1 : Nat) (c : UInt8) (z : Int) (W : World) : World := ((((W.alloc (.cells #[.int .u8 z] 5)).alloc (.cells #[.string (mk [c])] 9)).setCell ⟨w.heap.size, k, none⟩ (.string (mk [c]))).setCell ⟨w.heap.size + 1, 256, none⟩ (.slice (some ⟨w.heap.size, 0, none⟩) k1 3))
theorem V3.facts (w : World) (k k1 : Nat) (c : UInt8) (z : Int) (W : World) (hk1 : k1 = k + 1) (A : Array Value) (hA : Blk (w.heap.size + 1) A 145 W) (hR : Blk w.heap.size (rowT k) 9 W) (hW : Below w.heap.size w W) (hr : (rowT k).setIfInBounds k (.string (mk [c])) = rowT (k + 1)) :
    Blk (w.heap.size + 1) (A.setIfInBounds 256 (.slice (some ⟨w.heap.size, 0, none⟩) (k + 1) 3)) 145 (V3 w k k1 c z W) ∧ Blk w.heap.size (rowT (k + 1)) 9 (V3 w k k1 c z W) ∧ Below w.heap.size w (V3 w k k1 c z W) := by
  subst hk1
  have a1 := Blk.alloc (Blk.alloc hA (.cells #[.int .u8 z] 5)) (.cells #[.string (mk [c])] 9)
  have r1 := Blk.alloc (Blk.alloc hR (.cells #[.int .u8 z] 5)) (.cells #[.string (mk [c])] 9)
  have a2 := a1.other w.heap.size k (.string (mk [c])) (by omega)
  have r2 := Blk.set r1 k (.string (mk [c]))
  rw [hr] at r2
  have hlt := hR.lt
  refine ⟨Blk.set a2 256 _, r2.other _ _ _ (by omega), ?_⟩
  exact (((hW.alloc (by omega) _).alloc (by simp; omega) _).setCell (p := ⟨w.heap.size, k, none⟩) (Nat.le_refl _) _).setCell (p := ⟨w.heap.size + 1, 256, none⟩) (Nat.le_succ _) _
theorem Mk.next (w : World) (k k1 : Nat) (c : UInt8) (z : Int) (W V : World) (hk1 : k1 = k + 1) (A : Array Value) (hT : Tab k w.heap.size A) (hA : Blk (w.heap.size + 1) A 145 W) (hR : Blk w.heap.size (rowT k) 9 W) (hW : Below w.heap.size w W) (hk : [13, 10, 9][k]? = some c.toNat) (hr : (rowT k).setIfInBounds k (.string (mk [c])) = rowT (k + 1)) (b : Below (V3 w k k1 c z W).heap.size (V3 w k k1 c z W) V) (x : Addr) (n : Nat) :
    Mk w (k + 1) (V.setCell ⟨w.heap.size + 1, c.toNat, none⟩ (.slice (some x) 0 n)) := by
  obtain ⟨f1, f2, f3⟩ := V3.facts w k k1 c z W hk1 A hA hR hW hr
  have g1 := f1.below b f1.lt
  have g2 := f2.below b f2.lt
  have g3 := f3.trans (b.mono f3.size)
  exact ⟨_, tab_next k _ A hT c.toNat hk x n, Blk.set g1 _ _, g2.other _ _ _ (by omega), g3.setCell (p := ⟨w.heap.size + 1, c.toNat, none⟩) (Nat.le_succ _) _⟩

set_option maxHeartbeats 4000000 in
set_option maxRecDepth 100000 in
theorem build (b o cap : Nat) (x0 x1 x2 x3 : Value) (w : World) (h : Blk b #[x0, x1, x2, x3, .slice (some ⟨o, 0, none⟩) 6 cap] 102 w) (h6 : Six o w) :
    Calls Tryz.prog 104 #[.pointer (some ⟨b, 0, none⟩)] w fun e w' => e = .returned (.iface 146 (.pointer (some ⟨w.heap.size + 1, 0, none⟩))) ∧ Mk w 3 w' := by
  have c4 : w.cell? ⟨b, 4, none⟩ = some (.slice (some ⟨o, 0, none⟩) 6 cap) := h.cell 4
  obtain ⟨h0, h1, h2, h3, h4, h5⟩ := h6
  go_enter Tryz.func104, Tryz.ntmps104
  go_wp2
  go_loop [4, 5] (fun al i => ∃ k : Nat, k ≤ 3 ∧ i = .int .i64 (2 * k : Nat) ∧ al = .bool (k == 0)) (fun al i => 6 - (intOf i).toNat)
  case atStart => exact ⟨0, by decide, rfl, rfl⟩
  case round =>
    obtain ⟨k, hk, rfl, rfl⟩ := hrel
    rcases (show k = 0 ∨ k = 1 ∨ k = 2 ∨ k = 3 by omega) with rfl | rfl | rfl | rfl
    · go_wp2
      go_round
      case rel => exact ⟨1, by decide, rfl, rfl⟩
      case measure => simp [intOf]
    · go_wp2
      go_round
      case rel => exact ⟨2, by decide, rfl, rfl⟩
      case measure => simp [intOf]
    · go_wp2
      go_round
      case rel => exact ⟨3, by decide, rfl, rfl⟩
      case measure => simp [intOf]
    · have hmk := make3 w
      have hst := store0 (w.alloc (.cells #[.string ⟨#[]⟩, .string ⟨#[]⟩, .string ⟨#[]⟩] 9)) w.heap.size
      rw [show (w.alloc (Obj.cells #[.string ⟨#[]⟩, .string ⟨#[]⟩, .string ⟨#[]⟩] 9)).heap.size = w.heap.size + 1 by simp] at hst
      have HK : Hid (Mk w 0 ((w.alloc (.cells #[.string ⟨#[]⟩, .string ⟨#[]⟩, .string ⟨#[]⟩] 9)).alloc (.cells (tab0 w.heap.size) 145))) := by
        refine ⟨_, tab_start _, ?_, Blk.alloc (Blk.new w _ _) _, ((Below.refl _ w).alloc (Nat.le_refl _) _).alloc (by simp) _⟩
        have := Blk.new (w.alloc (.cells #[.string ⟨#[]⟩, .string ⟨#[]⟩, .string ⟨#[]⟩] 9)) (tab0 w.heap.size) 145
        rw [show (w.alloc (Obj.cells #[.string ⟨#[]⟩, .string ⟨#[]⟩, .string ⟨#[]⟩] 9)).heap.size = w.heap.size + 1 by simp] at this
        exact this
      have H6 : Hid (Six o w) := ⟨h0, h1, h2, h3, h4, h5⟩
      go_wp2
      go_loopw [12] (fun i wr => ∃ k : Nat, k ≤ 3 ∧ i = .int .i64 (4 - 2 * (k : Int)) ∧ Hid (Mk w k wr)) (fun i wr => (intOf i + 2).toNat)
      case atStart => exact ⟨0, by decide, rfl, HK⟩
      case round =>
        clear HK hst hmk h0 h1 h2 h3 h4 h5 c4
        obtain ⟨k, hk, rfl, HK⟩ := hrel
        obtain ⟨A, hT, hA, hR, hW⟩ := HK.out
        obtain ⟨h0, h1, h2, h3, h4, h5⟩ := H6.out.low hW (Nat.le_refl _)
        have c256 : wr.cell? ⟨w.heap.size + 1, 256, none⟩ = some (.slice (some ⟨w.heap.size, 0, none⟩) k 3) := (hA.cell 256).trans hT.2.1
        have f256 : wr.frozen? ⟨w.heap.size + 1, 256, none⟩ = false := hA.free 256
        rcases (show k = 0 ∨ k = 1 ∨ k = 2 ∨ k = 3 by omega) with rfl | rfl | rfl | rfl
        · have c13 : wr.cell? ⟨w.heap.size + 1, 13, none⟩ = some (.slice none 0 0) := (hA.cell 13).trans (hT.2.2.1 13 (by decide) (by decide))
          have f13 : wr.frozen? ⟨w.heap.size + 1, 13, none⟩ = false := hA.free 13
          have q0 : wr.cell? ⟨w.heap.size, 0, none⟩ = some (.string ⟨#[]⟩) := hR.cell 0
          have fq0 : wr.frozen? ⟨w.heap.size, 0, none⟩ = false := hR.free 0
          have e13 : (((ByteArray.mk #[13])[0]'(by decide)).toNat : Int) = 13 := rfl
          have hnil := nil_eql wr
          have hcv := conv_one wr.heap.size 13 (wr.alloc (.cells #[.int .u8 13] 5)) 13 rfl (heap_alloc_new wr _)
          have hA2 := Blk.alloc (Blk.alloc hA (.cells #[.int .u8 13] 5)) (.cells #[.string (mk [13])] 9)
          have hR2 := Blk.alloc (Blk.alloc hR (.cells #[.int .u8 13] 5)) (.cells #[.string (mk [13])] 9)
          have q0' := hR2.cell 0
          have fq0' := hR2.free 0
          have c256' := (hA2.cell 256).trans hT.2.1
          have f256' := hA2.free 256
          rw [show (rowT 0)[0]? = some (.string ⟨#[]⟩) from rfl] at q0'
          obtain ⟨cE, V4, hE, b4⟩ := convE (V3 w 0 1 13 13 wr)
          obtain ⟨f1, _, _⟩ := V3.facts w 0 1 13 13 wr rfl A hA hR hW rfl
          have d13 : V4.cell? ⟨w.heap.size + 1, 13, none⟩ = some (.slice none 0 0) := by
            have e := (f1.below b4 f1.lt).cell 13
            rw [Array.getElem?_setIfInBounds, if_neg (by decide)] at e
            exact e.trans (hT.2.2.1 13 (by decide) (by decide))
          have e13' := (f1.below b4 f1.lt).free 13
          have HN : Hid (∀ x n, Mk w 1 (V4.setCell ⟨w.heap.size + 1, 13, none⟩ (.slice (some x) 0 n))) := fun x n => Mk.next w 0 1 13 13 wr V4 rfl A hT hA hR hW rfl rfl b4 x n
          obtain ⟨z3, hz3⟩ : ∃ z, z = (V3 w 0 1 13 13 wr).heap.size := ⟨_, rfl⟩
          rw [← hz3] at hE
          unfold V3 at hE
          clear hT hA hR hW HK hA2 hR2 b4 f1 hz3
          go_wp2
          go_roundw
          case rel => exact ⟨1, by decide, by go_num, HN.out _ _⟩
          case measure => simp [intOf]
        · have c13 : wr.cell? ⟨w.heap.size + 1, 10, none⟩ = some (.slice none 0 0) := (hA.cell 10).trans (hT.2.2.1 10 (by decide) (by decide))
          have f13 : wr.frozen? ⟨w.heap.size + 1, 10, none⟩ = false := hA.free 10
          have q0 : wr.cell? ⟨w.heap.size, 1, none⟩ = some (.string ⟨#[]⟩) := hR.cell 1
          have fq0 : wr.frozen? ⟨w.heap.size, 1, none⟩ = false := hR.free 1
          have e13 : (((ByteArray.mk #[10])[0]'(by decide)).toNat : Int) = 10 := rfl
          have hnil := nil_eql wr
          have hcv := conv_one wr.heap.size 10 (wr.alloc (.cells #[.int .u8 10] 5)) 10 rfl (heap_alloc_new wr _)
          have hA2 := Blk.alloc (Blk.alloc hA (.cells #[.int .u8 10] 5)) (.cells #[.string (mk [10])] 9)
          have hR2 := Blk.alloc (Blk.alloc hR (.cells #[.int .u8 10] 5)) (.cells #[.string (mk [10])] 9)
          have q0' := hR2.cell 1
          have fq0' := hR2.free 1
          have c256' := (hA2.cell 256).trans hT.2.1
          have f256' := hA2.free 256
          rw [show (rowT 1)[1]? = some (.string ⟨#[]⟩) from rfl] at q0'
          obtain ⟨cE, V4, hE, b4⟩ := convE (V3 w 1 2 10 10 wr)
          obtain ⟨f1, _, _⟩ := V3.facts w 1 2 10 10 wr rfl A hA hR hW rfl
          have d13 : V4.cell? ⟨w.heap.size + 1, 10, none⟩ = some (.slice none 0 0) := by
            have e := (f1.below b4 f1.lt).cell 10
            rw [Array.getElem?_setIfInBounds, if_neg (by decide)] at e
            exact e.trans (hT.2.2.1 10 (by decide) (by decide))
          have e13' := (f1.below b4 f1.lt).free 10
          have HN : Hid (∀ x n, Mk w 2 (V4.setCell ⟨w.heap.size + 1, 10, none⟩ (.slice (some x) 0 n))) := fun x n => Mk.next w 1 2 10 10 wr V4 rfl A hT hA hR hW rfl rfl b4 x n
          obtain ⟨z3, hz3⟩ : ∃ z, z = (V3 w 1 2 10 10 wr).heap.size := ⟨_, rfl⟩
          rw [← hz3] at hE
          unfold V3 at hE
          clear hT hA hR hW HK hA2 hR2 b4 f1 hz3
          go_wp2
          go_roundw
          case rel => exact ⟨2, by decide, by go_num, HN.out _ _⟩
          case measure => simp [intOf]
        · have c13 : wr.cell? ⟨w.heap.size + 1, 9, none⟩ = some (.slice none 0 0) := (hA.cell 9).trans (hT.2.2.1 9 (by decide) (by decide))
          have f13 : wr.frozen? ⟨w.heap.size + 1, 9, none⟩ = false := hA.free 9
          have q0 : wr.cell? ⟨w.heap.size, 2, none⟩ = some (.string ⟨#[]⟩) := hR.cell 2
          have fq0 : wr.frozen? ⟨w.heap.size, 2, none⟩ = false := hR.free 2
          have e13 : (((ByteArray.mk #[9])[0]'(by decide)).toNat : Int) = 9 := rfl
          have hnil := nil_eql wr
          have hcv := conv_one wr.heap.size 9 (wr.alloc (.cells #[.int .u8 9] 5)) 9 rfl (heap_alloc_new wr _)
          have hA2 := Blk.alloc (Blk.alloc hA (.cells #[.int .u8 9] 5)) (.cells #[.string (mk [9])] 9)
          have hR2 := Blk.alloc (Blk.alloc hR (.cells #[.int .u8 9] 5)) (.cells #[.string (mk [9])] 9)
          have q0' := hR2.cell 2
          have fq0' := hR2.free 2
          have c256' := (hA2.cell 256).trans hT.2.1
          have f256' := hA2.free 256
          rw [show (rowT 2)[2]? = some (.string ⟨#[]⟩) from rfl] at q0'
          obtain ⟨cE, V4, hE, b4⟩ := convE (V3 w 2 3 9 9 wr)
          obtain ⟨f1, _, _⟩ := V3.facts w 2 3 9 9 wr rfl A hA hR hW rfl
          have d13 : V4.cell? ⟨w.heap.size + 1, 9, none⟩ = some (.slice none 0 0) := by
            have e := (f1.below b4 f1.lt).cell 9
            rw [Array.getElem?_setIfInBounds, if_neg (by decide)] at e
            exact e.trans (hT.2.2.1 9 (by decide) (by decide))
          have e13' := (f1.below b4 f1.lt).free 9
          have HN : Hid (∀ x n, Mk w 3 (V4.setCell ⟨w.heap.size + 1, 9, none⟩ (.slice (some x) 0 n))) := fun x n => Mk.next w 2 3 9 9 wr V4 rfl A hT hA hR hW rfl rfl b4 x n
          obtain ⟨z3, hz3⟩ : ∃ z, z = (V3 w 2 3 9 9 wr).heap.size := ⟨_, rfl⟩
          rw [← hz3] at hE
          unfold V3 at hE
          clear hT hA hR hW HK hA2 hR2 b4 f1 hz3
          go_wp2
          go_roundw
          case rel => exact ⟨3, by decide, by go_num, HN.out _ _⟩
          case measure => simp [intOf]
        · clear c256 f256 h0 h1 h2 h3 h4 h5
          have HK' : Hid (Mk w 3 wr) := HK
          clear hT hA hR hW
          go_wp2
          go_ret
          exact ⟨rfl, HK.out⟩
end Go.Proofs.YtcmglinehdpnlaaGreatDoor
end

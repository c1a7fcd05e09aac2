/- Plain facts: one byte taken away everywhere, and so line ends and tabs. Facts on worlds that the later texts share. impl.urlTrim: what cannot be seen at the ends, and line ends and tabs, taken away. How great an address is that was read. impl.UrlGet: an address, read. What the laid tables and io.EOF give a walk. -/
import Derived.Test.YticbekooadnnlaaGreatDoorB04
import Derived.Test.YticbekooadnnlaaGreatDoorB12
import Derived.Test.YticbekooadnnlaaGreatDoorB01
import Derived.Test.YticbekooadnnlaaGreatDoorB05
import Derived.Test.YticbekooadnnlaaGreatDoorB06
import Derived.Test.YticbekooadnnlaaGreatDoorB02
import Derived.Deep.RegionWith
import Derived.Test.YticbekooadnnlaaGreatDoorB10
import Derived.Test.YticbekooadnnlaaGreatDoorB13
import Derived.Test.YticbekooadnnlaaGreatDoorRows
import Derived.Stop.LaidErr
import Derived.Lib.LaidTab
import Derived.WalkKit
import Derived.ProofKit
import Derived.Deep.DeepHandedRow
section
set_option linter.unusedVariables false
namespace Go.Proofs.YticbekooadnnlaaGreatDoor
open Go.RowKit Go.Shelf

theorem rep_del (b : UInt8) (l : List UInt8) : Lib.replaceAll l [b] [] = l.filter (fun x => x != b) := by
  induction l with
  | nil => rw [rep_nil _ _ (by simp) (by simp)]; rfl
  | cons x l ih =>
    by_cases hx : x = b
    · subst hx
      rw [rep_pre x l [x] [] (by simp) (by simp) (by simp [List.isPrefixOf])]
      simp at ih ⊢
      exact ih
    · rw [rep_not x l [b] [] (by simp) (by simp) (by simp [List.isPrefixOf]; exact fun e => hx e.symm), ih]
      simp [hx]
/-- A byte that stays. -/
def stays (c : UInt8) : Bool := !(c == 13 || c == 10 || c == 9)
def dropT (l : List UInt8) : List UInt8 := l.filter stays
theorem drop_three (l : List UInt8) : ((l.filter (fun x => x != 9)).filter (fun x => x != 10)).filter (fun x => x != 13) = dropT l := by
  unfold dropT
  rw [List.filter_filter, List.filter_filter]
  congr 1
  funext c
  unfold stays
  simp [bne, Bool.and_assoc]
theorem cell_low {w w' : World} {B : Nat} {p : Addr} {v : Value} (b : Below B w w') (h : w.cell? p = some v) (hB : w.heap.size ≤ B) : w'.cell? p = some v := (b.cell (Nat.lt_of_lt_of_le (cell_in h) hB)).trans h
theorem Blk.other {w : World} {g : Nat} {A : Array Value} {t : TypeId} (h : Blk g A t w) (g' j : Nat) (v : Value) (hne : g ≠ g') : Blk g A t (w.setCell ⟨g', j, none⟩ v) := (Below.heap_setCell _ _ _ _ (fun e => hne (by simpa using e))).trans h
theorem grown_low' {w w' : World} {row : Option Nat} (b : Below w.heap.size w w') : w.grownBy w' row := ⟨b.os, b.tape, b.output, b.size, fun j hj _ => b.block j hj⟩
theorem OwnS.ne {B g n c b : Nat} {A : Array Value} {t : TypeId} {ps : List (List UInt8)} {w : World} (h : OwnS B (.slice (some ⟨g, 0, none⟩) n c) ps w) (hK : Blk b A t w) (ht : t ≠ 9) : b ≠ g := by
  rcases h.2 with ⟨hv, h0⟩ | ⟨g', cap, cur, hv, hB, hg, hnc, hcm, hcs, htk⟩
  · cases hv
  · simp only [Value.slice.injEq, Option.some.injEq, Addr.mk.injEq, and_true] at hv
    obtain ⟨rfl, hn, rfl⟩ := hv
    intro e
    subst e
    have hK' : w.heap[b]? = some (.cells A t (0, 0)) := hK
    rw [hg] at hK'
    simp only [Option.some.injEq, Obj.cells.injEq] at hK'
    exact ht hK'.2.1.symm
end Go.Proofs.YticbekooadnnlaaGreatDoor
end

section
set_option linter.unusedVariables false
set_option linter.unusedSimpArgs false
namespace Go.Proofs.YticbekooadnnlaaGreatDoor
open Go.RowKit Go.Shelf

def low32 (c : UInt8) : Bool := decide (c.toNat ≤ 32)
/-- A text without what cannot be seen at its ends. -/
def midL (l : List UInt8) : List UInt8 := ((l.dropWhile low32).reverse.dropWhile low32).reverse
def trimL (l : List UInt8) : List UInt8 := dropT (midL l)
theorem dw_eq (l : List UInt8) (k : Nat) (h : ∀ c ∈ l.take k, low32 c = true) (hn : ∀ c, l[k]? = some c → low32 c = false) : l.dropWhile low32 = l.drop k := by
  have e : l = l.take k ++ l.drop k := (List.take_append_drop k l).symm
  conv => lhs; rw [e]
  rw [List.dropWhile_append_of_pos h]
  cases hd : l.drop k with
  | nil => rfl
  | cons c r =>
    have : l[k]? = some c := by rw [← List.head?_drop, hd]; rfl
    rw [List.dropWhile_cons, if_neg (by rw [hn c this]; decide)]
theorem dw_rev (m : List UInt8) (k : Nat) (hk : k ≤ m.length) (h : ∀ c ∈ m.drop k, low32 c = true) (hn : ∀ j, k = j + 1 → ∀ c, m[j]? = some c → low32 c = false) : (m.reverse.dropWhile low32).reverse = m.take k := by
  have e : m.reverse.dropWhile low32 = m.reverse.drop (m.length - k) := by
    apply dw_eq
    · intro c hc
      apply h
      rw [List.take_reverse] at hc
      rw [show m.length - (m.length - k) = k by omega] at hc
      simpa using hc
    · intro c hc
      cases k with
      | zero => rw [List.getElem?_eq_none (by simp)] at hc; cases hc
      | succ j =>
        apply hn j rfl
        rw [List.getElem?_reverse (by omega)] at hc
        rw [show m.length - 1 - (m.length - (j + 1)) = j by omega] at hc
        exact hc
  rw [e, List.drop_reverse, List.reverse_reverse]
  rw [show m.length - (m.length - k) = k by omega]
theorem mid_eq (l : List UInt8) (f t : Nat) (hft : f ≤ t) (ht : t ≤ l.length) (h1 : ∀ c ∈ l.take f, low32 c = true) (h2 : ∀ c, l[f]? = some c → low32 c = false) (h3 : ∀ c ∈ l.drop t, low32 c = true) (h4 : ∀ j, t = j + 1 → f ≤ j → ∀ c, l[j]? = some c → low32 c = false) : midL l = (l.drop f).take (t - f) := by
  unfold midL
  rw [dw_eq l f h1 h2]
  apply dw_rev
  · rw [List.length_drop]; omega
  · intro c hc
    rw [List.drop_drop, show f + (t - f) = t by omega] at hc
    exact h3 c hc
  · intro j hj c hc
    rw [List.getElem?_drop] at hc
    exact h4 (f + j) (by omega) (by omega) c hc
theorem mid_len (l : List UInt8) : (midL l).length ≤ l.length := by
  unfold midL
  rw [List.length_reverse]
  have h1 := (List.dropWhile_sublist (l := (l.dropWhile low32).reverse) low32).length_le
  have h2 := (List.dropWhile_sublist (l := l) low32).length_le
  rw [List.length_reverse] at h1
  omega
theorem trim_len (l : List UInt8) : (trimL l).length ≤ l.length := by
  have h1 : (trimL l).length ≤ (midL l).length := List.length_filter_le _ _
  have := mid_len l
  omega
theorem ext_list (s : ByteArray) (f t : Nat) (hft : f ≤ t) (ht : t ≤ s.size) : (s.extract f t).data.toList = (s.data.toList.drop f).take (t - f) := by
  rw [ByteArray.data_extract, Array.toList_extract]
theorem below_then {B r : Nat} {w w1 w2 : World} (b : Below B w w1) (g : w1.grownBy w2 (some r)) (hB : B ≤ w1.heap.size) (hr : B ≤ r) : Below B w w2 := b.grown g hB (fun k hk => by simp at hk; omega)

theorem slice_text (s : ByteArray) (f t : Nat) (W : World) (hft : f ≤ t) (ht : t ≤ s.size) : (Instr.slice 9 (.string s) (some (.int .i64 (f : Int))) (some (.int .i64 (t : Int))) none).run Tryz.prog W = .ok (.string (s.extract f t)) W := by
  have := run_slice_string (P := Tryz.prog) (w := W) 9 s .i64 .i64 (f : Int) (t : Int) Tryz.underlying9 (by omega) (by omega) (by omega)
  simpa using this
theorem trim_low {w W1 : World} {o : Obj} (b : Below ((w.alloc o).drew).heap.size (w.alloc o).drew W1) : Below w.heap.size w W1 :=
  (((Below.refl _ w).alloc (Nat.le_refl _) o).drew).trans (b.mono (by simp))
theorem trim_sz {w W1 : World} {o : Obj} (b : Below ((w.alloc o).drew).heap.size (w.alloc o).drew W1) : w.heap.size ≤ W1.heap.size := by
  have := b.size
  simp at this
  omega
theorem delA (x : ByteArray) (c : UInt8) (m : Int) (W : World) (hx : x.size ≤ 1000) (hm : W.cell? ⟨1, 0, none⟩ = some (.int .i64 m)) :
    Calls Tryz.prog 62 #[.string x, .string ⟨#[c]⟩, .string ⟨#[]⟩] W fun e w' => e = .returned (.string (mk (x.data.toList.filter (fun y => y != c)))) ∧ Below W.heap.size W w' := by
  refine (Tryz.strings_ReplaceAll x ⟨#[c]⟩ ⟨#[]⟩ m W (by omega) hm (Nat.le_refl 1) ?_).mono ?_
  · have := Lib.countB_le ⟨#[c]⟩ (Nat.le_refl 1) x.size x (Nat.le_refl _)
    have e : (⟨#[]⟩ : ByteArray).size = 0 := rfl
    rw [e]; omega
  · rintro e w' ⟨rfl, b⟩
    refine ⟨?_, b⟩
    show Ending.returned (.string ⟨(Lib.replaceAll x.data.toList [c] []).toArray⟩) = _
    rw [rep_del]; rfl
set_option maxHeartbeats 4000000 in
set_option maxRecDepth 100000 in
theorem urlTrim (s : ByteArray) (w : World) (hs : s.size ≤ 1000) (hm : ∃ m, w.cell? ⟨1, 0, none⟩ = some (.int .i64 m)) :
    Calls Tryz.prog 31 #[.string s] w fun e w' => e = .returned (.string (mk (trimL s.data.toList))) ∧ Below w.heap.size w w' := by
  obtain ⟨m, hm⟩ := hm
  have HLN : Hid (s.data.toList.length = s.size) := by show _ = _; simp
  have HG0 : Hid (1 < w.heap.size) := cell_in hm
  have C3 : Hid (∀ (X : ByteArray), X.size ≤ 1000 → Calls Tryz.prog 62 #[.string X, .string ⟨#[9]⟩, .string ⟨#[]⟩] w fun e w1 => ∃ y, e = .returned (.string y) ∧ Hid (y.size ≤ 1000 ∧ y.data.toList = X.data.toList.filter (fun y => y != 9)) ∧ Below w.heap.size w w1) := fun X hX => by
    refine (delA X 9 m w hX hm).mono ?_
    rintro e w1 ⟨rfl, d1⟩
    refine ⟨_, rfl, ⟨?_, ?_⟩, d1⟩
    · rw [mk_size]; have := List.length_filter_le (fun y => y != 9) X.data.toList; have e : X.data.toList.length = X.size := by simp
      omega
    · simp [mk]
  have C4 : Hid (∀ (y : ByteArray) (l : List UInt8) W, y.size ≤ 1000 ∧ y.data.toList = l → Below w.heap.size w W → Calls Tryz.prog 62 #[.string y, .string ⟨#[10]⟩, .string ⟨#[]⟩] W fun e w1 => ∃ z, e = .returned (.string z) ∧ Hid (z.size ≤ 1000 ∧ z.data.toList = l.filter (fun y => y != 10)) ∧ Below w.heap.size w w1) := fun y l W ⟨hy, hl⟩ d => by
    refine (delA y 10 m W hy ((d.cell HG0.out).trans hm)).mono ?_
    rintro e w1 ⟨rfl, d1⟩
    refine ⟨_, rfl, ⟨?_, ?_⟩, d.trans (d1.mono d.size)⟩
    · rw [mk_size]; have := List.length_filter_le (fun y => y != 10) y.data.toList; have e : y.data.toList.length = y.size := by simp
      omega
    · rw [← hl]; simp [mk]
  have C5 : Hid (∀ (X z : ByteArray) W, z.size ≤ 1000 ∧ z.data.toList = (X.data.toList.filter (fun y => y != 9)).filter (fun y => y != 10) → Below w.heap.size w W → Calls Tryz.prog 62 #[.string z, .string ⟨#[13]⟩, .string ⟨#[]⟩] W fun e w1 => e = .returned (.string (mk (dropT X.data.toList))) ∧ Below w.heap.size w w1) := fun X z W ⟨hz, hl⟩ d => by
    refine (delA z 13 m W hz ((d.cell HG0.out).trans hm)).mono ?_
    rintro e w1 ⟨rfl, d1⟩
    refine ⟨?_, d.trans (d1.mono d.size)⟩
    rw [hl, drop_three]
  clear hm HG0
  go_enter Tryz.func31, Tryz.ntmps31
  go_wp2
  go_loop [3] (fun i => ∃ k : Nat, k ≤ s.size ∧ i = .int .i64 (k : Int) ∧ Hid (∀ c ∈ s.data.toList.take k, low32 c = true)) (fun i => s.size - (intOf i).toNat)
  case atStart => exact ⟨0, Nat.zero_le _, rfl, by intro c hc; simp at hc⟩
  case round =>
    obtain ⟨f, hf, rfl, HF⟩ := hrel
    by_cases hgo : ∃ hp : f < s.size, low32 s[f] = true
    · obtain ⟨hp, hl⟩ := hgo
      have hpi : (f : Int) < (s.size : Int) := by omega
      have hb : (s[f].toNat : Int) ≤ 32 := by unfold low32 at hl; have := of_decide_eq_true hl; omega
      have HF2 : Hid (∀ c ∈ s.data.toList.take (f + 1), low32 c = true) := by
        intro c hc
        rw [List.take_succ_eq_append_getElem (by have := HLN.out; omega)] at hc
        rcases List.mem_append.1 hc with hc | hc
        · exact HF.out c hc
        · simp at hc; rw [hc]; exact hl
      clear hl
      go_wp2
      go_round
      case rel => exact ⟨f + 1, by omega, by go_num, HF2⟩
      case measure => simp [intOf]; omega
    · have HS2 : Hid (∀ c, s.data.toList[f]? = some c → low32 c = false) := by
        intro c hc
        by_cases hp : f < s.size
        · rw [List.getElem?_eq_getElem (by have := HLN.out; omega)] at hc
          simp at hc
          cases hl : low32 c with
          | false => rfl
          | true => exact absurd ⟨hp, by rw [← hl, ← hc]; rfl⟩ hgo
        · rw [List.getElem?_eq_none (by have := HLN.out; omega)] at hc; cases hc
      have hstop : ((f : Int) < (s.size : Int)) ∨ ¬ ((f : Int) < (s.size : Int)) := by omega
      have HG : Hid (∀ hp : f < s.size, (32 : Int) < (s[f].toNat : Int)) := by
        intro hp
        have := HS2.out s[f] (by rw [List.getElem?_eq_getElem (by have := HLN.out; omega)]; rfl)
        unfold low32 at this
        have := of_decide_eq_false this
        show _ < _
        omega
      clear hgo hstop
      by_cases hp : f < s.size
      · have hpi : (f : Int) < (s.size : Int) := by omega
        have hbf := HG.out hp
        clear HG
        go_wp2
        go_loop [4] (fun i => ∃ t : Nat, f ≤ t ∧ t ≤ s.size ∧ i = .int .i64 (t : Int) ∧ Hid (∀ c ∈ s.data.toList.drop t, low32 c = true)) (fun i => (intOf i).toNat)
        case atStart => exact ⟨s.size, hf, Nat.le_refl _, rfl, by intro c hc; rw [List.drop_of_length_le (by have := HLN.out; omega)] at hc; cases hc⟩
        case round =>
          obtain ⟨t, hft, ht, rfl, HD⟩ := hrel
          by_cases hgo : ∃ j, ∃ hp : j < s.size, t = j + 1 ∧ f ≤ j ∧ low32 s[j] = true
          · obtain ⟨j, hp, rfl, hfj, hl⟩ := hgo
            have hpi : (j : Int) < (s.size : Int) := by omega
            have hfi : (f : Int) < ((j + 1 : Nat) : Int) := by omega
            have hb : (s[j].toNat : Int) ≤ 32 := by unfold low32 at hl; have := of_decide_eq_true hl; omega
            have HD2 : Hid (∀ c ∈ s.data.toList.drop j, low32 c = true) := by
              intro c hc
              rw [List.drop_eq_getElem_cons (by have := HLN.out; omega)] at hc
              rcases List.mem_cons.1 hc with hc | hc
              · rw [hc]; exact hl
              · exact HD.out c hc
            have HZ : Hid (((j + 1 : Nat) : Int).toNat = j + 1) := by show _ = _; omega
            have HE : ((j + 1 : Nat) : Int) - 1 = (j : Int) := by omega
            clear hl
            generalize ((j + 1 : Nat) : Int) = z at *
            go_wp2
            go_round
            case rel => exact ⟨j, hfj, by omega, by go_num, HD2⟩
            case measure => have := HZ.out; simp [intOf]; omega
          · obtain ⟨X, hX⟩ : ∃ X, X = s.extract f t := ⟨_, rfl⟩
            have HM : Hid (trimL s.data.toList = dropT X.data.toList) := by
              show _ = _
              unfold trimL
              rw [hX, ext_list s f t hft ht, mid_eq s.data.toList f t hft (by have := HLN.out; omega) HF.out HS2.out HD.out]
              intro j hj hfj c hc
              have hjs : j < s.size := by omega
              rw [List.getElem?_eq_getElem (by have := HLN.out; omega)] at hc
              simp at hc
              cases hl : low32 c with
              | false => rfl
              | true => exact absurd ⟨j, hjs, hj, hfj, by rw [← hl, ← hc]; rfl⟩ hgo
            have HX : Hid (∀ j (hp : j < s.size), t = j + 1 → f ≤ j → (32 : Int) < (s[j].toNat : Int)) := by
              intro j hp hj hfj
              cases hl : low32 s[j] with
              | true => exact absurd ⟨j, hp, hj, hfj, hl⟩ hgo
              | false => unfold low32 at hl; have := of_decide_eq_false hl; show _ < _; omega
            have hxs : X.size ≤ 1000 := by rw [hX, ByteArray.size_extract]; omega
            have HSL : Hid (∀ W : World, (Instr.slice 9 (.string s) (some (.int .i64 (f : Int))) (some (.int .i64 (t : Int))) none).run Tryz.prog W = .ok (.string X) W) := fun W => by rw [hX]; exact slice_text s f t W hft ht
            clear hX
            clear hgo
            by_cases hlt : f < t
            · obtain ⟨j, rfl⟩ : ∃ j, t = j + 1 := ⟨t - 1, by omega⟩
              have hp : j < s.size := by omega
              have hb := HX.out j hp rfl (by omega)
              have hpi : (j : Int) < (s.size : Int) := by omega
              have hfi : (f : Int) < ((j + 1 : Nat) : Int) := by omega
              have HE : ((j + 1 : Nat) : Int) - 1 = (j : Int) := by omega
              have hz0 : ((j + 1 : Nat) : Int) ≤ (s.size : Int) := by omega
              have HZ : ((j + 1 : Nat) : Int).toNat = j + 1 := by omega
              clear HX
              have hsl := HSL.out
              generalize ((j + 1 : Nat) : Int) = z at *
              go_wp2_with fail
              refine (C3.out X hxs).mono ?_
              rintro e W1 ⟨y, rfl, hy, d1⟩
              go_wp2_with fail
              refine (C4.out y _ _ hy.out d1).mono ?_
              rintro e W2 ⟨z, rfl, hz, d2⟩
              go_wp2_with fail
              refine (C5.out X z _ hz.out d2).mono ?_
              rintro e W3 ⟨rfl, d3⟩
              go_wp2
              go_ret
              rw [HM.out]
              exact ⟨rfl, d3⟩
            · have hft' : f = t := by omega
              subst hft'
              have hz0 : (f : Int) ≤ (s.size : Int) := by omega
              have hsl := HSL.out
              clear HX
              go_wp2_with fail
              refine (C3.out X hxs).mono ?_
              rintro e W1 ⟨y, rfl, hy, d1⟩
              go_wp2_with fail
              refine (C4.out y _ _ hy.out d1).mono ?_
              rintro e W2 ⟨z, rfl, hz, d2⟩
              go_wp2_with fail
              refine (C5.out X z _ hz.out d2).mono ?_
              rintro e W3 ⟨rfl, d3⟩
              go_wp2
              go_ret
              rw [HM.out]
              exact ⟨rfl, d3⟩
      · have hpi : ¬ ((f : Int) < (s.size : Int)) := by omega
        clear HG
        go_wp2
        go_loop [4] (fun i => ∃ t : Nat, f ≤ t ∧ t ≤ s.size ∧ i = .int .i64 (t : Int) ∧ Hid (∀ c ∈ s.data.toList.drop t, low32 c = true)) (fun i => (intOf i).toNat)
        case atStart => exact ⟨s.size, hf, Nat.le_refl _, rfl, by intro c hc; rw [List.drop_of_length_le (by have := HLN.out; omega)] at hc; cases hc⟩
        case round =>
          obtain ⟨t, hft, ht, rfl, HD⟩ := hrel
          by_cases hgo : ∃ j, ∃ hp : j < s.size, t = j + 1 ∧ f ≤ j ∧ low32 s[j] = true
          · obtain ⟨j, hp, rfl, hfj, hl⟩ := hgo
            have hpi : (j : Int) < (s.size : Int) := by omega
            have hfi : (f : Int) < ((j + 1 : Nat) : Int) := by omega
            have hb : (s[j].toNat : Int) ≤ 32 := by unfold low32 at hl; have := of_decide_eq_true hl; omega
            have HD2 : Hid (∀ c ∈ s.data.toList.drop j, low32 c = true) := by
              intro c hc
              rw [List.drop_eq_getElem_cons (by have := HLN.out; omega)] at hc
              rcases List.mem_cons.1 hc with hc | hc
              · rw [hc]; exact hl
              · exact HD.out c hc
            have HZ : Hid (((j + 1 : Nat) : Int).toNat = j + 1) := by show _ = _; omega
            have HE : ((j + 1 : Nat) : Int) - 1 = (j : Int) := by omega
            clear hl
            generalize ((j + 1 : Nat) : Int) = z at *
            go_wp2
            go_round
            case rel => exact ⟨j, hfj, by omega, by go_num, HD2⟩
            case measure => have := HZ.out; simp [intOf]; omega
          · obtain ⟨X, hX⟩ : ∃ X, X = s.extract f t := ⟨_, rfl⟩
            have HM : Hid (trimL s.data.toList = dropT X.data.toList) := by
              show _ = _
              unfold trimL
              rw [hX, ext_list s f t hft ht, mid_eq s.data.toList f t hft (by have := HLN.out; omega) HF.out HS2.out HD.out]
              intro j hj hfj c hc
              have hjs : j < s.size := by omega
              rw [List.getElem?_eq_getElem (by have := HLN.out; omega)] at hc
              simp at hc
              cases hl : low32 c with
              | false => rfl
              | true => exact absurd ⟨j, hjs, hj, hfj, by rw [← hl, ← hc]; rfl⟩ hgo
            have HX : Hid (∀ j (hp : j < s.size), t = j + 1 → f ≤ j → (32 : Int) < (s[j].toNat : Int)) := by
              intro j hp hj hfj
              cases hl : low32 s[j] with
              | true => exact absurd ⟨j, hp, hj, hfj, hl⟩ hgo
              | false => unfold low32 at hl; have := of_decide_eq_false hl; show _ < _; omega
            have hxs : X.size ≤ 1000 := by rw [hX, ByteArray.size_extract]; omega
            have HSL : Hid (∀ W : World, (Instr.slice 9 (.string s) (some (.int .i64 (f : Int))) (some (.int .i64 (t : Int))) none).run Tryz.prog W = .ok (.string X) W) := fun W => by rw [hX]; exact slice_text s f t W hft ht
            clear hX
            clear hgo
            by_cases hlt : f < t
            · omega
            · have hft' : f = t := by omega
              subst hft'
              have hz0 : (f : Int) ≤ (s.size : Int) := by omega
              have hsl := HSL.out
              clear HX
              go_wp2_with fail
              refine (C3.out X hxs).mono ?_
              rintro e W1 ⟨y, rfl, hy, d1⟩
              go_wp2_with fail
              refine (C4.out y _ _ hy.out d1).mono ?_
              rintro e W2 ⟨z, rfl, hz, d2⟩
              go_wp2_with fail
              refine (C5.out X z _ hz.out d2).mono ?_
              rintro e W3 ⟨rfl, d3⟩
              go_wp2
              go_ret
              rw [HM.out]
              exact ⟨rfl, d3⟩
end Go.Proofs.YticbekooadnnlaaGreatDoor
end

section
set_option linter.unusedVariables false
set_option linter.unusedSimpArgs false
namespace Go.Proofs.YticbekooadnnlaaGreatDoor
open Go.RowKit Go.Shelf

structure Fit (p : P) : Prop where
  make ::
  sc : p.sc.size ≤ 1000
  us : p.us.size ≤ 600
  pw : p.pw.size ≤ 600
  hn : p.hn.size ≤ 1000
  op : p.op.size ≤ 600
  qu : p.qu.size ≤ 600
  fr : p.fr.size ≤ 600
  ps : p.ps.length + tot p.ps ≤ 700
  p0 : -1 ≤ p.po
  p1 : p.po ≤ 65535
theorem Fit.tot {p : P} (h : Fit p) : p.tot ≤ 10000 := by
  obtain ⟨a, b, c, d, e, f, g, i, _, _⟩ := h
  unfold P.tot; omega
theorem wrT_size (set : Int) (l : List UInt8) : (wrT set l).size ≤ 600 := by
  unfold wrT encode
  show (List.toArray _).size ≤ 600
  rw [List.size_toArray]
  split
  · rename_i h
    rw [mk_size] at h
    have := enc_length (isIn set) (mk l).data.toList
    rw [mk_data] at this ⊢
    omega
  · simp
theorem fit_frag (p : P) (l : List UInt8) (h : Fit p) : Fit (fragP p l) := by
  unfold fragP
  split
  · exact { h with fr := wrT_size _ _ }
  · exact h
theorem fit_que (p : P) (l : List UInt8) (h : Fit p) : Fit (queP p l) := by
  unfold queP
  split
  · exact fit_frag _ _ { h with qu := wrT_size _ _ }
  · exact fit_frag _ _ h
theorem fit_opq (p : P) (l : List UInt8) (h : Fit p) : Fit (opqP p l) := fit_que _ _ { h with op := wrT_size _ _ }
theorem path_tot (l : List UInt8) : (pathL l).length + tot (pathL l) ≤ 700 := by
  by_cases h : l.length ≤ 200
  · have := putL_path l
    rw [putL_len] at this
    omega
  · rw [pathL_great l h]; simp [tot]
theorem fit_pat (p : P) (l : List UInt8) (h : Fit p) : Fit (patP p l) := fit_que _ _ { h with ps := path_tot _ }
theorem portN_le (l : List UInt8) : ∀ (m n : Int), 0 ≤ m → m ≤ 65535 → (∀ c ∈ l, 48 ≤ c.toNat) → portN m l = some n → 0 ≤ n ∧ n ≤ 65535 := by
  induction l with
  | nil => intro m n h0 h1 _ h; simp [portN] at h; omega
  | cons c r ih =>
    intro m n h0 h1 hf h
    have hc := hf c (by simp)
    unfold portN at h
    by_cases hb : 65535 < m * 10 + ((c.toNat : Int) - 48)
    · rw [if_pos hb] at h; cases h
    · rw [if_neg hb] at h
      exact ih _ n (by omega) (by omega) (fun d hd => hf d (by simp [hd])) h
theorem figs_low (l : List UInt8) (h : figsL l = true) : ∀ c ∈ l, 48 ≤ c.toNat := by
  intro c hc
  unfold figsL at h
  rw [List.all_eq_true] at h
  have := h c hc
  unfold figB at this
  exact (of_decide_eq_true this).1
theorem portV_le (l : List UInt8) (own : Int) : -1 ≤ portV l own ∧ portV l own ≤ 65535 := by
  by_cases hf : figsL l = true
  · by_cases he : l = []
    · subst he; rw [(portL_empty own).1]; decide
    · cases hp : portN 0 l with
      | none => rw [(portL_none l own hf he hp).1]; decide
      | some n =>
        have := portN_le l 0 n (by decide) (by decide) (figs_low l hf) hp
        by_cases ho : n = own
        · subst ho; rw [(portL_own l n hf he hp).1]; decide
        · rw [(portL_some l own n hf he hp ho).1]; omega
  · rw [(portL_nofig l own (by simpa using hf)).1]; decide
theorem gn_size (l : List UInt8) : (gn l).size ≤ 1000 := by
  unfold gn
  split
  · unfold hostName
    split
    · decide
    · split
      · rw [mk_size]; unfold readL; rw [low_length]
        have := dec_le l
        omega
      · decide
  · decide
theorem fit_who (p : P) (l : List UInt8) (h : Fit p) : Fit (whoP p l) := by
  unfold whoP
  cases atSplit l with
  | none => exact h
  | some q => exact { h with us := wrT_size _ _, pw := wrT_size _ _ }
theorem fit_aut (p : P) (l : List UInt8) (h : Fit p) : Fit (autQ p l) := { fit_who p l h with hn := gn_size _, p0 := (portV_le _ _).1, p1 := (portV_le _ _).2 }
theorem fit_hos (p q : P) (l : List UInt8) (h : Fit p) (e : hosP p l = some q) : Fit q := by
  unfold hosP autP at e
  split at e
  · simp at e; rw [← e]; exact fit_pat _ _ (fit_aut _ _ h)
  · simp at e
theorem fit_sch (p q : P) (l : List UInt8) (hl : l.length ≤ 1000) (h : Fit p) (e : schP p l = some q) : Fit q := by
  unfold schP at e
  have h1 : (mk (low (upL [58] l))).size ≤ 1000 := by
    rw [mk_size, low_length]
    have := upL_le [58] l
    omega
  have h2 : Fit { p with sc := mk (low (upL [58] l)), po := -1 } := { h with sc := h1, p0 := (by show (-1 : Int) ≤ -1; decide), p1 := (by show (-1 : Int) ≤ 65535; decide) }
  split at e
  · split at e
    · exact fit_hos _ _ _ h2 e
    · simp at e; rw [← e]; exact fit_opq _ _ h2
  · cases e
/-- What UrlGet answers. -/
def getO (l : List UInt8) : Option P := if l.length ≤ 200 then (schP P.zero (trimL l)).bind fun q => if q.ps.length ≤ 12 ∧ (writL q).length ≤ 600 then some q else none else none
theorem fit_zero : Fit P.zero := ⟨by decide, by decide, by decide, by decide, by decide, by decide, by decide, by decide, by decide, by decide⟩
end Go.Proofs.YticbekooadnnlaaGreatDoor
end

section
set_option linter.unusedVariables false
set_option linter.unusedSimpArgs false
namespace Go.Proofs.YticbekooadnnlaaGreatDoor
open Go.RowKit Go.Shelf

set_option maxHeartbeats 1000000 in
set_option maxRecDepth 100000 in
theorem reset (g : Nat) (s : ByteArray) (a0 a1 a2 : Value) (R : List Value) (T : TypeId) (w : World) (h : Blk g (#[a0, a1, a2] ++ R.toArray) T w) :
    Calls Tryz.prog 30 #[.pointer (some ⟨g, 0, none⟩), .string s] w fun e w' => e = .returned (.tuple #[]) ∧ Rdr g s 0 R T w' ∧ w.grownBy w' (some g) := by
  have c0 : w.cell? ⟨g, 0, none⟩ = some a0 := by rw [h.cell 0]; simp
  have c1 : w.cell? ⟨g, 1, none⟩ = some a1 := by rw [h.cell 1]; simp
  have c2 : w.cell? ⟨g, 2, none⟩ = some a2 := by rw [h.cell 2]; simp
  have f0 := h.free 0
  have f1 := h.free 1
  have f2 := h.free 2
  have HR : Hid (Rdr g s 0 R T (((w.setCell ⟨g, 0, none⟩ (.string s)).setCell ⟨g, 1, none⟩ (.int .i64 0)).setCell ⟨g, 2, none⟩ (.int .i64 (-1)))) := by
    have := Blk.set (Blk.set (Blk.set h 0 (.string s)) 1 (.int .i64 0)) 2 (.int .i64 (-1))
    show Rdr _ _ _ _ _ _
    unfold Rdr
    simpa using this
  have HG : Hid (w.grownBy (((w.setCell ⟨g, 0, none⟩ (.string s)).setCell ⟨g, 1, none⟩ (.int .i64 0)).setCell ⟨g, 2, none⟩ (.int .i64 (-1))) (some g)) := grown_then (grown_then (grown_set w g 0 _) (grown_set _ g 1 _)) (grown_set _ g 2 _)
  clear h
  go_enter Tryz.func30, Tryz.ntmps30
  go_wp2
  go_end0
  exact ⟨rfl, HR.out, HG.out⟩
/-- Thirteen cells, put one by one. -/
theorem Blk.put13 {g : Nat} {x0 x1 x2 x3 x4 x5 x6 x7 x8 x9 x10 x11 x12 : Value} {t : TypeId} {w : World} (h : Blk g #[x0, x1, x2, x3, x4, x5, x6, x7, x8, x9, x10, x11, x12] t w) (v0 v1 v2 v3 v4 v5 v6 v7 v8 v9 v10 v11 v12 : Value) :
    Blk g #[v0, v1, v2, v3, v4, v5, v6, v7, v8, v9, v10, v11, v12] t (((((((((((((w.setCell ⟨g, 0, none⟩ v0).setCell ⟨g, 1, none⟩ v1).setCell ⟨g, 2, none⟩ v2).setCell ⟨g, 3, none⟩ v3).setCell ⟨g, 4, none⟩ v4).setCell ⟨g, 5, none⟩ v5).setCell ⟨g, 6, none⟩ v6).setCell ⟨g, 7, none⟩ v7).setCell ⟨g, 8, none⟩ v8).setCell ⟨g, 9, none⟩ v9).setCell ⟨g, 10, none⟩ v10).setCell ⟨g, 11, none⟩ v11).setCell ⟨g, 12, none⟩ v12) := by
  have := Blk.set (Blk.set (Blk.set (Blk.set (Blk.set (Blk.set (Blk.set (Blk.set (Blk.set (Blk.set (Blk.set (Blk.set (Blk.set h 0 v0) 1 v1) 2 v2) 3 v3) 4 v4) 5 v5) 6 v6) 7 v7) 8 v8) 9 v9) 10 v10) 11 v11) 12 v12
  simpa using this
theorem below_put13 {B g : Nat} {w W : World} (b : Below B w W) (hB : B ≤ g) (v0 v1 v2 v3 v4 v5 v6 v7 v8 v9 v10 v11 v12 : Value) :
    Below B w (((((((((((((W.setCell ⟨g, 0, none⟩ v0).setCell ⟨g, 1, none⟩ v1).setCell ⟨g, 2, none⟩ v2).setCell ⟨g, 3, none⟩ v3).setCell ⟨g, 4, none⟩ v4).setCell ⟨g, 5, none⟩ v5).setCell ⟨g, 6, none⟩ v6).setCell ⟨g, 7, none⟩ v7).setCell ⟨g, 8, none⟩ v8).setCell ⟨g, 9, none⟩ v9).setCell ⟨g, 10, none⟩ v10).setCell ⟨g, 11, none⟩ v11).setCell ⟨g, 12, none⟩ v12) :=
  ((((((((((((b.setCell (p := ⟨g, 0, none⟩) hB _).setCell (p := ⟨g, 1, none⟩) hB _).setCell (p := ⟨g, 2, none⟩) hB _).setCell (p := ⟨g, 3, none⟩) hB _).setCell (p := ⟨g, 4, none⟩) hB _).setCell (p := ⟨g, 5, none⟩) hB _).setCell (p := ⟨g, 6, none⟩) hB _).setCell (p := ⟨g, 7, none⟩) hB _).setCell (p := ⟨g, 8, none⟩) hB _).setCell (p := ⟨g, 9, none⟩) hB _).setCell (p := ⟨g, 10, none⟩) hB _).setCell (p := ⟨g, 11, none⟩) hB _).setCell (p := ⟨g, 12, none⟩) hB _
theorem grown13 (g : Nat) (W : World) (v0 v1 v2 v3 v4 v5 v6 v7 v8 v9 v10 v11 v12 : Value) :
    W.grownBy (((((((((((((W.setCell ⟨g, 0, none⟩ v0).setCell ⟨g, 1, none⟩ v1).setCell ⟨g, 2, none⟩ v2).setCell ⟨g, 3, none⟩ v3).setCell ⟨g, 4, none⟩ v4).setCell ⟨g, 5, none⟩ v5).setCell ⟨g, 6, none⟩ v6).setCell ⟨g, 7, none⟩ v7).setCell ⟨g, 8, none⟩ v8).setCell ⟨g, 9, none⟩ v9).setCell ⟨g, 10, none⟩ v10).setCell ⟨g, 11, none⟩ v11).setCell ⟨g, 12, none⟩ v12) (some g) :=
  grown_then (grown_then (grown_then (grown_then (grown_then (grown_then (grown_then (grown_then (grown_then (grown_then (grown_then (grown_then (grown_set W g 0 _) (grown_set _ g 1 _)) (grown_set _ g 2 _)) (grown_set _ g 3 _)) (grown_set _ g 4 _)) (grown_set _ g 5 _)) (grown_set _ g 6 _)) (grown_set _ g 7 _)) (grown_set _ g 8 _)) (grown_set _ g 9 _)) (grown_set _ g 10 _)) (grown_set _ g 11 _)) (grown_set _ g 12 _)
theorem UR.allP {g : Nat} {t : ByteArray} {i : Nat} {q : P} {v : Value} {x : Bool} {w : World} (h : UR g t i (q.u v) x w) :
    w.cell? ⟨g, 3, none⟩ = some (.string q.sc) ∧ w.cell? ⟨g, 4, none⟩ = some (.string q.us) ∧ w.cell? ⟨g, 5, none⟩ = some (.string q.pw) ∧ w.cell? ⟨g, 6, none⟩ = some (.int .i64 q.hk) ∧ w.cell? ⟨g, 7, none⟩ = some (.string q.hn) ∧ w.cell? ⟨g, 8, none⟩ = some (.int .i64 q.ha) ∧ w.cell? ⟨g, 9, none⟩ = some (.int .i64 q.po) ∧ w.cell? ⟨g, 10, none⟩ = some v ∧ w.cell? ⟨g, 11, none⟩ = some (.string q.op) ∧ w.cell? ⟨g, 12, none⟩ = some (.bool q.hq) ∧ w.cell? ⟨g, 13, none⟩ = some (.string q.qu) ∧ w.cell? ⟨g, 14, none⟩ = some (.bool q.hf) ∧ w.cell? ⟨g, 15, none⟩ = some (.string q.fr) ∧ w.cell? ⟨g, 16, none⟩ = some (.bool x) := h.all
/-- What a call of UrlGet leans on. -/
structure Lean1 (w : World) : Prop where
  make ::
  base : Lean0 w
  eof : Eof w
theorem Eof.lt {w : World} (h : Eof w) : 0 < w.heap.size := by
  obtain ⟨te, v, h⟩ := h
  exact cell_in h
theorem Eof.below {w w' : World} {B : Nat} (h : Eof w) (b : Below B w w') (hB : w.heap.size ≤ B) : Eof w' := by
  have hl := h.lt
  obtain ⟨te, v, h⟩ := h
  exact ⟨te, v, (b.cell (p := ⟨0, 0, none⟩) (Nat.lt_of_lt_of_le hl hB)).trans h⟩
theorem Lean1.below {w w' : World} (h : Lean1 w) (b : Below w.heap.size w w') : Lean1 w' := ⟨h.base.below b, h.eof.below b (Nat.le_refl _)⟩
theorem tab_grown {w w' : World} {g : Nat} (h : Lib.TabIs Tryz.prog w "internal/strconv.uint64pow10" .u64 Lib.pow10Tab) (hg : w.grownBy w' (some g)) (hl : 4 < w.heap.size) (hne : g ≠ 4) : Lib.TabIs Tryz.prog w' "internal/strconv.uint64pow10" .u64 Lib.pow10Tab := by
  have hgn : Tryz.prog.globalNamed "internal/strconv.uint64pow10" = some 4 := by kernel_rfl
  unfold Lib.TabIs World.var? at h ⊢
  rw [hgn] at h ⊢
  simp only [Option.bind_some] at h ⊢
  rw [hg.block _ hl (by simp; omega)]; exact h

/-- The answer's address, and whether there is one. -/
def getP (l : List UInt8) : P := (getO l).getD P.zero
def getB (l : List UInt8) : Bool := (getO l).isSome

set_option maxHeartbeats 4000000 in
set_option maxRecDepth 100000 in
theorem implUrlGet (s : ByteArray) (w : World) (hL : Lean1 w) (hs : s.size ≤ 1048576) :
    Calls Tryz.prog 11 #[.string s] w fun e w' => ∃ v, e = .returned (.tuple #[.agg ((getP s.data.toList).cells v), .bool (getB s.data.toList)]) ∧ OwnS w.heap.size v (getP s.data.toList).ps w' ∧ Below w.heap.size w w' := by
  have hln : s.data.toList.length = s.size := by simp
  by_cases hb : s.size ≤ 200
  · have hbi : (s.size : Int) ≤ 200 := by omega
    obtain ⟨t, ht⟩ : ∃ t, t = mk (trimL s.data.toList) := ⟨_, rfl⟩
    have htl : t.size ≤ 200 := by rw [ht, mk_size]; have := trim_len s.data.toList; omega
    have htd : t.data.toList = trimL s.data.toList := by rw [ht]; rfl
    have HTD : Hid (t.data.toList = trimL s.data.toList) := htd
    have CT : Hid (∀ A B : Obj, Calls Tryz.prog 31 #[.string s] ((w.alloc A).alloc B).drew fun e w' => e = .returned (.string t) ∧ Below ((w.alloc A).alloc B).drew.heap.size ((w.alloc A).alloc B).drew w') := fun A B => by rw [ht]; exact urlTrim s _ (by omega) (hL.below ((((Below.refl _ w).alloc (Nat.le_refl _) A).alloc (by simp) B).drew)).base.mx
    have hg0 : w.heap.size + 1 ≠ 0 := by have := hL.eof.lt; omega
    have hg1 : w.heap.size + 1 ≠ 1 := by have := hL.base.mx.lt; omega
    have hg2 : w.heap.size + 1 ≠ 4 := by have := hL.base.lt; omega
    have CR : Hid (∀ W, Below (((w.alloc (.cells #[(.string ⟨#[]⟩), (.string ⟨#[]⟩), (.string ⟨#[]⟩), (.int .i64 0), (.string ⟨#[]⟩), (.int .i64 0), (.int .i64 0), (.slice none 0 0), (.string ⟨#[]⟩), (.bool false), (.string ⟨#[]⟩), (.bool false), (.string ⟨#[]⟩)] 27)).alloc (.cells #[.string ⟨#[]⟩, .int .i64 0, .int .i64 0, (.string ⟨#[]⟩), (.string ⟨#[]⟩), (.string ⟨#[]⟩), (.int .i64 0), (.string ⟨#[]⟩), (.int .i64 0), (.int .i64 0), (.slice none 0 0), (.string ⟨#[]⟩), (.bool false), (.string ⟨#[]⟩), (.bool false), (.string ⟨#[]⟩), .bool false] 48)).drew).heap.size ((w.alloc (.cells #[(.string ⟨#[]⟩), (.string ⟨#[]⟩), (.string ⟨#[]⟩), (.int .i64 0), (.string ⟨#[]⟩), (.int .i64 0), (.int .i64 0), (.slice none 0 0), (.string ⟨#[]⟩), (.bool false), (.string ⟨#[]⟩), (.bool false), (.string ⟨#[]⟩)] 27)).alloc (.cells #[.string ⟨#[]⟩, .int .i64 0, .int .i64 0, (.string ⟨#[]⟩), (.string ⟨#[]⟩), (.string ⟨#[]⟩), (.int .i64 0), (.string ⟨#[]⟩), (.int .i64 0), (.int .i64 0), (.slice none 0 0), (.string ⟨#[]⟩), (.bool false), (.string ⟨#[]⟩), (.bool false), (.string ⟨#[]⟩), .bool false] 48)).drew W → Calls Tryz.prog 30 #[.pointer (some ⟨w.heap.size + 1, 0, none⟩), .string t] W fun e w' => e = .returned (.tuple #[]) ∧ UR (w.heap.size + 1) t 0 (P.zero.u (.slice none 0 0)) false w' ∧ Blk w.heap.size #[(.string ⟨#[]⟩), (.string ⟨#[]⟩), (.string ⟨#[]⟩), (.int .i64 0), (.string ⟨#[]⟩), (.int .i64 0), (.int .i64 0), (.slice none 0 0), (.string ⟨#[]⟩), (.bool false), (.string ⟨#[]⟩), (.bool false), (.string ⟨#[]⟩)] 27 w' ∧ Below w.heap.size w w' ∧ Lean1 w') := by
      intro W b
      have hsz : (((w.alloc (.cells #[(.string ⟨#[]⟩), (.string ⟨#[]⟩), (.string ⟨#[]⟩), (.int .i64 0), (.string ⟨#[]⟩), (.int .i64 0), (.int .i64 0), (.slice none 0 0), (.string ⟨#[]⟩), (.bool false), (.string ⟨#[]⟩), (.bool false), (.string ⟨#[]⟩)] 27)).alloc (.cells #[.string ⟨#[]⟩, .int .i64 0, .int .i64 0, (.string ⟨#[]⟩), (.string ⟨#[]⟩), (.string ⟨#[]⟩), (.int .i64 0), (.string ⟨#[]⟩), (.int .i64 0), (.int .i64 0), (.slice none 0 0), (.string ⟨#[]⟩), (.bool false), (.string ⟨#[]⟩), (.bool false), (.string ⟨#[]⟩), .bool false] 48)).drew).heap.size = w.heap.size + 2 := by simp
      rw [hsz] at b
      have k1 : Blk w.heap.size #[(.string ⟨#[]⟩), (.string ⟨#[]⟩), (.string ⟨#[]⟩), (.int .i64 0), (.string ⟨#[]⟩), (.int .i64 0), (.int .i64 0), (.slice none 0 0), (.string ⟨#[]⟩), (.bool false), (.string ⟨#[]⟩), (.bool false), (.string ⟨#[]⟩)] 27 ((w.alloc (.cells #[(.string ⟨#[]⟩), (.string ⟨#[]⟩), (.string ⟨#[]⟩), (.int .i64 0), (.string ⟨#[]⟩), (.int .i64 0), (.int .i64 0), (.slice none 0 0), (.string ⟨#[]⟩), (.bool false), (.string ⟨#[]⟩), (.bool false), (.string ⟨#[]⟩)] 27)).alloc (.cells #[.string ⟨#[]⟩, .int .i64 0, .int .i64 0, (.string ⟨#[]⟩), (.string ⟨#[]⟩), (.string ⟨#[]⟩), (.int .i64 0), (.string ⟨#[]⟩), (.int .i64 0), (.int .i64 0), (.slice none 0 0), (.string ⟨#[]⟩), (.bool false), (.string ⟨#[]⟩), (.bool false), (.string ⟨#[]⟩), .bool false] 48)).drew := (Blk.alloc (Blk.new w _ _) _)
      have k2 : Blk (w.heap.size + 1) #[.string ⟨#[]⟩, .int .i64 0, .int .i64 0, (.string ⟨#[]⟩), (.string ⟨#[]⟩), (.string ⟨#[]⟩), (.int .i64 0), (.string ⟨#[]⟩), (.int .i64 0), (.int .i64 0), (.slice none 0 0), (.string ⟨#[]⟩), (.bool false), (.string ⟨#[]⟩), (.bool false), (.string ⟨#[]⟩), .bool false] 48 ((w.alloc (.cells #[(.string ⟨#[]⟩), (.string ⟨#[]⟩), (.string ⟨#[]⟩), (.int .i64 0), (.string ⟨#[]⟩), (.int .i64 0), (.int .i64 0), (.slice none 0 0), (.string ⟨#[]⟩), (.bool false), (.string ⟨#[]⟩), (.bool false), (.string ⟨#[]⟩)] 27)).alloc (.cells #[.string ⟨#[]⟩, .int .i64 0, .int .i64 0, (.string ⟨#[]⟩), (.string ⟨#[]⟩), (.string ⟨#[]⟩), (.int .i64 0), (.string ⟨#[]⟩), (.int .i64 0), (.int .i64 0), (.slice none 0 0), (.string ⟨#[]⟩), (.bool false), (.string ⟨#[]⟩), (.bool false), (.string ⟨#[]⟩), .bool false] 48)).drew := by
        have := Blk.new (w.alloc (.cells #[(.string ⟨#[]⟩), (.string ⟨#[]⟩), (.string ⟨#[]⟩), (.int .i64 0), (.string ⟨#[]⟩), (.int .i64 0), (.int .i64 0), (.slice none 0 0), (.string ⟨#[]⟩), (.bool false), (.string ⟨#[]⟩), (.bool false), (.string ⟨#[]⟩)] 27)) #[.string ⟨#[]⟩, .int .i64 0, .int .i64 0, (.string ⟨#[]⟩), (.string ⟨#[]⟩), (.string ⟨#[]⟩), (.int .i64 0), (.string ⟨#[]⟩), (.int .i64 0), (.int .i64 0), (.slice none 0 0), (.string ⟨#[]⟩), (.bool false), (.string ⟨#[]⟩), (.bool false), (.string ⟨#[]⟩), .bool false] 48
        rw [show (w.alloc (Obj.cells #[(.string ⟨#[]⟩), (.string ⟨#[]⟩), (.string ⟨#[]⟩), (.int .i64 0), (.string ⟨#[]⟩), (.int .i64 0), (.int .i64 0), (.slice none 0 0), (.string ⟨#[]⟩), (.bool false), (.string ⟨#[]⟩), (.bool false), (.string ⟨#[]⟩)] 27)).heap.size = w.heap.size + 1 by simp] at this
        exact this
      have k3 : Below w.heap.size w ((w.alloc (.cells #[(.string ⟨#[]⟩), (.string ⟨#[]⟩), (.string ⟨#[]⟩), (.int .i64 0), (.string ⟨#[]⟩), (.int .i64 0), (.int .i64 0), (.slice none 0 0), (.string ⟨#[]⟩), (.bool false), (.string ⟨#[]⟩), (.bool false), (.string ⟨#[]⟩)] 27)).alloc (.cells #[.string ⟨#[]⟩, .int .i64 0, .int .i64 0, (.string ⟨#[]⟩), (.string ⟨#[]⟩), (.string ⟨#[]⟩), (.int .i64 0), (.string ⟨#[]⟩), (.int .i64 0), (.int .i64 0), (.slice none 0 0), (.string ⟨#[]⟩), (.bool false), (.string ⟨#[]⟩), (.bool false), (.string ⟨#[]⟩), .bool false] 48)).drew := (((Below.refl _ w).alloc (Nat.le_refl _) _).alloc (by simp) _).drew
      have j1 := k1.below b (by omega)
      have j2 := k2.below b (by omega)
      have j3 := k3.trans (b.mono (by omega))
      refine (reset (w.heap.size + 1) t _ _ _ ((P.zero.u (.slice none 0 0)).cells ++ [.bool false]) 48 W (by simpa [P.zero, P.u, U.cells] using j2)).mono ?_
      rintro e w' ⟨rfl, hR, hG⟩
      have hlt : w.heap.size ≤ W.heap.size := j3.size
      have hB : Below w.heap.size w w' := below_then j3 hG hlt (by omega)
      refine ⟨rfl, hR, ?_, hB, hL.below hB⟩
      exact (hG.block _ j1.lt (by simp)).trans j1
    obtain ⟨R, hR⟩ : ∃ R, schP P.zero (trimL s.data.toList) = R := ⟨_, rfl⟩
    have HRR : Hid (schP P.zero (trimL s.data.toList) = R) := hR
    clear hln ht htd hR hL
    go_enter Tryz.func11, Tryz.ntmps11
    go_wp2
    go_region_with (first
      | (go_at_call 31; refine (CT.out _ _).mono ?_; rintro e W1 ⟨rfl, d1⟩)
      | (go_at_call 30; refine (CR.out W1 d1).mono ?_; rintro e W2 ⟨rfl, hU2, hZ2, hB2, hL2⟩))
    have HRUN : Hid (Calls Tryz.prog 32 #[.pointer (some ⟨w.heap.size + 1, 0, none⟩), .func (.func 33) #[.pointer (some ⟨w.heap.size + 1, 0, none⟩)] #[]] W2 fun e w' => e = .returned (.tuple #[]) ∧ Fin (w.heap.size + 1) t R w' ∧ W2.grownBy w' (some (w.heap.size + 1))) := by
      have := runFrom (w.heap.size + 1) t 0 P.zero .sch W2 ⟨_, hU2, ownS_nil _ _⟩ hL2.eof hL2.base.mx hg0 hg1 (Nat.zero_le _) (by omega)
      rw [show St.out .sch P.zero (t.data.toList.drop 0) = R by rw [List.drop_zero, HTD.out]; exact HRR.out] at this
      exact this
    have HZ2 : Hid (Blk w.heap.size #[(.string ⟨#[]⟩), (.string ⟨#[]⟩), (.string ⟨#[]⟩), (.int .i64 0), (.string ⟨#[]⟩), (.int .i64 0), (.int .i64 0), (.slice none 0 0), (.string ⟨#[]⟩), (.bool false), (.string ⟨#[]⟩), (.bool false), (.string ⟨#[]⟩)] 27 W2) := hZ2
    have HB2 : Hid (Below w.heap.size w W2) := hB2
    have HL2 : Hid (Lean1 W2) := hL2
    clear CT CR d1 hU2 hZ2 hB2 hL2
    go_wp2_with fail
    refine HRUN.out.mono ?_
    rintro e W3 ⟨rfl, hF, hG3⟩
    have hz3 : Blk w.heap.size #[(.string ⟨#[]⟩), (.string ⟨#[]⟩), (.string ⟨#[]⟩), (.int .i64 0), (.string ⟨#[]⟩), (.int .i64 0), (.int .i64 0), (.slice none 0 0), (.string ⟨#[]⟩), (.bool false), (.string ⟨#[]⟩), (.bool false), (.string ⟨#[]⟩)] 27 W3 := (hG3.block _ HZ2.out.lt (by simp)).trans HZ2.out
    have HB3 : Hid (Below w.heap.size w W3) := below_then HB2.out hG3 HB2.out.size (by omega)
    have HL3 : Hid (Lean0 W3) := ⟨HL2.out.base.mx.grown hG3 hg1, Nat.lt_of_lt_of_le HL2.out.base.lt hG3.size, tab_grown HL2.out.base.tab hG3 HL2.out.base.lt hg2⟩
    have HS3 : Hid (w.heap.size + 1 ≤ W3.heap.size) := hz3.lt
    have HZ3 : Hid (Blk w.heap.size #[(.string ⟨#[]⟩), (.string ⟨#[]⟩), (.string ⟨#[]⟩), (.int .i64 0), (.string ⟨#[]⟩), (.int .i64 0), (.int .i64 0), (.slice none 0 0), (.string ⟨#[]⟩), (.bool false), (.string ⟨#[]⟩), (.bool false), (.string ⟨#[]⟩)] 27 W3) := hz3
    have z0 : W3.cell? ⟨w.heap.size, 0, none⟩ = some (.string ⟨#[]⟩) := hz3.cell 0
    have y0 : W3.frozen? ⟨w.heap.size, 0, none⟩ = false := hz3.free 0
    have z1 : W3.cell? ⟨w.heap.size, 1, none⟩ = some (.string ⟨#[]⟩) := hz3.cell 1
    have y1 : W3.frozen? ⟨w.heap.size, 1, none⟩ = false := hz3.free 1
    have z2 : W3.cell? ⟨w.heap.size, 2, none⟩ = some (.string ⟨#[]⟩) := hz3.cell 2
    have y2 : W3.frozen? ⟨w.heap.size, 2, none⟩ = false := hz3.free 2
    have z3 : W3.cell? ⟨w.heap.size, 3, none⟩ = some (.int .i64 0) := hz3.cell 3
    have y3 : W3.frozen? ⟨w.heap.size, 3, none⟩ = false := hz3.free 3
    have z4 : W3.cell? ⟨w.heap.size, 4, none⟩ = some (.string ⟨#[]⟩) := hz3.cell 4
    have y4 : W3.frozen? ⟨w.heap.size, 4, none⟩ = false := hz3.free 4
    have z5 : W3.cell? ⟨w.heap.size, 5, none⟩ = some (.int .i64 0) := hz3.cell 5
    have y5 : W3.frozen? ⟨w.heap.size, 5, none⟩ = false := hz3.free 5
    have z6 : W3.cell? ⟨w.heap.size, 6, none⟩ = some (.int .i64 0) := hz3.cell 6
    have y6 : W3.frozen? ⟨w.heap.size, 6, none⟩ = false := hz3.free 6
    have z7 : W3.cell? ⟨w.heap.size, 7, none⟩ = some (.slice none 0 0) := hz3.cell 7
    have y7 : W3.frozen? ⟨w.heap.size, 7, none⟩ = false := hz3.free 7
    have z8 : W3.cell? ⟨w.heap.size, 8, none⟩ = some (.string ⟨#[]⟩) := hz3.cell 8
    have y8 : W3.frozen? ⟨w.heap.size, 8, none⟩ = false := hz3.free 8
    have z9 : W3.cell? ⟨w.heap.size, 9, none⟩ = some (.bool false) := hz3.cell 9
    have y9 : W3.frozen? ⟨w.heap.size, 9, none⟩ = false := hz3.free 9
    have z10 : W3.cell? ⟨w.heap.size, 10, none⟩ = some (.string ⟨#[]⟩) := hz3.cell 10
    have y10 : W3.frozen? ⟨w.heap.size, 10, none⟩ = false := hz3.free 10
    have z11 : W3.cell? ⟨w.heap.size, 11, none⟩ = some (.bool false) := hz3.cell 11
    have y11 : W3.frozen? ⟨w.heap.size, 11, none⟩ = false := hz3.free 11
    have z12 : W3.cell? ⟨w.heap.size, 12, none⟩ = some (.string ⟨#[]⟩) := hz3.cell 12
    have y12 : W3.frozen? ⟨w.heap.size, 12, none⟩ = false := hz3.free 12
    clear hz3 hG3 HRUN HZ2 HB2 HL2
    cases R with
    | none =>
      obtain ⟨i, u, hU⟩ : ∃ i u, UR (w.heap.size + 1) t i u true W3 := hF
      have HO : Hid (getO s.data.toList = none) := by show _ = _; unfold getO; rw [if_pos (by simp; omega), HRR.out]; rfl
      have k16 : W3.cell? ⟨w.heap.size + 1, 16, none⟩ = some (.bool true) := hU.cell 13 _ rfl
      have HZ : Hid (Blk w.heap.size #[(.string ⟨#[]⟩), (.string ⟨#[]⟩), (.string ⟨#[]⟩), (.int .i64 0), (.string ⟨#[]⟩), (.int .i64 0), (.int .i64 0), (.slice none 0 0), (.string ⟨#[]⟩), (.bool false), (.string ⟨#[]⟩), (.bool false), (.string ⟨#[]⟩)] 27 W3) := HZ3.out
      have HBW : Hid (Below w.heap.size w W3) := HB3.out
      clear hU HRR HZ3 HB3 HL3 HS3
      go_wp2
      have HRB : Hid (Blk w.heap.size #[(.string ⟨#[]⟩), (.string ⟨#[]⟩), (.string ⟨#[]⟩), (.int .i64 0), (.string ⟨#[]⟩), (.int .i64 0), (.int .i64 0), (.slice none 0 0), (.string ⟨#[]⟩), (.bool false), (.string ⟨#[]⟩), (.bool false), (.string ⟨#[]⟩)] 27 (((((((((((((W3.setCell ⟨w.heap.size, 0, none⟩ (.string ⟨#[]⟩)).setCell ⟨w.heap.size, 1, none⟩ (.string ⟨#[]⟩)).setCell ⟨w.heap.size, 2, none⟩ (.string ⟨#[]⟩)).setCell ⟨w.heap.size, 3, none⟩ (.int .i64 0)).setCell ⟨w.heap.size, 4, none⟩ (.string ⟨#[]⟩)).setCell ⟨w.heap.size, 5, none⟩ (.int .i64 0)).setCell ⟨w.heap.size, 6, none⟩ (.int .i64 0)).setCell ⟨w.heap.size, 7, none⟩ (.slice none 0 0)).setCell ⟨w.heap.size, 8, none⟩ (.string ⟨#[]⟩)).setCell ⟨w.heap.size, 9, none⟩ (.bool false)).setCell ⟨w.heap.size, 10, none⟩ (.string ⟨#[]⟩)).setCell ⟨w.heap.size, 11, none⟩ (.bool false)).setCell ⟨w.heap.size, 12, none⟩ (.string ⟨#[]⟩))) := HZ.out.put13 _ _ _ _ _ _ _ _ _ _ _ _ _
      have HBB : Hid (Below w.heap.size w (((((((((((((W3.setCell ⟨w.heap.size, 0, none⟩ (.string ⟨#[]⟩)).setCell ⟨w.heap.size, 1, none⟩ (.string ⟨#[]⟩)).setCell ⟨w.heap.size, 2, none⟩ (.string ⟨#[]⟩)).setCell ⟨w.heap.size, 3, none⟩ (.int .i64 0)).setCell ⟨w.heap.size, 4, none⟩ (.string ⟨#[]⟩)).setCell ⟨w.heap.size, 5, none⟩ (.int .i64 0)).setCell ⟨w.heap.size, 6, none⟩ (.int .i64 0)).setCell ⟨w.heap.size, 7, none⟩ (.slice none 0 0)).setCell ⟨w.heap.size, 8, none⟩ (.string ⟨#[]⟩)).setCell ⟨w.heap.size, 9, none⟩ (.bool false)).setCell ⟨w.heap.size, 10, none⟩ (.string ⟨#[]⟩)).setCell ⟨w.heap.size, 11, none⟩ (.bool false)).setCell ⟨w.heap.size, 12, none⟩ (.string ⟨#[]⟩))) := below_put13 HBW.out (Nat.le_refl _) _ _ _ _ _ _ _ _ _ _ _ _ _
      clear HZ HBW
      generalize (((((((((((((W3.setCell ⟨w.heap.size, 0, none⟩ (.string ⟨#[]⟩)).setCell ⟨w.heap.size, 1, none⟩ (.string ⟨#[]⟩)).setCell ⟨w.heap.size, 2, none⟩ (.string ⟨#[]⟩)).setCell ⟨w.heap.size, 3, none⟩ (.int .i64 0)).setCell ⟨w.heap.size, 4, none⟩ (.string ⟨#[]⟩)).setCell ⟨w.heap.size, 5, none⟩ (.int .i64 0)).setCell ⟨w.heap.size, 6, none⟩ (.int .i64 0)).setCell ⟨w.heap.size, 7, none⟩ (.slice none 0 0)).setCell ⟨w.heap.size, 8, none⟩ (.string ⟨#[]⟩)).setCell ⟨w.heap.size, 9, none⟩ (.bool false)).setCell ⟨w.heap.size, 10, none⟩ (.string ⟨#[]⟩)).setCell ⟨w.heap.size, 11, none⟩ (.bool false)).setCell ⟨w.heap.size, 12, none⟩ (.string ⟨#[]⟩)) = W9 at *
      clear z0 y0 z1 y1 z2 y2 z3 y3 z4 y4 z5 y5 z6 y6 z7 y7 z8 y8 z9 y9 z10 y10 z11 y11 z12 y12
      have z0 : W9.cell? ⟨w.heap.size, 0, none⟩ = some (.string ⟨#[]⟩) := HRB.out.cell 0
      have z1 : W9.cell? ⟨w.heap.size, 1, none⟩ = some (.string ⟨#[]⟩) := HRB.out.cell 1
      have z2 : W9.cell? ⟨w.heap.size, 2, none⟩ = some (.string ⟨#[]⟩) := HRB.out.cell 2
      have z3 : W9.cell? ⟨w.heap.size, 3, none⟩ = some (.int .i64 0) := HRB.out.cell 3
      have z4 : W9.cell? ⟨w.heap.size, 4, none⟩ = some (.string ⟨#[]⟩) := HRB.out.cell 4
      have z5 : W9.cell? ⟨w.heap.size, 5, none⟩ = some (.int .i64 0) := HRB.out.cell 5
      have z6 : W9.cell? ⟨w.heap.size, 6, none⟩ = some (.int .i64 0) := HRB.out.cell 6
      have z7 : W9.cell? ⟨w.heap.size, 7, none⟩ = some (.slice none 0 0) := HRB.out.cell 7
      have z8 : W9.cell? ⟨w.heap.size, 8, none⟩ = some (.string ⟨#[]⟩) := HRB.out.cell 8
      have z9 : W9.cell? ⟨w.heap.size, 9, none⟩ = some (.bool false) := HRB.out.cell 9
      have z10 : W9.cell? ⟨w.heap.size, 10, none⟩ = some (.string ⟨#[]⟩) := HRB.out.cell 10
      have z11 : W9.cell? ⟨w.heap.size, 11, none⟩ = some (.bool false) := HRB.out.cell 11
      have z12 : W9.cell? ⟨w.heap.size, 12, none⟩ = some (.string ⟨#[]⟩) := HRB.out.cell 12
      refine bodyPost_ret (v := .tuple #[.agg #[(.string ⟨#[]⟩), (.string ⟨#[]⟩), (.string ⟨#[]⟩), (.int .i64 0), (.string ⟨#[]⟩), (.int .i64 0), (.int .i64 0), (.slice none 0 0), (.string ⟨#[]⟩), (.bool false), (.string ⟨#[]⟩), (.bool false), (.string ⟨#[]⟩)], .bool false]) (by simp [results, Tryz.results11, go_sem, z0, z1, z2, z3, z4, z5, z6, z7, z8, z9, z10, z11, z12]) rfl ?_
      exact ⟨.slice none 0 0, by unfold getP getB; rw [HO.out]; rfl, by unfold getP; rw [HO.out]; exact ownS_nil _ _, HBB.out⟩
    | some q =>
      obtain ⟨i, hi, V, hU, hO⟩ : ∃ i, i ≤ t.size ∧ ∃ v, UR (w.heap.size + 1) t i (q.u v) false W3 ∧ OwnS (w.heap.size + 1 + 1) v q.ps W3 := hF
      have HFT : Hid (Fit q) := fit_sch P.zero q _ (by have h1 := trim_len s.data.toList; simp at h1; omega) fit_zero HRR.out
      obtain ⟨a, c, hV, hcap, hst⟩ := hO.strs
      have HU : Hid (UR (w.heap.size + 1) t i (q.u V) false W3) := hU
      have HOW : Hid (OwnS (w.heap.size + 1 + 1) V q.ps W3) := hO
      obtain ⟨k3, k4, k5, k6, k7, k8, k9, k10, k11, k12, k13, k14, k15, k16⟩ := hU.allP
      have hpl : q.ps.length ≤ 1000 := by have := HFT.out.ps; omega
      have CW : Hid (Calls Tryz.prog 29 #[.agg #[.string q.sc, .string q.us, .string q.pw, .int .i64 q.hk, .string q.hn, .int .i64 q.ha, .int .i64 q.po, V, .string q.op, .bool q.hq, .string q.qu, .bool q.hf, .string q.fr]] W3 fun e w' => e = .returned (.string (mk (writL q))) ∧ Below W3.heap.size W3 w') := by
        rw [hV]
        exact urlWrite q a c W3 HL3.out hst (by have := HFT.out.tot; omega) (by have := HFT.out.p1; omega)
      by_cases hp : q.ps.length ≤ 12
      · have hpi : ¬ ((12 : Int) < (q.ps.length : Int)) := by omega
        have hwz : (mk (writL q)).size = (writL q).length := mk_size _
        obtain ⟨X, hX⟩ : ∃ X, X = mk (writL q) := ⟨_, rfl⟩
        rw [← hX] at CW hwz
        by_cases hw : (writL q).length ≤ 600
        · have hwi : ¬ ((600 : Int) < (X.size : Int)) := by omega
          have HO : Hid (getO s.data.toList = some q) := by show _ = _; unfold getO; rw [if_pos (by simp; omega), HRR.out]; show (if _ then _ else _) = _; rw [if_pos ⟨hp, hw⟩]
          clear hwz hX HRR hst hw
          have HHV : Hid (V = .slice a q.ps.length c) := hV
          subst hV
          clear hU hO
          go_wp2_with fail
          refine CW.out.mono ?_
          rintro e W4 ⟨rfl, d4⟩
          have hU4 : UR (w.heap.size + 1) t i (q.u (.slice a q.ps.length c)) false W4 := HU.out.grown d4 (Rdr.lt HU.out)
          have hz3 : Blk w.heap.size #[(.string ⟨#[]⟩), (.string ⟨#[]⟩), (.string ⟨#[]⟩), (.int .i64 0), (.string ⟨#[]⟩), (.int .i64 0), (.int .i64 0), (.slice none 0 0), (.string ⟨#[]⟩), (.bool false), (.string ⟨#[]⟩), (.bool false), (.string ⟨#[]⟩)] 27 W4 := HZ3.out.below d4 HZ3.out.lt
          have HBW : Hid (Below w.heap.size w W4) := HB3.out.trans (d4.mono HB3.out.size)
          have HOW4 : Hid (OwnS (w.heap.size + 1 + 1) (.slice a q.ps.length c) q.ps W4) := HOW.out.later d4
          have HZ : Hid (Blk w.heap.size #[(.string ⟨#[]⟩), (.string ⟨#[]⟩), (.string ⟨#[]⟩), (.int .i64 0), (.string ⟨#[]⟩), (.int .i64 0), (.int .i64 0), (.slice none 0 0), (.string ⟨#[]⟩), (.bool false), (.string ⟨#[]⟩), (.bool false), (.string ⟨#[]⟩)] 27 W4) := hz3
          clear k3 k4 k5 k6 k7 k8 k9 k10 k11 k12 k13 k14 k15 k16 z0 y0 z1 y1 z2 y2 z3 y3 z4 y4 z5 y5 z6 y6 z7 y7 z8 y8 z9 y9 z10 y10 z11 y11 z12 y12
          obtain ⟨k3, k4, k5, k6, k7, k8, k9, k10, k11, k12, k13, k14, k15, k16⟩ := hU4.allP
          have z0 : W4.cell? ⟨w.heap.size, 0, none⟩ = some (.string ⟨#[]⟩) := hz3.cell 0
          have y0 : W4.frozen? ⟨w.heap.size, 0, none⟩ = false := hz3.free 0
          have z1 : W4.cell? ⟨w.heap.size, 1, none⟩ = some (.string ⟨#[]⟩) := hz3.cell 1
          have y1 : W4.frozen? ⟨w.heap.size, 1, none⟩ = false := hz3.free 1
          have z2 : W4.cell? ⟨w.heap.size, 2, none⟩ = some (.string ⟨#[]⟩) := hz3.cell 2
          have y2 : W4.frozen? ⟨w.heap.size, 2, none⟩ = false := hz3.free 2
          have z3 : W4.cell? ⟨w.heap.size, 3, none⟩ = some (.int .i64 0) := hz3.cell 3
          have y3 : W4.frozen? ⟨w.heap.size, 3, none⟩ = false := hz3.free 3
          have z4 : W4.cell? ⟨w.heap.size, 4, none⟩ = some (.string ⟨#[]⟩) := hz3.cell 4
          have y4 : W4.frozen? ⟨w.heap.size, 4, none⟩ = false := hz3.free 4
          have z5 : W4.cell? ⟨w.heap.size, 5, none⟩ = some (.int .i64 0) := hz3.cell 5
          have y5 : W4.frozen? ⟨w.heap.size, 5, none⟩ = false := hz3.free 5
          have z6 : W4.cell? ⟨w.heap.size, 6, none⟩ = some (.int .i64 0) := hz3.cell 6
          have y6 : W4.frozen? ⟨w.heap.size, 6, none⟩ = false := hz3.free 6
          have z7 : W4.cell? ⟨w.heap.size, 7, none⟩ = some (.slice none 0 0) := hz3.cell 7
          have y7 : W4.frozen? ⟨w.heap.size, 7, none⟩ = false := hz3.free 7
          have z8 : W4.cell? ⟨w.heap.size, 8, none⟩ = some (.string ⟨#[]⟩) := hz3.cell 8
          have y8 : W4.frozen? ⟨w.heap.size, 8, none⟩ = false := hz3.free 8
          have z9 : W4.cell? ⟨w.heap.size, 9, none⟩ = some (.bool false) := hz3.cell 9
          have y9 : W4.frozen? ⟨w.heap.size, 9, none⟩ = false := hz3.free 9
          have z10 : W4.cell? ⟨w.heap.size, 10, none⟩ = some (.string ⟨#[]⟩) := hz3.cell 10
          have y10 : W4.frozen? ⟨w.heap.size, 10, none⟩ = false := hz3.free 10
          have z11 : W4.cell? ⟨w.heap.size, 11, none⟩ = some (.bool false) := hz3.cell 11
          have y11 : W4.frozen? ⟨w.heap.size, 11, none⟩ = false := hz3.free 11
          have z12 : W4.cell? ⟨w.heap.size, 12, none⟩ = some (.string ⟨#[]⟩) := hz3.cell 12
          have y12 : W4.frozen? ⟨w.heap.size, 12, none⟩ = false := hz3.free 12
          clear hz3 hU4 HU HOW d4 CW HZ3 HB3 HL3 HS3
          go_wp2
          have HRB : Hid (Blk w.heap.size #[(.string q.sc), (.string q.us), (.string q.pw), (.int .i64 q.hk), (.string q.hn), (.int .i64 q.ha), (.int .i64 q.po), (.slice a q.ps.length c), (.string q.op), (.bool q.hq), (.string q.qu), (.bool q.hf), (.string q.fr)] 27 (((((((((((((W4.setCell ⟨w.heap.size, 0, none⟩ (.string q.sc)).setCell ⟨w.heap.size, 1, none⟩ (.string q.us)).setCell ⟨w.heap.size, 2, none⟩ (.string q.pw)).setCell ⟨w.heap.size, 3, none⟩ (.int .i64 q.hk)).setCell ⟨w.heap.size, 4, none⟩ (.string q.hn)).setCell ⟨w.heap.size, 5, none⟩ (.int .i64 q.ha)).setCell ⟨w.heap.size, 6, none⟩ (.int .i64 q.po)).setCell ⟨w.heap.size, 7, none⟩ (.slice a q.ps.length c)).setCell ⟨w.heap.size, 8, none⟩ (.string q.op)).setCell ⟨w.heap.size, 9, none⟩ (.bool q.hq)).setCell ⟨w.heap.size, 10, none⟩ (.string q.qu)).setCell ⟨w.heap.size, 11, none⟩ (.bool q.hf)).setCell ⟨w.heap.size, 12, none⟩ (.string q.fr))) := HZ.out.put13 _ _ _ _ _ _ _ _ _ _ _ _ _
          have HBB : Hid (Below w.heap.size w (((((((((((((W4.setCell ⟨w.heap.size, 0, none⟩ (.string q.sc)).setCell ⟨w.heap.size, 1, none⟩ (.string q.us)).setCell ⟨w.heap.size, 2, none⟩ (.string q.pw)).setCell ⟨w.heap.size, 3, none⟩ (.int .i64 q.hk)).setCell ⟨w.heap.size, 4, none⟩ (.string q.hn)).setCell ⟨w.heap.size, 5, none⟩ (.int .i64 q.ha)).setCell ⟨w.heap.size, 6, none⟩ (.int .i64 q.po)).setCell ⟨w.heap.size, 7, none⟩ (.slice a q.ps.length c)).setCell ⟨w.heap.size, 8, none⟩ (.string q.op)).setCell ⟨w.heap.size, 9, none⟩ (.bool q.hq)).setCell ⟨w.heap.size, 10, none⟩ (.string q.qu)).setCell ⟨w.heap.size, 11, none⟩ (.bool q.hf)).setCell ⟨w.heap.size, 12, none⟩ (.string q.fr))) := below_put13 HBW.out (Nat.le_refl _) _ _ _ _ _ _ _ _ _ _ _ _ _
          have HON : Hid (OwnS w.heap.size (.slice a q.ps.length c) q.ps (((((((((((((W4.setCell ⟨w.heap.size, 0, none⟩ (.string q.sc)).setCell ⟨w.heap.size, 1, none⟩ (.string q.us)).setCell ⟨w.heap.size, 2, none⟩ (.string q.pw)).setCell ⟨w.heap.size, 3, none⟩ (.int .i64 q.hk)).setCell ⟨w.heap.size, 4, none⟩ (.string q.hn)).setCell ⟨w.heap.size, 5, none⟩ (.int .i64 q.ha)).setCell ⟨w.heap.size, 6, none⟩ (.int .i64 q.po)).setCell ⟨w.heap.size, 7, none⟩ (.slice a q.ps.length c)).setCell ⟨w.heap.size, 8, none⟩ (.string q.op)).setCell ⟨w.heap.size, 9, none⟩ (.bool q.hq)).setCell ⟨w.heap.size, 10, none⟩ (.string q.qu)).setCell ⟨w.heap.size, 11, none⟩ (.bool q.hf)).setCell ⟨w.heap.size, 12, none⟩ (.string q.fr))) := (HOW4.out.keptG (grown13 w.heap.size W4 _ _ _ _ _ _ _ _ _ _ _ _ _) (by omega)).base (by omega)
          clear HZ HBW HOW4
          generalize (((((((((((((W4.setCell ⟨w.heap.size, 0, none⟩ (.string q.sc)).setCell ⟨w.heap.size, 1, none⟩ (.string q.us)).setCell ⟨w.heap.size, 2, none⟩ (.string q.pw)).setCell ⟨w.heap.size, 3, none⟩ (.int .i64 q.hk)).setCell ⟨w.heap.size, 4, none⟩ (.string q.hn)).setCell ⟨w.heap.size, 5, none⟩ (.int .i64 q.ha)).setCell ⟨w.heap.size, 6, none⟩ (.int .i64 q.po)).setCell ⟨w.heap.size, 7, none⟩ (.slice a q.ps.length c)).setCell ⟨w.heap.size, 8, none⟩ (.string q.op)).setCell ⟨w.heap.size, 9, none⟩ (.bool q.hq)).setCell ⟨w.heap.size, 10, none⟩ (.string q.qu)).setCell ⟨w.heap.size, 11, none⟩ (.bool q.hf)).setCell ⟨w.heap.size, 12, none⟩ (.string q.fr)) = W9 at *
          clear z0 y0 z1 y1 z2 y2 z3 y3 z4 y4 z5 y5 z6 y6 z7 y7 z8 y8 z9 y9 z10 y10 z11 y11 z12 y12
          have z0 : W9.cell? ⟨w.heap.size, 0, none⟩ = some (.string q.sc) := HRB.out.cell 0
          have z1 : W9.cell? ⟨w.heap.size, 1, none⟩ = some (.string q.us) := HRB.out.cell 1
          have z2 : W9.cell? ⟨w.heap.size, 2, none⟩ = some (.string q.pw) := HRB.out.cell 2
          have z3 : W9.cell? ⟨w.heap.size, 3, none⟩ = some (.int .i64 q.hk) := HRB.out.cell 3
          have z4 : W9.cell? ⟨w.heap.size, 4, none⟩ = some (.string q.hn) := HRB.out.cell 4
          have z5 : W9.cell? ⟨w.heap.size, 5, none⟩ = some (.int .i64 q.ha) := HRB.out.cell 5
          have z6 : W9.cell? ⟨w.heap.size, 6, none⟩ = some (.int .i64 q.po) := HRB.out.cell 6
          have z7 : W9.cell? ⟨w.heap.size, 7, none⟩ = some (.slice a q.ps.length c) := HRB.out.cell 7
          have z8 : W9.cell? ⟨w.heap.size, 8, none⟩ = some (.string q.op) := HRB.out.cell 8
          have z9 : W9.cell? ⟨w.heap.size, 9, none⟩ = some (.bool q.hq) := HRB.out.cell 9
          have z10 : W9.cell? ⟨w.heap.size, 10, none⟩ = some (.string q.qu) := HRB.out.cell 10
          have z11 : W9.cell? ⟨w.heap.size, 11, none⟩ = some (.bool q.hf) := HRB.out.cell 11
          have z12 : W9.cell? ⟨w.heap.size, 12, none⟩ = some (.string q.fr) := HRB.out.cell 12
          refine bodyPost_ret (v := .tuple #[.agg #[(.string q.sc), (.string q.us), (.string q.pw), (.int .i64 q.hk), (.string q.hn), (.int .i64 q.ha), (.int .i64 q.po), (.slice a q.ps.length c), (.string q.op), (.bool q.hq), (.string q.qu), (.bool q.hf), (.string q.fr)], .bool true]) (by simp [results, Tryz.results11, go_sem, z0, z1, z2, z3, z4, z5, z6, z7, z8, z9, z10, z11, z12]) rfl ?_
          exact ⟨.slice a q.ps.length c, by unfold getP getB; rw [HO.out]; rfl, by unfold getP; rw [HO.out]; exact HON.out, HBB.out⟩
        · have hwi : (600 : Int) < (X.size : Int) := by omega
          have HO : Hid (getO s.data.toList = none) := by show _ = _; unfold getO; rw [if_pos (by simp; omega), HRR.out]; show (if _ then _ else _) = _; rw [if_neg (fun h => hw h.2)]
          clear hwz hX HRR hst hw
          subst hV
          clear hU hO
          go_wp2_with fail
          refine CW.out.mono ?_
          rintro e W4 ⟨rfl, d4⟩
          have hz3 : Blk w.heap.size #[(.string ⟨#[]⟩), (.string ⟨#[]⟩), (.string ⟨#[]⟩), (.int .i64 0), (.string ⟨#[]⟩), (.int .i64 0), (.int .i64 0), (.slice none 0 0), (.string ⟨#[]⟩), (.bool false), (.string ⟨#[]⟩), (.bool false), (.string ⟨#[]⟩)] 27 W4 := HZ3.out.below d4 HZ3.out.lt
          have HBW : Hid (Below w.heap.size w W4) := HB3.out.trans (d4.mono HB3.out.size)
          have HZ : Hid (Blk w.heap.size #[(.string ⟨#[]⟩), (.string ⟨#[]⟩), (.string ⟨#[]⟩), (.int .i64 0), (.string ⟨#[]⟩), (.int .i64 0), (.int .i64 0), (.slice none 0 0), (.string ⟨#[]⟩), (.bool false), (.string ⟨#[]⟩), (.bool false), (.string ⟨#[]⟩)] 27 W4) := hz3
          clear k3 k4 k5 k6 k7 k8 k9 k10 k11 k12 k13 k14 k15 k16 z0 y0 z1 y1 z2 y2 z3 y3 z4 y4 z5 y5 z6 y6 z7 y7 z8 y8 z9 y9 z10 y10 z11 y11 z12 y12
          have z0 : W4.cell? ⟨w.heap.size, 0, none⟩ = some (.string ⟨#[]⟩) := hz3.cell 0
          have y0 : W4.frozen? ⟨w.heap.size, 0, none⟩ = false := hz3.free 0
          have z1 : W4.cell? ⟨w.heap.size, 1, none⟩ = some (.string ⟨#[]⟩) := hz3.cell 1
          have y1 : W4.frozen? ⟨w.heap.size, 1, none⟩ = false := hz3.free 1
          have z2 : W4.cell? ⟨w.heap.size, 2, none⟩ = some (.string ⟨#[]⟩) := hz3.cell 2
          have y2 : W4.frozen? ⟨w.heap.size, 2, none⟩ = false := hz3.free 2
          have z3 : W4.cell? ⟨w.heap.size, 3, none⟩ = some (.int .i64 0) := hz3.cell 3
          have y3 : W4.frozen? ⟨w.heap.size, 3, none⟩ = false := hz3.free 3
          have z4 : W4.cell? ⟨w.heap.size, 4, none⟩ = some (.string ⟨#[]⟩) := hz3.cell 4
          have y4 : W4.frozen? ⟨w.heap.size, 4, none⟩ = false := hz3.free 4
          have z5 : W4.cell? ⟨w.heap.size, 5, none⟩ = some (.int .i64 0) := hz3.cell 5
          have y5 : W4.frozen? ⟨w.heap.size, 5, none⟩ = false := hz3.free 5
          have z6 : W4.cell? ⟨w.heap.size, 6, none⟩ = some (.int .i64 0) := hz3.cell 6
          have y6 : W4.frozen? ⟨w.heap.size, 6, none⟩ = false := hz3.free 6
          have z7 : W4.cell? ⟨w.heap.size, 7, none⟩ = some (.slice none 0 0) := hz3.cell 7
          have y7 : W4.frozen? ⟨w.heap.size, 7, none⟩ = false := hz3.free 7
          have z8 : W4.cell? ⟨w.heap.size, 8, none⟩ = some (.string ⟨#[]⟩) := hz3.cell 8
          have y8 : W4.frozen? ⟨w.heap.size, 8, none⟩ = false := hz3.free 8
          have z9 : W4.cell? ⟨w.heap.size, 9, none⟩ = some (.bool false) := hz3.cell 9
          have y9 : W4.frozen? ⟨w.heap.size, 9, none⟩ = false := hz3.free 9
          have z10 : W4.cell? ⟨w.heap.size, 10, none⟩ = some (.string ⟨#[]⟩) := hz3.cell 10
          have y10 : W4.frozen? ⟨w.heap.size, 10, none⟩ = false := hz3.free 10
          have z11 : W4.cell? ⟨w.heap.size, 11, none⟩ = some (.bool false) := hz3.cell 11
          have y11 : W4.frozen? ⟨w.heap.size, 11, none⟩ = false := hz3.free 11
          have z12 : W4.cell? ⟨w.heap.size, 12, none⟩ = some (.string ⟨#[]⟩) := hz3.cell 12
          have y12 : W4.frozen? ⟨w.heap.size, 12, none⟩ = false := hz3.free 12
          clear hz3 d4 CW HZ3 HB3 HL3 HS3 HU HOW
          go_wp2
          have HRB : Hid (Blk w.heap.size #[(.string ⟨#[]⟩), (.string ⟨#[]⟩), (.string ⟨#[]⟩), (.int .i64 0), (.string ⟨#[]⟩), (.int .i64 0), (.int .i64 0), (.slice none 0 0), (.string ⟨#[]⟩), (.bool false), (.string ⟨#[]⟩), (.bool false), (.string ⟨#[]⟩)] 27 (((((((((((((W4.setCell ⟨w.heap.size, 0, none⟩ (.string ⟨#[]⟩)).setCell ⟨w.heap.size, 1, none⟩ (.string ⟨#[]⟩)).setCell ⟨w.heap.size, 2, none⟩ (.string ⟨#[]⟩)).setCell ⟨w.heap.size, 3, none⟩ (.int .i64 0)).setCell ⟨w.heap.size, 4, none⟩ (.string ⟨#[]⟩)).setCell ⟨w.heap.size, 5, none⟩ (.int .i64 0)).setCell ⟨w.heap.size, 6, none⟩ (.int .i64 0)).setCell ⟨w.heap.size, 7, none⟩ (.slice none 0 0)).setCell ⟨w.heap.size, 8, none⟩ (.string ⟨#[]⟩)).setCell ⟨w.heap.size, 9, none⟩ (.bool false)).setCell ⟨w.heap.size, 10, none⟩ (.string ⟨#[]⟩)).setCell ⟨w.heap.size, 11, none⟩ (.bool false)).setCell ⟨w.heap.size, 12, none⟩ (.string ⟨#[]⟩))) := HZ.out.put13 _ _ _ _ _ _ _ _ _ _ _ _ _
          have HBB : Hid (Below w.heap.size w (((((((((((((W4.setCell ⟨w.heap.size, 0, none⟩ (.string ⟨#[]⟩)).setCell ⟨w.heap.size, 1, none⟩ (.string ⟨#[]⟩)).setCell ⟨w.heap.size, 2, none⟩ (.string ⟨#[]⟩)).setCell ⟨w.heap.size, 3, none⟩ (.int .i64 0)).setCell ⟨w.heap.size, 4, none⟩ (.string ⟨#[]⟩)).setCell ⟨w.heap.size, 5, none⟩ (.int .i64 0)).setCell ⟨w.heap.size, 6, none⟩ (.int .i64 0)).setCell ⟨w.heap.size, 7, none⟩ (.slice none 0 0)).setCell ⟨w.heap.size, 8, none⟩ (.string ⟨#[]⟩)).setCell ⟨w.heap.size, 9, none⟩ (.bool false)).setCell ⟨w.heap.size, 10, none⟩ (.string ⟨#[]⟩)).setCell ⟨w.heap.size, 11, none⟩ (.bool false)).setCell ⟨w.heap.size, 12, none⟩ (.string ⟨#[]⟩))) := below_put13 HBW.out (Nat.le_refl _) _ _ _ _ _ _ _ _ _ _ _ _ _
          clear HZ HBW
          generalize (((((((((((((W4.setCell ⟨w.heap.size, 0, none⟩ (.string ⟨#[]⟩)).setCell ⟨w.heap.size, 1, none⟩ (.string ⟨#[]⟩)).setCell ⟨w.heap.size, 2, none⟩ (.string ⟨#[]⟩)).setCell ⟨w.heap.size, 3, none⟩ (.int .i64 0)).setCell ⟨w.heap.size, 4, none⟩ (.string ⟨#[]⟩)).setCell ⟨w.heap.size, 5, none⟩ (.int .i64 0)).setCell ⟨w.heap.size, 6, none⟩ (.int .i64 0)).setCell ⟨w.heap.size, 7, none⟩ (.slice none 0 0)).setCell ⟨w.heap.size, 8, none⟩ (.string ⟨#[]⟩)).setCell ⟨w.heap.size, 9, none⟩ (.bool false)).setCell ⟨w.heap.size, 10, none⟩ (.string ⟨#[]⟩)).setCell ⟨w.heap.size, 11, none⟩ (.bool false)).setCell ⟨w.heap.size, 12, none⟩ (.string ⟨#[]⟩)) = W9 at *
          clear z0 y0 z1 y1 z2 y2 z3 y3 z4 y4 z5 y5 z6 y6 z7 y7 z8 y8 z9 y9 z10 y10 z11 y11 z12 y12
          have z0 : W9.cell? ⟨w.heap.size, 0, none⟩ = some (.string ⟨#[]⟩) := HRB.out.cell 0
          have z1 : W9.cell? ⟨w.heap.size, 1, none⟩ = some (.string ⟨#[]⟩) := HRB.out.cell 1
          have z2 : W9.cell? ⟨w.heap.size, 2, none⟩ = some (.string ⟨#[]⟩) := HRB.out.cell 2
          have z3 : W9.cell? ⟨w.heap.size, 3, none⟩ = some (.int .i64 0) := HRB.out.cell 3
          have z4 : W9.cell? ⟨w.heap.size, 4, none⟩ = some (.string ⟨#[]⟩) := HRB.out.cell 4
          have z5 : W9.cell? ⟨w.heap.size, 5, none⟩ = some (.int .i64 0) := HRB.out.cell 5
          have z6 : W9.cell? ⟨w.heap.size, 6, none⟩ = some (.int .i64 0) := HRB.out.cell 6
          have z7 : W9.cell? ⟨w.heap.size, 7, none⟩ = some (.slice none 0 0) := HRB.out.cell 7
          have z8 : W9.cell? ⟨w.heap.size, 8, none⟩ = some (.string ⟨#[]⟩) := HRB.out.cell 8
          have z9 : W9.cell? ⟨w.heap.size, 9, none⟩ = some (.bool false) := HRB.out.cell 9
          have z10 : W9.cell? ⟨w.heap.size, 10, none⟩ = some (.string ⟨#[]⟩) := HRB.out.cell 10
          have z11 : W9.cell? ⟨w.heap.size, 11, none⟩ = some (.bool false) := HRB.out.cell 11
          have z12 : W9.cell? ⟨w.heap.size, 12, none⟩ = some (.string ⟨#[]⟩) := HRB.out.cell 12
          refine bodyPost_ret (v := .tuple #[.agg #[(.string ⟨#[]⟩), (.string ⟨#[]⟩), (.string ⟨#[]⟩), (.int .i64 0), (.string ⟨#[]⟩), (.int .i64 0), (.int .i64 0), (.slice none 0 0), (.string ⟨#[]⟩), (.bool false), (.string ⟨#[]⟩), (.bool false), (.string ⟨#[]⟩)], .bool false]) (by simp [results, Tryz.results11, go_sem, z0, z1, z2, z3, z4, z5, z6, z7, z8, z9, z10, z11, z12]) rfl ?_
          exact ⟨.slice none 0 0, by unfold getP getB; rw [HO.out]; rfl, by unfold getP; rw [HO.out]; exact ownS_nil _ _, HBB.out⟩
      · have hpi : (12 : Int) < (q.ps.length : Int) := by omega
        have HO : Hid (getO s.data.toList = none) := by show _ = _; unfold getO; rw [if_pos (by simp; omega), HRR.out]; show (if _ then _ else _) = _; rw [if_neg (fun h => hp h.1)]
        have HZ : Hid (Blk w.heap.size #[(.string ⟨#[]⟩), (.string ⟨#[]⟩), (.string ⟨#[]⟩), (.int .i64 0), (.string ⟨#[]⟩), (.int .i64 0), (.int .i64 0), (.slice none 0 0), (.string ⟨#[]⟩), (.bool false), (.string ⟨#[]⟩), (.bool false), (.string ⟨#[]⟩)] 27 W3) := HZ3.out
        have HBW : Hid (Below w.heap.size w W3) := HB3.out
        subst hV
        clear hU hO hst HRR HZ3 HB3 HL3 HS3 HU HOW CW
        go_wp2
        have HRB : Hid (Blk w.heap.size #[(.string ⟨#[]⟩), (.string ⟨#[]⟩), (.string ⟨#[]⟩), (.int .i64 0), (.string ⟨#[]⟩), (.int .i64 0), (.int .i64 0), (.slice none 0 0), (.string ⟨#[]⟩), (.bool false), (.string ⟨#[]⟩), (.bool false), (.string ⟨#[]⟩)] 27 (((((((((((((W3.setCell ⟨w.heap.size, 0, none⟩ (.string ⟨#[]⟩)).setCell ⟨w.heap.size, 1, none⟩ (.string ⟨#[]⟩)).setCell ⟨w.heap.size, 2, none⟩ (.string ⟨#[]⟩)).setCell ⟨w.heap.size, 3, none⟩ (.int .i64 0)).setCell ⟨w.heap.size, 4, none⟩ (.string ⟨#[]⟩)).setCell ⟨w.heap.size, 5, none⟩ (.int .i64 0)).setCell ⟨w.heap.size, 6, none⟩ (.int .i64 0)).setCell ⟨w.heap.size, 7, none⟩ (.slice none 0 0)).setCell ⟨w.heap.size, 8, none⟩ (.string ⟨#[]⟩)).setCell ⟨w.heap.size, 9, none⟩ (.bool false)).setCell ⟨w.heap.size, 10, none⟩ (.string ⟨#[]⟩)).setCell ⟨w.heap.size, 11, none⟩ (.bool false)).setCell ⟨w.heap.size, 12, none⟩ (.string ⟨#[]⟩))) := HZ.out.put13 _ _ _ _ _ _ _ _ _ _ _ _ _
        have HBB : Hid (Below w.heap.size w (((((((((((((W3.setCell ⟨w.heap.size, 0, none⟩ (.string ⟨#[]⟩)).setCell ⟨w.heap.size, 1, none⟩ (.string ⟨#[]⟩)).setCell ⟨w.heap.size, 2, none⟩ (.string ⟨#[]⟩)).setCell ⟨w.heap.size, 3, none⟩ (.int .i64 0)).setCell ⟨w.heap.size, 4, none⟩ (.string ⟨#[]⟩)).setCell ⟨w.heap.size, 5, none⟩ (.int .i64 0)).setCell ⟨w.heap.size, 6, none⟩ (.int .i64 0)).setCell ⟨w.heap.size, 7, none⟩ (.slice none 0 0)).setCell ⟨w.heap.size, 8, none⟩ (.string ⟨#[]⟩)).setCell ⟨w.heap.size, 9, none⟩ (.bool false)).setCell ⟨w.heap.size, 10, none⟩ (.string ⟨#[]⟩)).setCell ⟨w.heap.size, 11, none⟩ (.bool false)).setCell ⟨w.heap.size, 12, none⟩ (.string ⟨#[]⟩))) := below_put13 HBW.out (Nat.le_refl _) _ _ _ _ _ _ _ _ _ _ _ _ _
        clear HZ HBW
        generalize (((((((((((((W3.setCell ⟨w.heap.size, 0, none⟩ (.string ⟨#[]⟩)).setCell ⟨w.heap.size, 1, none⟩ (.string ⟨#[]⟩)).setCell ⟨w.heap.size, 2, none⟩ (.string ⟨#[]⟩)).setCell ⟨w.heap.size, 3, none⟩ (.int .i64 0)).setCell ⟨w.heap.size, 4, none⟩ (.string ⟨#[]⟩)).setCell ⟨w.heap.size, 5, none⟩ (.int .i64 0)).setCell ⟨w.heap.size, 6, none⟩ (.int .i64 0)).setCell ⟨w.heap.size, 7, none⟩ (.slice none 0 0)).setCell ⟨w.heap.size, 8, none⟩ (.string ⟨#[]⟩)).setCell ⟨w.heap.size, 9, none⟩ (.bool false)).setCell ⟨w.heap.size, 10, none⟩ (.string ⟨#[]⟩)).setCell ⟨w.heap.size, 11, none⟩ (.bool false)).setCell ⟨w.heap.size, 12, none⟩ (.string ⟨#[]⟩)) = W9 at *
        clear z0 y0 z1 y1 z2 y2 z3 y3 z4 y4 z5 y5 z6 y6 z7 y7 z8 y8 z9 y9 z10 y10 z11 y11 z12 y12
        have z0 : W9.cell? ⟨w.heap.size, 0, none⟩ = some (.string ⟨#[]⟩) := HRB.out.cell 0
        have z1 : W9.cell? ⟨w.heap.size, 1, none⟩ = some (.string ⟨#[]⟩) := HRB.out.cell 1
        have z2 : W9.cell? ⟨w.heap.size, 2, none⟩ = some (.string ⟨#[]⟩) := HRB.out.cell 2
        have z3 : W9.cell? ⟨w.heap.size, 3, none⟩ = some (.int .i64 0) := HRB.out.cell 3
        have z4 : W9.cell? ⟨w.heap.size, 4, none⟩ = some (.string ⟨#[]⟩) := HRB.out.cell 4
        have z5 : W9.cell? ⟨w.heap.size, 5, none⟩ = some (.int .i64 0) := HRB.out.cell 5
        have z6 : W9.cell? ⟨w.heap.size, 6, none⟩ = some (.int .i64 0) := HRB.out.cell 6
        have z7 : W9.cell? ⟨w.heap.size, 7, none⟩ = some (.slice none 0 0) := HRB.out.cell 7
        have z8 : W9.cell? ⟨w.heap.size, 8, none⟩ = some (.string ⟨#[]⟩) := HRB.out.cell 8
        have z9 : W9.cell? ⟨w.heap.size, 9, none⟩ = some (.bool false) := HRB.out.cell 9
        have z10 : W9.cell? ⟨w.heap.size, 10, none⟩ = some (.string ⟨#[]⟩) := HRB.out.cell 10
        have z11 : W9.cell? ⟨w.heap.size, 11, none⟩ = some (.bool false) := HRB.out.cell 11
        have z12 : W9.cell? ⟨w.heap.size, 12, none⟩ = some (.string ⟨#[]⟩) := HRB.out.cell 12
        refine bodyPost_ret (v := .tuple #[.agg #[(.string ⟨#[]⟩), (.string ⟨#[]⟩), (.string ⟨#[]⟩), (.int .i64 0), (.string ⟨#[]⟩), (.int .i64 0), (.int .i64 0), (.slice none 0 0), (.string ⟨#[]⟩), (.bool false), (.string ⟨#[]⟩), (.bool false), (.string ⟨#[]⟩)], .bool false]) (by simp [results, Tryz.results11, go_sem, z0, z1, z2, z3, z4, z5, z6, z7, z8, z9, z10, z11, z12]) rfl ?_
        exact ⟨.slice none 0 0, by unfold getP getB; rw [HO.out]; rfl, by unfold getP; rw [HO.out]; exact ownS_nil _ _, HBB.out⟩
  · have hbi : (200 : Int) < (s.size : Int) := by omega
    have HO : Hid (getO s.data.toList = none) := by show _ = _; unfold getO; rw [if_neg (by omega)]
    clear hln
    go_enter Tryz.func11, Tryz.ntmps11
    go_wp2
    exact bodyPost_ret (v := .tuple #[.agg #[(.string ⟨#[]⟩), (.string ⟨#[]⟩), (.string ⟨#[]⟩), (.int .i64 0), (.string ⟨#[]⟩), (.int .i64 0), (.int .i64 0), (.slice none 0 0), (.string ⟨#[]⟩), (.bool false), (.string ⟨#[]⟩), (.bool false), (.string ⟨#[]⟩)], .bool false]) (by simp [results, Tryz.results11, go_sem]) rfl ⟨.slice none 0 0, by unfold getP getB; rw [HO.out]; rfl, by unfold getP; rw [HO.out]; exact ownS_nil _ _, (Below.refl _ w).alloc (Nat.le_refl _) _⟩
end Go.Proofs.YticbekooadnnlaaGreatDoor
end

section
set_option linter.unusedVariables false
set_option linter.unusedSimpArgs false
namespace Go.Proofs.YticbekooadnnlaaGreatDoor
open Go.RowKit Go.Shelf

def laidRow (k : IntKind) (cs : List Int) : Obj → Obj
  | .cells _ t frozen => .cells (cs.map (Value.int k)).toArray t frozen
  | o => o
def eofRow (g : Nat) : Obj → Obj
  | .cells _ t frozen => .cells #[.iface 125 (.pointer (some ⟨g, 0, none⟩))] t frozen
  | o => o
theorem max_shaped {W : World} (h : W.ShapedOpen Tryz.prog) : ∃ m, W.cell? ⟨1, 0, none⟩ = some (.int .i64 m) :=
  Go.Proofs.cell_of_shapedOpen_int (zero := #[.int .i64 0]) (t := 3) h (of_decide_eq_true (by kernel_rfl)) (by kernel_rfl) rfl (by kernel_rfl) (by kernel_rfl) Tryz.underlying3
theorem row_eof (u : TypeId) (h : Tryz.prog.typeName? 3 u = some "*errors.errorString") : u = 125 :=
  typeName_ptr_named (nm := "errors.errorString") (by rw [show "*" ++ "errors.errorString" = "*errors.errorString" by decide]; kernel_rfl) (by kernel_rfl) (by decide) u (by rw [show "*" ++ "errors.errorString" = "*errors.errorString" by decide]; exact h)
theorem pow10_named : Tryz.prog.globalNamed "internal/strconv.uint64pow10" = some 4 := by kernel_rfl
theorem lean1_laid {W : World} (h : laidMet Tryz.prog Rows.fnUrlTextRow.laid W) (hsh : W.ShapedOpen Tryz.prog) : Lean1 W := by
  have h1 : laidMet Tryz.prog (("internal/strconv.uint64pow10", Rows.laid_internal_strconv_uint64pow10) :: ("unicode/utf8.acceptRanges", Rows.laid_unicode_utf8_acceptRanges) :: ("io.EOF", Rows.laid_io_EOF) :: ("unicode/utf8.first", Rows.laid_unicode_utf8_first) :: []) W := laidMet.tail (laidMet.tail h)
  have h2 : laidMet Tryz.prog (("io.EOF", Rows.laid_io_EOF) :: ("unicode/utf8.first", Rows.laid_unicode_utf8_first) :: []) W := laidMet.tail (laidMet.tail h1)
  have e : (Rows.laid_internal_strconv_uint64pow10 : DataW Unit) = Lib.tabData .u64 Lib.pow10Tab := by kernel_rfl
  rw [e] at h1
  have ht : Lib.TabIs Tryz.prog W "internal/strconv.uint64pow10" .u64 Lib.pow10Tab := Lib.tabIs_of_head pow10_named (by kernel_rfl) Tryz.underlying150 Tryz.underlying132 (by kernel_rfl) (by kernel_rfl) h1
  have hlt : 4 < W.heap.size := cell_in (ht.cell pow10_named 0 (by decide))
  have hg : Tryz.prog.globalNamed "io.EOF" = some 0 := by kernel_rfl
  obtain ⟨a, s, hv, _⟩ := laid_sentinel h2 hg (by kernel_rfl) Tryz.underlying73 row_eof Tryz.underlying125 Tryz.underlying127 rfl rfl Tryz.underlying9 (by kernel_rfl) (by kernel_rfl)
  have hc := World.var?_cell hg hv 0
  exact ⟨⟨max_shaped hsh, hlt, ht⟩, ⟨_, _, by simpa using hc⟩⟩
end Go.Proofs.YticbekooadnnlaaGreatDoor
end

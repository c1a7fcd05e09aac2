/- Plain facts: one byte taken away everywhere, and so line ends and tabs. Facts on worlds that the later texts share. impl.urlTrim: what cannot be seen at the ends, and line ends and tabs, taken away. How great an address is that was read. -/
import Derived.Test.YtnfhajhdpdidlaaGreatDoorB04
import Derived.Test.YtnfhajhdpdidlaaGreatDoorB12
import Derived.Test.YtnfhajhdpdidlaaGreatDoorB01
import Derived.Test.YtnfhajhdpdidlaaGreatDoorB05
import Derived.Test.YtnfhajhdpdidlaaGreatDoorB06
import Derived.Test.YtnfhajhdpdidlaaGreatDoorB02
import Derived.Deep.RegionWith
import Derived.Test.YtnfhajhdpdidlaaGreatDoorB10
import Derived.Test.YtnfhajhdpdidlaaGreatDoorB13
set_option linter.unusedVariables false
set_option linter.unusedSimpArgs false
set_option maxHeartbeats 4000000
set_option maxRecDepth 100000
section
namespace Go.Proofs.YtnfhajhdpdidlaaGreatDoor
open Go.RowKit Go.Shelf
theorem rep_del (b : UInt8) (l : List UInt8) : Lib.replaceAll l [b] [] = l.filter (fun x => x != b) := by
 induction l with
 | nil => rw [rep_nil _ _ (by simp) (by simp)]; rfl
 | cons x l ih =>
  by_cases hx : x = b
  ·subst hx
   rw [rep_pre x l [x] [] (by simp) (by simp) (by simp [List.isPrefixOf])]
   simp at ih ⊢
   exact ih
  ·rw [rep_not x l [b] [] (by simp) (by simp) (by simp [List.isPrefixOf]; exact fun e => hx e.symm), ih]
   simp [hx]
def stays (c : UInt8) : Bool := !(c == 13 || c == 10 || c == 9)
def dropT (l : List UInt8) : List UInt8 := l.filter stays
theorem drop_three (l : List UInt8) : ((l.filter (fun x => x != 9)).filter (fun x => x != 10)).filter (fun x => x != 13) = dropT l := by
 unfold dropT
 rw [List.filter_filter, List.filter_filter]
 congr 1
 funext c
 unfold stays
 simp [bne, Bool.and_assoc]
theorem Blk.other {w : World} {g : Nat} {A : Array Value} {t : TypeId} (h : Blk g A t w) (g' j : Nat) (v : Value) (hne : g ≠ g') : Blk g A t (w.setCell ⟨g', j, none⟩ v) := (Below.heap_setCell _ _ _ _ (fun e => hne (by simpa using e))).trans h
theorem OwnS.ne {B g n c b : Nat} {A : Array Value} {t : TypeId} {ps : List (List UInt8)} {w : World} (h : OwnS B (.slice (some ⟨g, 0, none⟩) n c) ps w) (hK : Blk b A t w) (ht : t ≠ 9) : b ≠ g := by
 rcases h.2 with ⟨hv, h0⟩ | ⟨g', cap, cur, hv, hB, hg, hnc, hcm, hcs, htk⟩
 ·cases hv
 ·simp only [Value.slice.injEq, Option.some.injEq, Addr.mk.injEq, and_true] at hv
  obtain ⟨rfl, hn, rfl⟩ := hv
  intro e
  subst e
  have hK' : w.heap[b]? = some (.cells A t (0, 0)) := hK
  rw [hg] at hK'
  simp only [Option.some.injEq, Obj.cells.injEq] at hK'
  exact ht hK'.2.1.symm
end Go.Proofs.YtnfhajhdpdidlaaGreatDoor
end
section
namespace Go.Proofs.YtnfhajhdpdidlaaGreatDoor
open Go.RowKit Go.Shelf
def low32 (c : UInt8) : Bool := decide (c.toNat ≤ 32)
def midL (l : List UInt8) : List UInt8 := ((l.dropWhile low32).reverse.dropWhile low32).reverse
def trimL (l : List UInt8) : List UInt8 := dropT (midL l)
theorem dw_eq (l : List UInt8) (k : Nat) (h : ∀ c ∈ l.take k, low32 c = true) (hn : ∀ c, l[k]? = some c → low32 c = false) : l.dropWhile low32 = l.drop k := by
 have e : l = l.take k ++ l.drop k := (List.take_append_drop k l).symm
 conv => lhs; rw [e]
 rw [List.dropWhile_append_of_pos h]
 cases hd : l.drop k with
 | nil => rfl
 | cons c r =>
  have : l[k]? = some c := by rw [← List.head?_drop, hd]; rfl
  rw [List.dropWhile_cons, if_neg (by rw [hn c this]; decide)]
theorem dw_rev (m : List UInt8) (k : Nat) (hk : k ≤ m.length) (h : ∀ c ∈ m.drop k, low32 c = true) (hn : ∀ j, k = j + 1 → ∀ c, m[j]? = some c → low32 c = false) : (m.reverse.dropWhile low32).reverse = m.take k := by
 have e : m.reverse.dropWhile low32 = m.reverse.drop (m.length - k) := by
  apply dw_eq
  ·intro c hc
   apply h
   rw [List.take_reverse] at hc
   rw [show m.length - (m.length - k) = k by omega] at hc
   simpa using hc
  ·intro c hc
   cases k with
   | zero => rw [List.getElem?_eq_none (by simp)] at hc; cases hc
   | succ j =>
    apply hn j rfl
    rw [List.getElem?_reverse (by omega)] at hc
    rw [show m.length - 1 - (m.length - (j + 1)) = j by omega] at hc
    exact hc
 rw [e, List.drop_reverse, List.reverse_reverse]
 rw [show m.length - (m.length - k) = k by omega]
theorem mid_eq (l : List UInt8) (f t : Nat) (hft : f ≤ t) (ht : t ≤ l.length) (h1 : ∀ c ∈ l.take f, low32 c = true) (h2 : ∀ c, l[f]? = some c → low32 c = false) (h3 : ∀ c ∈ l.drop t, low32 c = true) (h4 : ∀ j, t = j + 1 → f ≤ j → ∀ c, l[j]? = some c → low32 c = false) : midL l = (l.drop f).take (t - f) := by
 unfold midL
 rw [dw_eq l f h1 h2]
 apply dw_rev
 ·rw [List.length_drop]; omega
 ·intro c hc
  rw [List.drop_drop, show f + (t - f) = t by omega] at hc
  exact h3 c hc
 ·intro j hj c hc
  rw [List.getElem?_drop] at hc
  exact h4 (f + j) (by omega) (by omega) c hc
theorem mid_len (l : List UInt8) : (midL l).length ≤ l.length := by
 unfold midL
 rw [List.length_reverse]
 have h1 := (List.dropWhile_sublist (l := (l.dropWhile low32).reverse) low32).length_le
 have h2 := (List.dropWhile_sublist (l := l) low32).length_le
 rw [List.length_reverse] at h1
 omega
theorem trim_len (l : List UInt8) : (trimL l).length ≤ l.length := by
 have h1 : (trimL l).length ≤ (midL l).length := List.length_filter_le _ _
 have := mid_len l
 omega
theorem ext_list (s : ByteArray) (f t : Nat) (hft : f ≤ t) (ht : t ≤ s.size) : (s.extract f t).data.toList = (s.data.toList.drop f).take (t - f) := by
 rw [ByteArray.data_extract, Array.toList_extract]
theorem below_then {B r : Nat} {w w1 w2 : World} (b : Below B w w1) (g : w1.grownBy w2 (some r)) (hB : B ≤ w1.heap.size) (hr : B ≤ r) : Below B w w2 := b.grown g hB (fun k hk => by simp at hk; omega)
theorem slice_text (s : ByteArray) (f t : Nat) (W : World) (hft : f ≤ t) (ht : t ≤ s.size) : (Instr.slice 9 (.string s) (some (.int .i64 (f : Int))) (some (.int .i64 (t : Int))) none).run Tryz.prog W = .ok (.string (s.extract f t)) W := by
 have := run_slice_string (P := Tryz.prog) (w := W) 9 s .i64 .i64 (f : Int) (t : Int) Tryz.underlying9 (by omega) (by omega) (by omega)
 simpa using this
theorem delA (x : ByteArray) (c : UInt8) (m : Int) (W : World) (hx : x.size ≤ 1000) (hm : W.cell? ⟨0, 0, none⟩ = some (.int .i64 m)) :
  Calls Tryz.prog 88 #[.string x, .string ⟨#[c]⟩, .string ⟨#[]⟩] W fun e w' => e = .returned (.string (mk (x.data.toList.filter (fun y => y != c)))) ∧ Below W.heap.size W w' := by
 refine (Tryz.strings_ReplaceAll x ⟨#[c]⟩ ⟨#[]⟩ m W (by omega) hm (Nat.le_refl 1) ?_).mono ?_
 ·have := Lib.countB_le ⟨#[c]⟩ (Nat.le_refl 1) x.size x (Nat.le_refl _)
  have e : (⟨#[]⟩ : ByteArray).size = 0 := rfl
  rw [e]; omega
 ·rintro e w' ⟨rfl, b⟩
  refine ⟨?_, b⟩
  show Ending.returned (.string ⟨(Lib.replaceAll x.data.toList [c] []).toArray⟩) = _
  rw [rep_del]; rfl
theorem urlTrim (s : ByteArray) (w : World) (hs : s.size ≤ 1000) (hm : ∃ m, w.cell? ⟨0, 0, none⟩ = some (.int .i64 m)) :
  Calls Tryz.prog 55 #[.string s] w fun e w' => e = .returned (.string (mk (trimL s.data.toList))) ∧ Below w.heap.size w w' := by
 obtain ⟨m, hm⟩ := hm
 have HLN : Hid (s.data.toList.length = s.size) := by show _ = _; simp
 have HG0 : Hid (0 < w.heap.size) := cell_in hm
 have C3 : Hid (∀ (X : ByteArray), X.size ≤ 1000 → Calls Tryz.prog 88 #[.string X, .string ⟨#[9]⟩, .string ⟨#[]⟩] w fun e w1 => ∃ y, e = .returned (.string y) ∧ Hid (y.size ≤ 1000 ∧ y.data.toList = X.data.toList.filter (fun y => y != 9)) ∧ Below w.heap.size w w1) := fun X hX => by
  refine (delA X 9 m w hX hm).mono ?_
  rintro e w1 ⟨rfl, d1⟩
  refine ⟨_, rfl, ⟨?_, ?_⟩, d1⟩
  ·rw [mk_size]; have := List.length_filter_le (fun y => y != 9) X.data.toList; have e : X.data.toList.length = X.size := by simp
   omega
  ·simp [mk]
 have C4 : Hid (∀ (y : ByteArray) (l : List UInt8) W, y.size ≤ 1000 ∧ y.data.toList = l → Below w.heap.size w W → Calls Tryz.prog 88 #[.string y, .string ⟨#[10]⟩, .string ⟨#[]⟩] W fun e w1 => ∃ z, e = .returned (.string z) ∧ Hid (z.size ≤ 1000 ∧ z.data.toList = l.filter (fun y => y != 10)) ∧ Below w.heap.size w w1) := fun y l W ⟨hy, hl⟩ d => by
  refine (delA y 10 m W hy ((d.cell HG0.out).trans hm)).mono ?_
  rintro e w1 ⟨rfl, d1⟩
  refine ⟨_, rfl, ⟨?_, ?_⟩, d.trans (d1.mono d.size)⟩
  ·rw [mk_size]; have := List.length_filter_le (fun y => y != 10) y.data.toList; have e : y.data.toList.length = y.size := by simp
   omega
  ·rw [← hl]; simp [mk]
 have C5 : Hid (∀ (X z : ByteArray) W, z.size ≤ 1000 ∧ z.data.toList = (X.data.toList.filter (fun y => y != 9)).filter (fun y => y != 10) → Below w.heap.size w W → Calls Tryz.prog 88 #[.string z, .string ⟨#[13]⟩, .string ⟨#[]⟩] W fun e w1 => e = .returned (.string (mk (dropT X.data.toList))) ∧ Below w.heap.size w w1) := fun X z W ⟨hz, hl⟩ d => by
  refine (delA z 13 m W hz ((d.cell HG0.out).trans hm)).mono ?_
  rintro e w1 ⟨rfl, d1⟩
  refine ⟨?_, d.trans (d1.mono d.size)⟩
  rw [hl, drop_three]
 clear hm HG0
 go_enter Tryz.func55, Tryz.ntmps55
 go_wp2
 go_loop [3] (fun i => ∃ k : Nat, k ≤ s.size ∧ i = .int .i64 (k : Int) ∧ Hid (∀ c ∈ s.data.toList.take k, low32 c = true)) (fun i => s.size - (intOf i).toNat)
 case atStart => exact ⟨0, Nat.zero_le _, rfl, by intro c hc; simp at hc⟩
 case round =>
  obtain ⟨f, hf, rfl, HF⟩ := hrel
  by_cases hgo : ∃ hp : f < s.size, low32 s[f] = true
  ·obtain ⟨hp, hl⟩ := hgo
   have hpi : (f : Int) < (s.size : Int) := by omega
   have hb : (s[f].toNat : Int) ≤ 32 := by unfold low32 at hl; have := of_decide_eq_true hl; omega
   have HF2 : Hid (∀ c ∈ s.data.toList.take (f + 1), low32 c = true) := by
    intro c hc
    rw [List.take_succ_eq_append_getElem (by have := HLN.out; omega)] at hc
    rcases List.mem_append.1 hc with hc | hc
    ·exact HF.out c hc
    ·simp at hc; rw [hc]; exact hl
   clear hl
   go_wp2
   go_round
   case rel => exact ⟨f + 1, by omega, by go_num, HF2⟩
   case measure => simp [intOf]; omega
  ·have HS2 : Hid (∀ c, s.data.toList[f]? = some c → low32 c = false) := by
    intro c hc
    by_cases hp : f < s.size
    ·rw [List.getElem?_eq_getElem (by have := HLN.out; omega)] at hc
     simp at hc
     cases hl : low32 c with
     | false => rfl
     | true => exact absurd ⟨hp, by rw [← hl, ← hc]; rfl⟩ hgo
    ·rw [List.getElem?_eq_none (by have := HLN.out; omega)] at hc; cases hc
   have hstop : ((f : Int) < (s.size : Int)) ∨ ¬ ((f : Int) < (s.size : Int)) := by omega
   have HG : Hid (∀ hp : f < s.size, (32 : Int) < (s[f].toNat : Int)) := by
    intro hp
    have := HS2.out s[f] (by rw [List.getElem?_eq_getElem (by have := HLN.out; omega)]; rfl)
    unfold low32 at this
    have := of_decide_eq_false this
    show _ < _
    omega
   clear hgo hstop
   by_cases hp : f < s.size
   ·have hpi : (f : Int) < (s.size : Int) := by omega
    have hbf := HG.out hp
    clear HG
    go_wp2
    go_loop [4] (fun i => ∃ t : Nat, f ≤ t ∧ t ≤ s.size ∧ i = .int .i64 (t : Int) ∧ Hid (∀ c ∈ s.data.toList.drop t, low32 c = true)) (fun i => (intOf i).toNat)
    case atStart => exact ⟨s.size, hf, Nat.le_refl _, rfl, by intro c hc; rw [List.drop_of_length_le (by have := HLN.out; omega)] at hc; cases hc⟩
    case round =>
     obtain ⟨t, hft, ht, rfl, HD⟩ := hrel
     by_cases hgo : ∃ j, ∃ hp : j < s.size, t = j + 1 ∧ f ≤ j ∧ low32 s[j] = true
     ·obtain ⟨j, hp, rfl, hfj, hl⟩ := hgo
      have hpi : (j : Int) < (s.size : Int) := by omega
      have hfi : (f : Int) < ((j + 1 : Nat) : Int) := by omega
      have hb : (s[j].toNat : Int) ≤ 32 := by unfold low32 at hl; have := of_decide_eq_true hl; omega
      have HD2 : Hid (∀ c ∈ s.data.toList.drop j, low32 c = true) := by
       intro c hc
       rw [List.drop_eq_getElem_cons (by have := HLN.out; omega)] at hc
       rcases List.mem_cons.1 hc with hc | hc
       ·rw [hc]; exact hl
       ·exact HD.out c hc
      have HZ : Hid (((j + 1 : Nat) : Int).toNat = j + 1) := by show _ = _; omega
      have HE : ((j + 1 : Nat) : Int) - 1 = (j : Int) := by omega
      clear hl
      generalize ((j + 1 : Nat) : Int) = z at *
      go_wp2
      go_round
      case rel => exact ⟨j, hfj, by omega, by go_num, HD2⟩
      case measure => have := HZ.out; simp [intOf]; omega
     ·obtain ⟨X, hX⟩ : ∃ X, X = s.extract f t := ⟨_, rfl⟩
      have HM : Hid (trimL s.data.toList = dropT X.data.toList) := by
       show _ = _
       unfold trimL
       rw [hX, ext_list s f t hft ht, mid_eq s.data.toList f t hft (by have := HLN.out; omega) HF.out HS2.out HD.out]
       intro j hj hfj c hc
       have hjs : j < s.size := by omega
       rw [List.getElem?_eq_getElem (by have := HLN.out; omega)] at hc
       simp at hc
       cases hl : low32 c with
       | false => rfl
       | true => exact absurd ⟨j, hjs, hj, hfj, by rw [← hl, ← hc]; rfl⟩ hgo
      have HX : Hid (∀ j (hp : j < s.size), t = j + 1 → f ≤ j → (32 : Int) < (s[j].toNat : Int)) := by
       intro j hp hj hfj
       cases hl : low32 s[j] with
       | true => exact absurd ⟨j, hp, hj, hfj, hl⟩ hgo
       | false => unfold low32 at hl; have := of_decide_eq_false hl; show _ < _; omega
      have hxs : X.size ≤ 1000 := by rw [hX, ByteArray.size_extract]; omega
      have HSL : Hid (∀ W : World, (Instr.slice 9 (.string s) (some (.int .i64 (f : Int))) (some (.int .i64 (t : Int))) none).run Tryz.prog W = .ok (.string X) W) := fun W => by rw [hX]; exact slice_text s f t W hft ht
      clear hX
      clear hgo
      by_cases hlt : f < t
      ·obtain ⟨j, rfl⟩ : ∃ j, t = j + 1 := ⟨t - 1, by omega⟩
       have hp : j < s.size := by omega
       have hb := HX.out j hp rfl (by omega)
       have hpi : (j : Int) < (s.size : Int) := by omega
       have hfi : (f : Int) < ((j + 1 : Nat) : Int) := by omega
       have HE : ((j + 1 : Nat) : Int) - 1 = (j : Int) := by omega
       have hz0 : ((j + 1 : Nat) : Int) ≤ (s.size : Int) := by omega
       have HZ : ((j + 1 : Nat) : Int).toNat = j + 1 := by omega
       clear HX
       have hsl := HSL.out
       generalize ((j + 1 : Nat) : Int) = z at *
       go_wp2_with fail
       refine (C3.out X hxs).mono ?_
       rintro e W1 ⟨y, rfl, hy, d1⟩
       go_wp2_with fail
       refine (C4.out y _ _ hy.out d1).mono ?_
       rintro e W2 ⟨z, rfl, hz, d2⟩
       go_wp2_with fail
       refine (C5.out X z _ hz.out d2).mono ?_
       rintro e W3 ⟨rfl, d3⟩
       go_wp2
       go_ret
       rw [HM.out]
       exact ⟨rfl, d3⟩
      ·have hft' : f = t := by omega
       subst hft'
       have hz0 : (f : Int) ≤ (s.size : Int) := by omega
       have hsl := HSL.out
       clear HX
       go_wp2_with fail
       refine (C3.out X hxs).mono ?_
       rintro e W1 ⟨y, rfl, hy, d1⟩
       go_wp2_with fail
       refine (C4.out y _ _ hy.out d1).mono ?_
       rintro e W2 ⟨z, rfl, hz, d2⟩
       go_wp2_with fail
       refine (C5.out X z _ hz.out d2).mono ?_
       rintro e W3 ⟨rfl, d3⟩
       go_wp2
       go_ret
       rw [HM.out]
       exact ⟨rfl, d3⟩
   ·have hpi : ¬ ((f : Int) < (s.size : Int)) := by omega
    clear HG
    go_wp2
    go_loop [4] (fun i => ∃ t : Nat, f ≤ t ∧ t ≤ s.size ∧ i = .int .i64 (t : Int) ∧ Hid (∀ c ∈ s.data.toList.drop t, low32 c = true)) (fun i => (intOf i).toNat)
    case atStart => exact ⟨s.size, hf, Nat.le_refl _, rfl, by intro c hc; rw [List.drop_of_length_le (by have := HLN.out; omega)] at hc; cases hc⟩
    case round =>
     obtain ⟨t, hft, ht, rfl, HD⟩ := hrel
     by_cases hgo : ∃ j, ∃ hp : j < s.size, t = j + 1 ∧ f ≤ j ∧ low32 s[j] = true
     ·obtain ⟨j, hp, rfl, hfj, hl⟩ := hgo
      have hpi : (j : Int) < (s.size : Int) := by omega
      have hfi : (f : Int) < ((j + 1 : Nat) : Int) := by omega
      have hb : (s[j].toNat : Int) ≤ 32 := by unfold low32 at hl; have := of_decide_eq_true hl; omega
      have HD2 : Hid (∀ c ∈ s.data.toList.drop j, low32 c = true) := by
       intro c hc
       rw [List.drop_eq_getElem_cons (by have := HLN.out; omega)] at hc
       rcases List.mem_cons.1 hc with hc | hc
       ·rw [hc]; exact hl
       ·exact HD.out c hc
      have HZ : Hid (((j + 1 : Nat) : Int).toNat = j + 1) := by show _ = _; omega
      have HE : ((j + 1 : Nat) : Int) - 1 = (j : Int) := by omega
      clear hl
      generalize ((j + 1 : Nat) : Int) = z at *
      go_wp2
      go_round
      case rel => exact ⟨j, hfj, by omega, by go_num, HD2⟩
      case measure => have := HZ.out; simp [intOf]; omega
     ·obtain ⟨X, hX⟩ : ∃ X, X = s.extract f t := ⟨_, rfl⟩
      have HM : Hid (trimL s.data.toList = dropT X.data.toList) := by
       show _ = _
       unfold trimL
       rw [hX, ext_list s f t hft ht, mid_eq s.data.toList f t hft (by have := HLN.out; omega) HF.out HS2.out HD.out]
       intro j hj hfj c hc
       have hjs : j < s.size := by omega
       rw [List.getElem?_eq_getElem (by have := HLN.out; omega)] at hc
       simp at hc
       cases hl : low32 c with
       | false => rfl
       | true => exact absurd ⟨j, hjs, hj, hfj, by rw [← hl, ← hc]; rfl⟩ hgo
      have HX : Hid (∀ j (hp : j < s.size), t = j + 1 → f ≤ j → (32 : Int) < (s[j].toNat : Int)) := by
       intro j hp hj hfj
       cases hl : low32 s[j] with
       | true => exact absurd ⟨j, hp, hj, hfj, hl⟩ hgo
       | false => unfold low32 at hl; have := of_decide_eq_false hl; show _ < _; omega
      have hxs : X.size ≤ 1000 := by rw [hX, ByteArray.size_extract]; omega
      have HSL : Hid (∀ W : World, (Instr.slice 9 (.string s) (some (.int .i64 (f : Int))) (some (.int .i64 (t : Int))) none).run Tryz.prog W = .ok (.string X) W) := fun W => by rw [hX]; exact slice_text s f t W hft ht
      clear hX
      clear hgo
      by_cases hlt : f < t
      ·omega
      ·have hft' : f = t := by omega
       subst hft'
       have hz0 : (f : Int) ≤ (s.size : Int) := by omega
       have hsl := HSL.out
       clear HX
       go_wp2_with fail
       refine (C3.out X hxs).mono ?_
       rintro e W1 ⟨y, rfl, hy, d1⟩
       go_wp2_with fail
       refine (C4.out y _ _ hy.out d1).mono ?_
       rintro e W2 ⟨z, rfl, hz, d2⟩
       go_wp2_with fail
       refine (C5.out X z _ hz.out d2).mono ?_
       rintro e W3 ⟨rfl, d3⟩
       go_wp2
       go_ret
       rw [HM.out]
       exact ⟨rfl, d3⟩
end Go.Proofs.YtnfhajhdpdidlaaGreatDoor
end
section
namespace Go.Proofs.YtnfhajhdpdidlaaGreatDoor
open Go.RowKit Go.Shelf
structure Fit (p : P) : Prop where
 make ::
 sc : p.sc.size ≤ 1000
 us : p.us.size ≤ 600
 pw : p.pw.size ≤ 600
 hn : p.hn.size ≤ 1000
 op : p.op.size ≤ 600
 qu : p.qu.size ≤ 600
 fr : p.fr.size ≤ 600
 ps : p.ps.length + tot p.ps ≤ 700
 p0 : -1 ≤ p.po
 p1 : p.po ≤ 65535
theorem Fit.tot {p : P} (h : Fit p) : p.tot ≤ 10000 := by
 obtain ⟨a, b, c, d, e, f, g, i, _, _⟩ := h
 unfold P.tot; omega
theorem wrT_size (set : Int) (l : List UInt8) : (wrT set l).size ≤ 600 := by
 unfold wrT encode
 show (List.toArray _).size ≤ 600
 rw [List.size_toArray]
 split
 ·rename_i h
  rw [mk_size] at h
  have := enc_length (isIn set) (mk l).data.toList
  rw [mk_data] at this ⊢
  omega
 ·simp
theorem fit_frag (p : P) (l : List UInt8) (h : Fit p) : Fit (fragP p l) := by
 unfold fragP
 split
 ·exact { h with fr := wrT_size _ _ }
 ·exact h
theorem fit_que (p : P) (l : List UInt8) (h : Fit p) : Fit (queP p l) := by
 unfold queP
 split
 ·exact fit_frag _ _ { h with qu := wrT_size _ _ }
 ·exact fit_frag _ _ h
theorem fit_opq (p : P) (l : List UInt8) (h : Fit p) : Fit (opqP p l) := fit_que _ _ { h with op := wrT_size _ _ }
theorem path_tot (l : List UInt8) : (pathL l).length + tot (pathL l) ≤ 700 := by
 by_cases h : l.length ≤ 200
 ·have := putL_path l
  rw [putL_len] at this
  omega
 ·rw [pathL_great l h]; simp [tot]
theorem fit_pat (p : P) (l : List UInt8) (h : Fit p) : Fit (patP p l) := fit_que _ _ { h with ps := path_tot _ }
theorem portN_le (l : List UInt8) : ∀ (m n : Int), 0 ≤ m → m ≤ 65535 → (∀ c ∈ l, 48 ≤ c.toNat) → portN m l = some n → 0 ≤ n ∧ n ≤ 65535 := by
 induction l with
 | nil => intro m n h0 h1 _ h; simp [portN] at h; omega
 | cons c r ih =>
  intro m n h0 h1 hf h
  have hc := hf c (by simp)
  unfold portN at h
  by_cases hb : 65535 < m * 10 + ((c.toNat : Int) - 48)
  ·rw [if_pos hb] at h; cases h
  ·rw [if_neg hb] at h
   exact ih _ n (by omega) (by omega) (fun d hd => hf d (by simp [hd])) h
theorem figs_low (l : List UInt8) (h : figsL l = true) : ∀ c ∈ l, 48 ≤ c.toNat := by
 intro c hc
 unfold figsL at h
 rw [List.all_eq_true] at h
 have := h c hc
 unfold figB at this
 exact (of_decide_eq_true this).1
theorem portV_le (l : List UInt8) (own : Int) : -1 ≤ portV l own ∧ portV l own ≤ 65535 := by
 by_cases hf : figsL l = true
 ·by_cases he : l = []
  ·subst he; rw [(portL_empty own).1]; decide
  ·cases hp : portN 0 l with
   | none => rw [(portL_none l own hf he hp).1]; decide
   | some n =>
    have := portN_le l 0 n (by decide) (by decide) (figs_low l hf) hp
    by_cases ho : n = own
    ·subst ho; rw [(portL_own l n hf he hp).1]; decide
    ·rw [(portL_some l own n hf he hp ho).1]; omega
 ·rw [(portL_nofig l own (by simpa using hf)).1]; decide
theorem gn_size (l : List UInt8) : (gn l).size ≤ 1000 := by
 unfold gn
 split
 ·unfold hostName
  split
  ·decide
  ·split
   ·rw [mk_size]; unfold readL; rw [low_length]
    have := dec_le l
    omega
   ·decide
 ·decide
theorem fit_who (p : P) (l : List UInt8) (h : Fit p) : Fit (whoP p l) := by
 unfold whoP
 cases atSplit l with
 | none => exact h
 | some q => exact { h with us := wrT_size _ _, pw := wrT_size _ _ }
theorem fit_aut (p : P) (l : List UInt8) (h : Fit p) : Fit (autQ p l) := { fit_who p l h with hn := gn_size _, p0 := (portV_le _ _).1, p1 := (portV_le _ _).2 }
theorem fit_hos (p q : P) (l : List UInt8) (h : Fit p) (e : hosP p l = some q) : Fit q := by
 unfold hosP autP at e
 split at e
 ·simp at e; rw [← e]; exact fit_pat _ _ (fit_aut _ _ h)
 ·simp at e
theorem fit_sch (p q : P) (l : List UInt8) (hl : l.length ≤ 1000) (h : Fit p) (e : schP p l = some q) : Fit q := by
 unfold schP at e
 have h1 : (mk (low (upL [58] l))).size ≤ 1000 := by
  rw [mk_size, low_length]
  have := upL_le [58] l
  omega
 have h2 : Fit { p with sc := mk (low (upL [58] l)), po := -1 } := { h with sc := h1, p0 := (by show (-1 : Int) ≤ -1; decide), p1 := (by show (-1 : Int) ≤ 65535; decide) }
 split at e
 ·split at e
  ·exact fit_hos _ _ _ h2 e
  ·simp at e; rw [← e]; exact fit_opq _ _ h2
 ·cases e
def getO (l : List UInt8) : Option P := if l.length ≤ 200 then (schP P.zero (trimL l)).bind fun q => if q.ps.length ≤ 12 ∧ (writL q).length ≤ 600 then some q else none else none
theorem fit_zero : Fit P.zero := ⟨by decide, by decide, by decide, by decide, by decide, by decide, by decide, by decide, by decide, by decide⟩
end Go.Proofs.YtnfhajhdpdidlaaGreatDoor
end

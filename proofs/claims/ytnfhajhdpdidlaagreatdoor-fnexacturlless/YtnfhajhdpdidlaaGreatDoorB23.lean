/- Plain facts on queries: their pieces and pairs. Nothing of any program. spec.l1At: the place of the first of some bytes. spec.l3Trim. -/
import Derived.Test.YtnfhajhdpdidlaaGreatDoorB04
import Derived.Test.YtnfhajhdpdidlaaGreatDoorB02
import Derived.Test.YtnfhajhdpdidlaaGreatDoorB01
import Derived.BigQuiet
import Derived.Deep.QuietTactic
import Derived.WalkSmall
import Derived.Test.YtnfhajhdpdidlaaGreatDoorB14
set_option linter.unusedVariables false
set_option linter.unusedSimpArgs false
set_option maxHeartbeats 4000000
set_option maxRecDepth 100000
section
namespace Go.Proofs.YtnfhajhdpdidlaaGreatDoor
open Go.RowKit
def notIn (any : List UInt8) (c : UInt8) : Bool := !any.contains c
def aheadL (any l : List UInt8) : List UInt8 := l.takeWhile (notIn any)
def atL (any l : List UInt8) : Nat := (aheadL any l).length
end Go.Proofs.YtnfhajhdpdidlaaGreatDoor
end
section
namespace Go.Proofs.YtnfhajhdpdidlaaGreatDoor
open Go.RowKit Go.Shelf
theorem atL_hit (any l : List UInt8) (i : Nat) (hi : i < l.length) (hno : ∀ j (h : j < l.length), j < i → any.contains l[j] = false) (hy : any.contains l[i] = true) : atL any l = i := by
 induction l generalizing i with
 | nil => simp at hi
 | cons c r ih =>
  unfold atL aheadL
  rw [List.takeWhile_cons]
  cases i with
  | zero =>
   have : notIn any c = false := by unfold notIn; simp at hy ⊢; exact hy
   rw [this]; rfl
  | succ i =>
   have h0 : notIn any c = true := by have := hno 0 (by simp) (by omega); unfold notIn; simp at this ⊢; exact this
   rw [h0]
   have := ih i (by simpa using hi) (fun j h hj => by have := hno (j + 1) (by simpa using h) (by omega); simpa using this) (by simpa using hy)
   unfold atL aheadL at this
   simp [this]
theorem atL_miss (any l : List UInt8) (hno : ∀ j (h : j < l.length), any.contains l[j] = false) : atL any l = l.length := by
 induction l with
 | nil => rfl
 | cons c r ih =>
  unfold atL aheadL
  have h0 : notIn any c = true := by have := hno 0 (by simp); unfold notIn; simp at this ⊢; exact this
  rw [List.takeWhile_cons, h0]
  have := ih (fun j h => by have := hno (j + 1) (by simpa using h); simpa using this)
  unfold atL aheadL at this
  simp [this]
theorem contains_no (t : ByteArray) (c : UInt8) (h : ∀ j (hj : j < t.size), t[j] ≠ c) : t.data.toList.contains c = false := by
 rw [Bool.eq_false_iff]
 intro e
 rw [List.contains_iff_mem] at e
 obtain ⟨j, hj, e⟩ := List.getElem_of_mem e
 exact h j (by simpa using hj) (by rw [← e]; simp; rfl)
theorem contains_yes (t : ByteArray) (c : UInt8) (j : Nat) (hj : j < t.size) (h : t[j] = c) : t.data.toList.contains c = true := by
 rw [List.contains_iff_mem, ← h]
 have e : t.data.toList[j]'(by simpa using hj) = t[j] := by simp; rfl
 rw [← e]; exact List.getElem_mem _
theorem l1At (s t : ByteArray) (w : World) (hs : s.size ≤ 10000000) (ht : t.size ≤ 1000) :
  Calls Tryz.prog 136 #[.string s, .string t] w fun e w' => e = .returned (.int .i64 (atL t.data.toList s.data.toList : Nat)) ∧ Below w.heap.size w w' := by
 have hl : s.data.toList.length = s.size := by simp
 go_enter Tryz.func136, Tryz.ntmps136
 go_wp2
 go_loopw [5] (fun x wr => ∃ i : Nat, i ≤ s.size ∧ x = .int .i64 i ∧ Hid (∀ j (h : j < s.data.toList.length), j < i → t.data.toList.contains s.data.toList[j] = false) ∧ ∃ n, wr = w.drewN n) (fun x wr => s.size - (intOf x).toNat)
 case atStart => exact ⟨0, Nat.zero_le _, rfl, fun j h hj => absurd hj (by omega), 0, rfl⟩
 case round =>
  obtain ⟨i, hi, rfl, HN, n, rfl⟩ := hrel
  by_cases hp : i < s.size
  ·have hpi : (i : Int) < (s.size : Int) := by omega
   go_wp2
   go_loopw [6] (fun x wr => ∃ k : Nat, k ≤ t.size ∧ x = .int .i64 k ∧ Hid (∀ j (h : j < t.size), j < k → t[j] ≠ s[i]) ∧ ∃ n, wr = w.drewN n) (fun x wr => t.size - (intOf x).toNat)
   case atStart => exact ⟨0, Nat.zero_le _, rfl, fun j h hj => absurd hj (by omega), n, rfl⟩
   case round =>
    obtain ⟨k, hk, rfl, HK, n2, rfl⟩ := hrel
    by_cases hq : k < t.size
    ·have hqi : (k : Int) < (t.size : Int) := by omega
     by_cases hc : t[k] = s[i]
     ·have e1 : ((s[i].toNat : Int) == (t[k].toNat : Int)) = true := by rw [hc]; simp
      have HR : Hid (atL t.data.toList s.data.toList = i) := atL_hit _ _ i (by omega) HN.out (by rw [show s.data.toList[i]'(by omega) = s[i] from by simp; rfl]; exact contains_yes t _ k hq hc)
      clear hc
      go_wp2
      go_quiet (fail)
      go_wp2
      go_ret
      exact ⟨by rw [HR.out]; rfl, below_drewN (below_drewN (Below.refl _ _) _) _⟩
     ·have e1 : ((s[i].toNat : Int) == (t[k].toNat : Int)) = false := by
       rw [beq_eq_false_iff_ne]; intro h; exact hc (UInt8.toNat_inj.1 (by omega))
      have HK2 : Hid (∀ j (h : j < t.size), j < k + 1 → t[j] ≠ s[i]) := by
       intro j h hj
       by_cases hjk : j = k
       ·subst hjk; exact hc
       ·exact HK.out j h (by omega)
      clear hc
      go_wp2
      go_quiet (fail)
      go_wp2
      go_roundw
      case rel => exact ⟨k + 1, by omega, by go_num, HK2, _, rfl⟩
      case measure => simp [intOf]; omega
    ·have hqi : ¬ ((k : Int) < (t.size : Int)) := by omega
     have HN2 : Hid (∀ j (h : j < s.data.toList.length), j < i + 1 → t.data.toList.contains s.data.toList[j] = false) := by
      intro j h hj
      by_cases hji : j = i
      ·subst hji
       rw [show s.data.toList[j]'h = s[j] from by simp; rfl]
       exact contains_no t _ (fun x hx => HK.out x hx (by omega))
      ·exact HN.out j h (by omega)
     go_wp2
     go_roundw
     case rel => exact ⟨i + 1, by omega, by go_num, HN2, n2, rfl⟩
     case measure => simp [intOf]; omega
  ·have hpi : ¬ ((i : Int) < (s.size : Int)) := by omega
   have HR : Hid (atL t.data.toList s.data.toList = s.size) := by
    show _ = _
    rw [← hl]; exact atL_miss _ _ (fun j h => HN.out j h (by omega))
   go_wp2
   go_ret
   exact ⟨by rw [HR.out]; rfl, below_drewN (Below.refl _ _) _⟩
end Go.Proofs.YtnfhajhdpdidlaaGreatDoor
end
section
namespace Go.Proofs.YtnfhajhdpdidlaaGreatDoor
open Go.RowKit Go.Shelf
theorem drop_snoc (l : List UInt8) (k : Nat) (hk : k < l.length) : dropT (l.take (k + 1)) = if stays l[k] = true then dropT (l.take k) ++ [l[k]] else dropT (l.take k) := by
 unfold dropT
 rw [List.take_succ_eq_append_getElem hk, List.filter_append]
 by_cases h : stays l[k] = true
 ·rw [if_pos h]; simp [h]
 ·rw [if_neg h]; simp [h]
def txtOf (v : Value) : ByteArray := match v with
 | .string s => s
 | _ => ⟨#[]⟩
theorem ext_from (s : ByteArray) (k : Nat) : (s.extract k s.size).data.toList = s.data.toList.drop k := by
 rw [ByteArray.data_extract, Array.toList_extract]
 rw [List.extract_eq_take_drop, List.take_of_length_le]
 rw [List.length_drop]
 show s.data.toList.length - k ≤ s.data.size - k
 simp
theorem dw_cons (s : ByteArray) (h : 0 < s.size) (hl : low32 s[0] = true) : s.data.toList.dropWhile low32 = (s.data.toList.drop 1).dropWhile low32 := by
 have hln : s.data.toList.length = s.size := by simp
 rw [show s.data.toList = s[0] :: s.data.toList.drop 1 from (by
  have := List.drop_eq_getElem_cons (l := s.data.toList) (i := 0) (by omega)
  rw [List.drop_zero] at this
  exact this)]
 rw [List.dropWhile_cons, if_pos hl]; rfl
theorem rdw_snoc (s : ByteArray) (k : Nat) (h : s.size = k + 1) (hl : low32 (s[k]'(by omega)) = true) : (s.data.toList.reverse.dropWhile low32).reverse = ((s.data.toList.take k).reverse.dropWhile low32).reverse := by
 have hln : s.data.toList.length = s.size := by simp
 have e : s.data.toList = s.data.toList.take k ++ [s[k]'(by omega)] := by
  have := List.take_succ_eq_append_getElem (l := s.data.toList) (i := k) (by omega)
  rw [List.take_of_length_le (by omega)] at this
  exact this
 conv => lhs; rw [e]
 rw [List.reverse_append, List.reverse_singleton, List.singleton_append, List.dropWhile_cons, if_pos hl]
theorem tl_size (s : ByteArray) : s.data.toList.length = s.size := by simp
theorem stays_yes (c : UInt8) (h : stays c = true) : ((c.toNat : Int) != 9) = true ∧ ((c.toNat : Int) != 10) = true ∧ ((c.toNat : Int) != 13) = true := by
 unfold stays at h
 simp at h
 have key : ∀ k : Nat, k < 256 → ¬ c = UInt8.ofNat k → ((c.toNat : Int) != (k : Int)) = true := by
  intro k hk hne
  rw [bne_iff_ne]
  intro e
  apply hne
  apply UInt8.toNat_inj.1
  rw [UInt8.toNat_ofNat']
  omega
 exact ⟨key 9 (by decide) (by intro e; exact absurd e (by first | exact h.2 | exact h.2.2)), key 10 (by decide) (by intro e; first | exact absurd e h.1.2 | exact absurd e h.2.1), key 13 (by decide) (by intro e; first | exact absurd e h.1.1 | exact absurd e h.1)⟩
theorem stays_no (c : UInt8) (h : stays c = false) : ((c.toNat : Int) != 9) = false ∨ (((c.toNat : Int) != 9) = true ∧ ((c.toNat : Int) != 10) = false) ∨ (((c.toNat : Int) != 9) = true ∧ ((c.toNat : Int) != 10) = true ∧ ((c.toNat : Int) != 13) = false) := by
 unfold stays at h
 simp at h
 by_cases a : c = 13
 ·subst a; right; right; decide
 ·by_cases b : c = 10
  ·subst b; right; left; decide
  ·rw [h a b]; left; decide
theorem l3Trim (s : ByteArray) (w : World) (hs : s.size ≤ 1048576) :
  Calls Tryz.prog 111 #[.string s] w fun e w' => e = .returned (.string (mk (trimL s.data.toList))) ∧ Below w.heap.size w w' := by
 go_enter Tryz.func111, Tryz.ntmps111
 go_wp2
 go_loop [0] (fun v => ∃ x : ByteArray, v = .string x ∧ x.size ≤ 1048576 ∧ Hid (s.data.toList.dropWhile low32 = x.data.toList.dropWhile low32)) (fun v => (txtOf v).size)
 case atStart => exact ⟨s, rfl, hs, rfl⟩
 case round =>
  obtain ⟨x, rfl, hx, HX⟩ := hrel
  by_cases h0 : 0 < x.size
  ·have h0i : (0 : Int) < (x.size : Int) := by omega
   cases hl : low32 x[0] with
   | true =>
    have hb : (x[0].toNat : Int) ≤ 32 := by unfold low32 at hl; have := of_decide_eq_true hl; omega
    have h1i : (1 : Int) ≤ (x.size : Int) := by omega
    have hxe : (x.extract 1 x.size).size = x.size - 1 := by rw [ByteArray.size_extract]; omega
    have HX2 : Hid (s.data.toList.dropWhile low32 = (x.extract 1 x.size).data.toList.dropWhile low32) := by
     show _ = _
     rw [HX.out, ext_from, dw_cons x h0 hl]
    clear hl
    go_wp2
    go_round
    case rel => exact ⟨_, rfl, by rw [hxe]; omega, HX2⟩
    case measure => show (x.extract 1 x.size).size < x.size; rw [hxe]; omega
   | false =>
    have hb : ¬ ((x[0].toNat : Int) ≤ 32) := by unfold low32 at hl; have := of_decide_eq_false hl; omega
    have HY : Hid (s.data.toList.dropWhile low32 = x.data.toList) := by
     show _ = _
     rw [HX.out, dw_eq _ 0 (by intro c hc; simp at hc) (by
      intro c hc
      have e : x.data.toList[0]? = some x[0] := by rw [List.getElem?_eq_getElem (by simpa using h0)]; rfl
      rw [e] at hc; simp at hc; rw [← hc]; exact hl)]
     rfl
    clear hl HX
    go_wp2
    go_loop [0] (fun v => ∃ y : ByteArray, v = .string y ∧ y.size ≤ 1048576 ∧ Hid ((x.data.toList.reverse.dropWhile low32).reverse = (y.data.toList.reverse.dropWhile low32).reverse)) (fun v => (txtOf v).size)
    case atStart => exact ⟨x, rfl, hx, rfl⟩
    case round =>
     obtain ⟨y, rfl, hy, HV⟩ := hrel
     by_cases h0 : 0 < y.size
     ·obtain ⟨m, hm⟩ : ∃ m, y.size = m + 1 := ⟨y.size - 1, by omega⟩
      have hmy : m < y.size := by omega
      have h0i : (0 : Int) < (y.size : Int) := by omega
      have hm1 : (y.size : Int) - 1 = (m : Int) := by omega
      have hmi : (m : Int) < (y.size : Int) := by omega
      have hm2 : (m : Int) ≤ (y.size : Int) := by omega
      cases hl : low32 y[m] with
      | true =>
       have hb : (y[m].toNat : Int) ≤ 32 := by unfold low32 at hl; have := of_decide_eq_true hl; omega
       have hye : (y.extract 0 m).size = m := by rw [ByteArray.size_extract]; omega
       have HV2 : Hid ((x.data.toList.reverse.dropWhile low32).reverse = ((y.extract 0 m).data.toList.reverse.dropWhile low32).reverse) := by
        show _ = _
        rw [HV.out, rdw_snoc y m hm hl, ext_list y 0 m (Nat.zero_le _) (by omega)]; simp
       have HM : Hid (y.size = m + 1) := hm
       clear hl hm
       go_wp2
       go_round
       case rel => exact ⟨_, rfl, by rw [hye]; omega, HV2⟩
       case measure => show (y.extract 0 m).size < y.size; rw [hye]; exact hmy
      | false =>
       have hb : ¬ ((y[m].toNat : Int) ≤ 32) := by unfold low32 at hl; have := of_decide_eq_false hl; omega
       have HZ : Hid ((x.data.toList.reverse.dropWhile low32).reverse = y.data.toList) := by
        show _ = _
        rw [HV.out, dw_rev y.data.toList (m + 1) (by simp; omega) (by intro c hc; rw [List.drop_of_length_le (by simp; omega)] at hc; cases hc) (by
         intro j hj c hc
         have hjm : j = m := by omega
         subst hjm
         rw [List.getElem?_eq_getElem (by simp; omega)] at hc; simp at hc; rw [← hc]; exact hl), List.take_of_length_le (by simp; omega)]
       clear hl hm HV
       go_wp2
       go_loopw [3, 4] (fun v i wr => ∃ k : Nat, k ≤ y.size ∧ i = .int .i64 k ∧ Hid (OwnB w.heap.size v (dropT (y.data.toList.take k)) wr) ∧ Hid (Below w.heap.size w wr)) (fun _ i wr => y.size - (intOf i).toNat)
       case atStart => exact ⟨0, Nat.zero_le _, rfl, ownB_new w _ (Nat.le_refl _), (Below.refl _ w).alloc (Nat.le_refl _) _⟩
       case round =>
        obtain ⟨k, hk, rfl, HI, HBW⟩ := hrel
        have hsz : w.heap.size ≤ wr.heap.size := HBW.out.size
        by_cases hp : k < y.size
        ·have hkl : k < y.data.toList.length := by simpa using hp
         have hki : (k : Int) < (y.size : Int) := by omega
         have hll : (dropT (y.data.toList.take k)).length ≤ 1048576 := by
          have h1 : (dropT (y.data.toList.take k)).length ≤ (y.data.toList.take k).length := List.length_filter_le _ _
          have h2 : (y.data.toList.take k).length ≤ k := List.length_take_le _ _
          omega
         have hsn := drop_snoc y.data.toList k hkl
         have h256 := UInt8.toNat_lt y[k]
         cases hst : stays y[k] with
         | true =>
          have HT : Hid (dropT (y.data.toList.take (k + 1)) = dropT (y.data.toList.take k) ++ [y[k]]) := by show _ = _; rw [hsn, if_pos (show stays y.data.toList[k] = true from hst)]; rfl
          obtain ⟨b1, b2, b3⟩ := stays_yes y[k] hst
          clear hsn hst
          go_wp2_with (at_builtin; refine wpAppendByte wr rfl _ _ rfl w.heap.size _ _ y[k] _ rfl HI.out rfl rfl (by omega) hsz ?_; intro v' w1 R b1)
          go_roundw
          case rel => exact ⟨k + 1, by omega, by go_num, by rw [HT.out]; exact R, HBW.out.trans b1⟩
          case measure => simp [intOf]; omega
         | false =>
          have HT : Hid (dropT (y.data.toList.take (k + 1)) = dropT (y.data.toList.take k)) := by show _ = _; rw [hsn, if_neg (show ¬ stays y.data.toList[k] = true by rw [show y.data.toList[k] = y[k] from rfl, hst]; decide)]
          have hno := stays_no y[k] hst
          clear hsn hst
          rcases hno with b1 | ⟨b1, b2⟩ | ⟨b1, b2, b3⟩
          all_goals
           go_wp2
           go_roundw
           case rel => exact ⟨k + 1, by omega, by go_num, by rw [HT.out]; exact HI.out, HBW.out⟩
           case measure => simp [intOf]; omega
        ·have hkk : ¬ ((k : Int) < (y.size : Int)) := by omega
         have hI : OwnB w.heap.size _ (dropT (y.data.toList.take k)) wr := HI.out
         rw [List.take_of_length_le (by simp; omega)] at hI
         have htx := ownB_text hI
         have HE : Hid (trimL s.data.toList = dropT y.data.toList) := by show _ = _; unfold trimL midL; rw [HY.out, HZ.out]
         clear hI
         go_wp2
         go_ret
         rw [HE.out]
         exact ⟨rfl, HBW.out⟩
     ·have h0i : ¬ ((0 : Int) < (y.size : Int)) := by omega
      have HZ : Hid ((x.data.toList.reverse.dropWhile low32).reverse = y.data.toList) := by
       show _ = _
       rw [HV.out, List.length_eq_zero_iff.1 (show y.data.toList.length = 0 by have h := tl_size y; omega)]; rfl
      clear HV
      go_wp2
      go_loopw [3, 4] (fun v i wr => ∃ k : Nat, k ≤ y.size ∧ i = .int .i64 k ∧ Hid (OwnB w.heap.size v (dropT (y.data.toList.take k)) wr) ∧ Hid (Below w.heap.size w wr)) (fun _ i wr => y.size - (intOf i).toNat)
      case atStart => exact ⟨0, Nat.zero_le _, rfl, ownB_new w _ (Nat.le_refl _), (Below.refl _ w).alloc (Nat.le_refl _) _⟩
      case round =>
       obtain ⟨k, hk, rfl, HI, HBW⟩ := hrel
       have hsz : w.heap.size ≤ wr.heap.size := HBW.out.size
       by_cases hp : k < y.size
       ·exact absurd hp (by omega)
       ·have hkk : ¬ ((k : Int) < (y.size : Int)) := by omega
        have hI : OwnB w.heap.size _ (dropT (y.data.toList.take k)) wr := HI.out
        rw [List.take_of_length_le (by simp; omega)] at hI
        have htx := ownB_text hI
        have HE : Hid (trimL s.data.toList = dropT y.data.toList) := by show _ = _; unfold trimL midL; rw [HY.out, HZ.out]
        clear hI
        go_wp2
        go_ret
        rw [HE.out]
        exact ⟨rfl, HBW.out⟩
  ·have h0i : ¬ ((0 : Int) < (x.size : Int)) := by omega
   have HY : Hid (s.data.toList.dropWhile low32 = x.data.toList) := by
    show _ = _
    rw [HX.out, List.length_eq_zero_iff.1 (show x.data.toList.length = 0 by have h := tl_size x; omega)]; rfl
   clear HX
   go_wp2
   go_loop [0] (fun v => ∃ y : ByteArray, v = .string y ∧ y.size ≤ 1048576 ∧ Hid ((x.data.toList.reverse.dropWhile low32).reverse = (y.data.toList.reverse.dropWhile low32).reverse)) (fun v => (txtOf v).size)
   case atStart => exact ⟨x, rfl, hx, rfl⟩
   case round =>
    obtain ⟨y, rfl, hy, HV⟩ := hrel
    by_cases h0 : 0 < y.size
    ·obtain ⟨m, hm⟩ : ∃ m, y.size = m + 1 := ⟨y.size - 1, by omega⟩
     have hmy : m < y.size := by omega
     have h0i : (0 : Int) < (y.size : Int) := by omega
     have hm1 : (y.size : Int) - 1 = (m : Int) := by omega
     have hmi : (m : Int) < (y.size : Int) := by omega
     have hm2 : (m : Int) ≤ (y.size : Int) := by omega
     cases hl : low32 y[m] with
     | true =>
      have hb : (y[m].toNat : Int) ≤ 32 := by unfold low32 at hl; have := of_decide_eq_true hl; omega
      have hye : (y.extract 0 m).size = m := by rw [ByteArray.size_extract]; omega
      have HV2 : Hid ((x.data.toList.reverse.dropWhile low32).reverse = ((y.extract 0 m).data.toList.reverse.dropWhile low32).reverse) := by
       show _ = _
       rw [HV.out, rdw_snoc y m hm hl, ext_list y 0 m (Nat.zero_le _) (by omega)]; simp
      have HM : Hid (y.size = m + 1) := hm
      clear hl hm
      go_wp2
      go_round
      case rel => exact ⟨_, rfl, by rw [hye]; omega, HV2⟩
      case measure => show (y.extract 0 m).size < y.size; rw [hye]; exact hmy
     | false =>
      have hb : ¬ ((y[m].toNat : Int) ≤ 32) := by unfold low32 at hl; have := of_decide_eq_false hl; omega
      have HZ : Hid ((x.data.toList.reverse.dropWhile low32).reverse = y.data.toList) := by
       show _ = _
       rw [HV.out, dw_rev y.data.toList (m + 1) (by simp; omega) (by intro c hc; rw [List.drop_of_length_le (by simp; omega)] at hc; cases hc) (by
        intro j hj c hc
        have hjm : j = m := by omega
        subst hjm
        rw [List.getElem?_eq_getElem (by simp; omega)] at hc; simp at hc; rw [← hc]; exact hl), List.take_of_length_le (by simp; omega)]
      clear hl hm HV
      go_wp2
      go_loopw [3, 4] (fun v i wr => ∃ k : Nat, k ≤ y.size ∧ i = .int .i64 k ∧ Hid (OwnB w.heap.size v (dropT (y.data.toList.take k)) wr) ∧ Hid (Below w.heap.size w wr)) (fun _ i wr => y.size - (intOf i).toNat)
      case atStart => exact ⟨0, Nat.zero_le _, rfl, ownB_new w _ (Nat.le_refl _), (Below.refl _ w).alloc (Nat.le_refl _) _⟩
      case round =>
       obtain ⟨k, hk, rfl, HI, HBW⟩ := hrel
       have hsz : w.heap.size ≤ wr.heap.size := HBW.out.size
       by_cases hp : k < y.size
       ·have hkl : k < y.data.toList.length := by simpa using hp
        have hki : (k : Int) < (y.size : Int) := by omega
        have hll : (dropT (y.data.toList.take k)).length ≤ 1048576 := by
         have h1 : (dropT (y.data.toList.take k)).length ≤ (y.data.toList.take k).length := List.length_filter_le _ _
         have h2 : (y.data.toList.take k).length ≤ k := List.length_take_le _ _
         omega
        have hsn := drop_snoc y.data.toList k hkl
        have h256 := UInt8.toNat_lt y[k]
        cases hst : stays y[k] with
        | true =>
         have HT : Hid (dropT (y.data.toList.take (k + 1)) = dropT (y.data.toList.take k) ++ [y[k]]) := by show _ = _; rw [hsn, if_pos (show stays y.data.toList[k] = true from hst)]; rfl
         obtain ⟨b1, b2, b3⟩ := stays_yes y[k] hst
         clear hsn hst
         go_wp2_with (at_builtin; refine wpAppendByte wr rfl _ _ rfl w.heap.size _ _ y[k] _ rfl HI.out rfl rfl (by omega) hsz ?_; intro v' w1 R b1)
         go_roundw
         case rel => exact ⟨k + 1, by omega, by go_num, by rw [HT.out]; exact R, HBW.out.trans b1⟩
         case measure => simp [intOf]; omega
        | false =>
         have HT : Hid (dropT (y.data.toList.take (k + 1)) = dropT (y.data.toList.take k)) := by show _ = _; rw [hsn, if_neg (show ¬ stays y.data.toList[k] = true by rw [show y.data.toList[k] = y[k] from rfl, hst]; decide)]
         have hno := stays_no y[k] hst
         clear hsn hst
         rcases hno with b1 | ⟨b1, b2⟩ | ⟨b1, b2, b3⟩
         all_goals
          go_wp2
          go_roundw
          case rel => exact ⟨k + 1, by omega, by go_num, by rw [HT.out]; exact HI.out, HBW.out⟩
          case measure => simp [intOf]; omega
       ·have hkk : ¬ ((k : Int) < (y.size : Int)) := by omega
        have hI : OwnB w.heap.size _ (dropT (y.data.toList.take k)) wr := HI.out
        rw [List.take_of_length_le (by simp; omega)] at hI
        have htx := ownB_text hI
        have HE : Hid (trimL s.data.toList = dropT y.data.toList) := by show _ = _; unfold trimL midL; rw [HY.out, HZ.out]
        clear hI
        go_wp2
        go_ret
        rw [HE.out]
        exact ⟨rfl, HBW.out⟩
    ·have h0i : ¬ ((0 : Int) < (y.size : Int)) := by omega
     have HZ : Hid ((x.data.toList.reverse.dropWhile low32).reverse = y.data.toList) := by
      show _ = _
      rw [HV.out, List.length_eq_zero_iff.1 (show y.data.toList.length = 0 by have h := tl_size y; omega)]; rfl
     clear HV
     go_wp2
     go_loopw [3, 4] (fun v i wr => ∃ k : Nat, k ≤ y.size ∧ i = .int .i64 k ∧ Hid (OwnB w.heap.size v (dropT (y.data.toList.take k)) wr) ∧ Hid (Below w.heap.size w wr)) (fun _ i wr => y.size - (intOf i).toNat)
     case atStart => exact ⟨0, Nat.zero_le _, rfl, ownB_new w _ (Nat.le_refl _), (Below.refl _ w).alloc (Nat.le_refl _) _⟩
     case round =>
      obtain ⟨k, hk, rfl, HI, HBW⟩ := hrel
      have hsz : w.heap.size ≤ wr.heap.size := HBW.out.size
      by_cases hp : k < y.size
      ·exact absurd hp (by omega)
      ·have hkk : ¬ ((k : Int) < (y.size : Int)) := by omega
       have hI : OwnB w.heap.size _ (dropT (y.data.toList.take k)) wr := HI.out
       rw [List.take_of_length_le (by simp; omega)] at hI
       have htx := ownB_text hI
       have HE : Hid (trimL s.data.toList = dropT y.data.toList) := by show _ = _; unfold trimL midL; rw [HY.out, HZ.out]
       clear hI
       go_wp2
       go_ret
       rw [HE.out]
       exact ⟨rfl, HBW.out⟩
end Go.Proofs.YtnfhajhdpdidlaaGreatDoor
end

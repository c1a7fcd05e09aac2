/- spec.l3Walk: a path gone on with, piece by piece; PathGet of impl and of spec. impl.schemePort, spec.l3Own: the own port of a scheme. impl.figureValue and spec.l1Hex each tell what a figure is worth. Plain facts on numbers in a part of a host's text. spec.l2Digits and l2Part: the number of a part. -/
import Derived.Test.YtnfhajhdpdidlaaGreatDoorB05
import Derived.Test.YtnfhajhdpdidlaaGreatDoorB02
import Derived.Test.YtnfhajhdpdidlaaGreatDoorB01
set_option linter.unusedVariables false
set_option maxHeartbeats 4000000
set_option maxRecDepth 100000
section
namespace Go.Proofs.YtnfhajhdpdidlaaGreatDoor
open Go.RowKit Go.Shelf
theorem walkTo_zero' (path ps : List (List UInt8)) : walkTo path ps 0 = path := by
 by_cases h : ps = []
 ·subst h; rfl
 ·exact walkTo_zero path ps h
theorem wpAppendStrs {ops : Array Oper} {rest : List Oper} {o : Oper} {a : Act} {Q : Exit → Act → World → Prop} (w0 : World) (hgd : o.guard = none) (s x : Operand)
  (ho : o.op = .call { callee := .builtin .append, args := #[s, x], argTypes := #[24, 24] })
  (B : Nat) (v : Value) (ps qs : List (List UInt8)) (hI : OwnS B v ps w0) (hs : a.eval s = v) (b off m : Nat)
  (hx : a.eval x = .slice (some ⟨b, off, none⟩) qs.length m) (hq : ∀ j (h : j < qs.length), w0.cell? ⟨b, off + j, none⟩ = some (.string (mk qs[j]))) (hlen : ps.length + qs.length ≤ 1000000000000) (hB : B ≤ w0.heap.size)
  (h : ∀ v' w', OwnS B v' (ps ++ qs) w' → Below B w0 w' → wpList Tryz.prog ops Q rest (a.put o.dst v') w') : wpList Tryz.prog ops Q (o :: rest) a w0 := by
 obtain ⟨i0, hi, hz0, hz1, hz2⟩ := info_parts infoStr
 refine wpList_append_own _ hgd s x 24 ho B 9 i0 (.string ⟨#[]⟩) 1 16 Tryz.underlying24 hi hz0 hz1 hz2 rfl (by decide) v ps.length (ps.map fun p => Value.string (mk p)) hs hI ⟨b, off, none⟩ qs.length m (qs.map fun p => Value.string (mk p)) hx (by simp) ?c1 ?c2 ?c3 ?c4 ?c5 ?_
 case c1 =>
  intro j u hj
  obtain ⟨hj', hu⟩ := List.getElem?_eq_some_iff.1 hj
  have hj2 : j < qs.length := by simpa using hj'
  rw [addr_add_at, hq j hj2, ← hu]; simp
 case c2 => intro u hu; obtain ⟨p, _, rfl⟩ := List.mem_map.1 hu; rfl
 case c3 => unfold maxLen; omega
 case c4 => omega
 case c5 => exact hB
 intro v' w1 hown hgrow _
 refine h v' w1 ?_ ?_
 ·unfold OwnS; rw [List.map_append, List.length_append]; exact hown
 ·exact (Below.refl B w0).grown hgrow hB (fun k hk => (World.ownsRow.lt hI k hk).1)
theorem l3Walk (b off m : Nat) (a : Option Addr) (cap : Nat) (ss P : List (List UInt8)) (w : World) (hq : ∀ j (h : j < ss.length), w.cell? ⟨b, off + j, none⟩ = some (.string (mk ss[j]))) (hS : StrsOf a P.length P w) (hPl : P.length ≤ 1000000) (hsl : ss.length ≤ 1000000) (HM : Hid (∀ q ∈ P, q.length ≤ 200)) :
  Calls Tryz.prog 187 #[.slice (some ⟨b, off, none⟩) ss.length m, .slice a P.length cap] w fun e w' => ∃ v, e = .returned v ∧ OwnS w.heap.size v (walkL ss P) w' ∧ Below w.heap.size w w' := by
 have h0 := ownS_new w w.heap.size (Nat.le_refl _)
 have hq' : Hid (∀ j (h : j < ss.length), (w.alloc (.cells #[] 9)).cell? ⟨b, off + j, none⟩ = some (.string (mk ss[j]))) := by
  intro j hj
  exact cell_kept ((Below.refl _ w).alloc (Nat.le_refl _) _) (hq j hj) (cell_in (hq j hj))
 clear hq
 go_enter Tryz.func187, Tryz.ntmps187
 go_wp2_with (at_builtin; refine wpAppendStrs (w.alloc (.cells #[] 9)) rfl _ _ rfl w.heap.size _ [] ss h0 rfl b off m rfl hq'.out (by simp; omega) (by simp) ?_; intro v1 w1 R b1)
 have bA : Below w.heap.size w w1 := ((Below.refl _ w).alloc (Nat.le_refl _) _).trans b1
 rw [List.nil_append] at R
 clear h0 hq' b1
 go_loopw [5, 6] (fun v i wr => ∃ k : Nat, k ≤ P.length ∧ i = .int .i64 k ∧ OwnS w.heap.size v (walkTo ss P k) wr ∧ Below w.heap.size w wr) (fun _ i wr => P.length - (intOf i).toNat)
 case atStart => exact ⟨0, Nat.zero_le _, rfl, by rw [walkTo_zero']; exact R, bA⟩
 case round =>
  clear R bA
  obtain ⟨k, hk, rfl, hI, hbw⟩ := hrel
  have hsz : w.heap.size ≤ wr.heap.size := hbw.size
  by_cases hp : k < P.length
  ·have hki : (k : Int) < (P.length : Int) := by omega
   obtain ⟨b2, off2, z, rfl, hc, hzm, _⟩ := (hS.later hbw).at k hp
   have HST : Hid (walkTo ss P (k + 1) = stepL (walkTo ss P k) P[k] (decide (k = P.length - 1))) := walkTo_succ ss P k hp
   have hal : (walkTo ss P k).length ≤ ss.length + P.length := walkTo_len ss P k
   obtain ⟨acc, hacc⟩ : ∃ acc, acc = walkTo ss P k := ⟨_, rfl⟩
   rw [← hacc] at hI HST hal
   have hql : P[k].length ≤ 200 := HM.out _ (List.getElem_mem _)
   obtain ⟨p, hpp⟩ : ∃ p, p = P[k] := ⟨_, rfl⟩
   rw [← hpp] at hzm HST hql
   subst hzm
   clear hpp hacc
   have CD : Hid (∀ W, Calls Tryz.prog 204 #[.string (mk p)] W fun e w' => e = .returned (.int .i64 (dots p)) ∧ Below W.heap.size W w') := fun W => l3Dots p W (by omega)
   have CE : Hid (∀ W, Calls Tryz.prog 137 #[.int .i64 1, .string (mk p)] W fun e w' => e = .returned (.string (mk (encT p))) ∧ Below W.heap.size W w') := by
    intro W
    refine (specEncode 1 (mk p) W (by rw [mk_size]; unfold maxLen; omega)).mono ?_
    rintro e w' ⟨rfl, b⟩
    refine ⟨?_, b⟩
    rw [encode_small 1 (mk p) (by rw [mk_size]; omega), mk_data]; rfl
   obtain ⟨a1, c, rfl, hcc⟩ := hI.shape
   have hk9 : (0 : Int) ≤ (P.length : Int) - 1 := by omega
   go_wp2_with fail
   refine (CD.out _).mono ?_
   rintro e W1 ⟨rfl, d1⟩
   have hI2 := hI.later d1
   have hb2 : Below w.heap.size w W1 := hbw.trans (d1.mono hsz)
   have hc1 := cell_kept d1 hc (cell_in hc)
   have hsz2 := hb2.size
   clear CD hI hbw d1 hsz hc
   rcases dots_cases p with ⟨hd, _⟩ | ⟨hd, _⟩ | ⟨hd, _, _⟩
   ·have HD : Hid (dots p = 1) := hd
    rw [hd]
    clear hd
    by_cases hlast : k = P.length - 1
    ·have hk3 : ((k : Int) == (P.length : Int) - 1) = true := by simp; omega
     go_wp2_with (at_builtin; refine wpAppendStr W1 rfl _ _ rfl w.heap.size _ acc [] _ rfl hI2 rfl rfl (by omega) hsz2 ?_; intro v1 w4 R b4)
     go_roundw
     case rel => exact ⟨k + 1, by omega, by go_num, by rw [HST.out, stepL_1 _ _ _ HD.out, decide_eq_true hlast, if_pos rfl]; exact R, hb2.trans b4⟩
     case measure => simp [intOf]; omega
    ·have hk3 : ((k : Int) == (P.length : Int) - 1) = false := by simp; omega
     go_wp2
     go_roundw
     case rel => exact ⟨k + 1, by omega, by go_num, by rw [HST.out, stepL_1 _ _ _ HD.out, decide_eq_false hlast, if_neg (by simp)]; exact hI2, hb2⟩
     case measure => simp [intOf]; omega
   ·have HD : Hid (dots p = 2) := hd
    rw [hd]
    clear hd
    by_cases he : acc = []
    ·subst he
     by_cases hlast : k = P.length - 1
     ·have hk3 : ((k : Int) == (P.length : Int) - 1) = true := by simp; omega
      go_wp2_with (at_builtin; refine wpAppendStr W1 rfl _ _ rfl w.heap.size _ [] [] _ rfl hI2 rfl rfl (by decide) hsz2 ?_; intro v1 w4 R b4)
      go_roundw
      case rel => exact ⟨k + 1, by omega, by go_num, by rw [HST.out, stepL_2 _ _ _ HD.out, decide_eq_true hlast, if_pos rfl]; exact R, hb2.trans b4⟩
      case measure => simp [intOf]; omega
     ·have hk3 : ((k : Int) == (P.length : Int) - 1) = false := by simp; omega
      go_wp2
      go_roundw
      case rel => exact ⟨k + 1, by omega, by go_num, by rw [HST.out, stepL_2 _ _ _ HD.out, decide_eq_false hlast, if_neg (by simp)]; exact hI2, hb2⟩
      case measure => simp [intOf]; omega
    ·obtain ⟨n, hn⟩ : ∃ n, acc.length = n + 1 := ⟨acc.length - 1, by have := List.length_pos_iff.2 he; omega⟩
     rw [hn] at hI2 hcc hal ⊢
     have hI3 := hI2.pop
     have hnd : acc.dropLast.length = n := by rw [List.length_dropLast]; omega
     have hn1 : (0 : Int) < (n : Int) + 1 := by omega
     have hn2 : (n : Int) + 1 - 1 = (n : Int) := by omega
     have hn3 : (n : Int) ≤ (c : Int) := by omega
     by_cases hlast : k = P.length - 1
     ·have hk3 : ((k : Int) == (P.length : Int) - 1) = true := by simp; omega
      go_wp2_with (at_builtin; refine wpAppendStr W1 rfl _ _ rfl w.heap.size _ acc.dropLast [] _ rfl hI3 rfl rfl (by omega) hsz2 ?_; intro v1 w4 R b4)
      go_roundw
      case rel => exact ⟨k + 1, by omega, by go_num, by rw [HST.out, stepL_2 _ _ _ HD.out, decide_eq_true hlast, if_pos rfl]; exact R, hb2.trans b4⟩
      case measure => simp [intOf]; omega
     ·have hk3 : ((k : Int) == (P.length : Int) - 1) = false := by simp; omega
      go_wp2
      go_roundw
      case rel => exact ⟨k + 1, by omega, by go_num, by rw [HST.out, stepL_2 _ _ _ HD.out, decide_eq_false hlast, if_neg (by simp)]; exact hI3, hb2⟩
      case measure => simp [intOf]; omega
   ·have HD : Hid (dots p = 0) := hd
    rw [hd]
    clear hd
    by_cases hlast : k = P.length - 1
    all_goals
     first
     | have hk3 : ((k : Int) == (P.length : Int) - 1) = true := by simp; omega
     | have hk3 : ((k : Int) == (P.length : Int) - 1) = false := by simp; omega
     clear hlast
     go_wp2_with fail
     refine (CE.out _).mono ?_
     rintro e W3 ⟨rfl, d3⟩
     have hI3 := hI2.later d3
     have hb3 := hb2.trans (d3.mono hsz2)
     have hsz3 := hb3.size
     go_wp2_with (at_builtin; refine wpAppendStr W3 rfl _ _ rfl w.heap.size _ acc (encT p) _ rfl hI3 rfl rfl (by omega) hsz3 ?_; intro v1 w4 R b4)
     go_roundw
     case rel => exact ⟨k + 1, by omega, by go_num, by rw [HST.out, stepL_0 _ _ _ HD.out]; exact R, hb3.trans b4⟩
     case measure => simp [intOf]; omega
  ·have hkk : k = P.length := by omega
   subst hkk
   rw [walkTo_all] at hI
   go_wp2
   go_ret
   exact ⟨_, rfl, hI, hbw⟩
theorem implPathGet (s : ByteArray) (m : Int) (w : World) (hs : s.size ≤ 10000000) (hm : w.cell? ⟨0, 0, none⟩ = some (.int .i64 m)) :
  Calls Tryz.prog 174 #[.string s] w fun e w' => ∃ v, e = .returned v ∧ OwnS w.heap.size v (pathL s.data.toList) w' ∧ Below w.heap.size w w' := by
 have hl : s.data.toList.length = s.size := by simp
 by_cases h : s.size ≤ 200
 ·rw [pathL_small _ (by omega)]
  have C := pathOn s m w h hm
  have hi : (s.size : Int) ≤ 200 := by omega
  go_enter Tryz.func174, Tryz.ntmps174
  go_wp2_with fail
  refine C.mono ?_
  rintro e W1 ⟨v, rfl, hO, d1⟩
  go_wp2
  go_ret
  exact ⟨v, rfl, hO, d1⟩
 ·rw [pathL_great _ (by omega)]
  have hi : (200 : Int) < (s.size : Int) := by omega
  go_enter Tryz.func174, Tryz.ntmps174
  go_wp2
  go_ret
  exact ⟨_, rfl, ownS_nil _ _, Below.refl _ _⟩
theorem ext_one (s : ByteArray) (c : UInt8) (r : List UInt8) (h : s.data.toList = c :: r) : s.extract 1 s.size = mk r := by
 have hl : s.data.toList.length = s.size := by simp
 rw [ext_mk, h, List.drop_one, List.tail_cons, List.take_of_length_le]
 rw [h] at hl; simp at hl; omega
theorem specPathGet (s : ByteArray) (w : World) (hs : s.size ≤ 10000000) :
  Calls Tryz.prog 162 #[.string s] w fun e w' => ∃ v, e = .returned v ∧ OwnS w.heap.size v (pathL s.data.toList) w' ∧ Below w.heap.size w w' := by
 have hl : s.data.toList.length = s.size := by simp
 by_cases h : s.size ≤ 200
 ·rw [pathL_small _ (by omega)]
  have hi : (s.size : Int) ≤ 200 := by omega
  obtain ⟨P, hP⟩ : ∃ P, P = piecesL s.data.toList := ⟨_, rfl⟩
  have hPl : P.length ≤ 201 := by rw [hP]; have := piecesL_len s.data.toList; omega
  have HM : Hid (∀ q ∈ P, q.length ≤ 200) := by intro q hq; rw [hP] at hq; have := piecesL_mem _ q hq; omega
  have CP : ∀ (x : ByteArray), x.size ≤ 200 → cutL 47 (slashL x.data.toList) = P → Hid (∀ W, Calls Tryz.prog 188 #[.string x] W fun e w' => ∃ v, e = .returned v ∧ OwnS W.heap.size v P w' ∧ Below W.heap.size W w') := by
   intro x hx hxP W
   have := l3Pieces x.data.toList W (by have : x.data.toList.length = x.size := by simp
                                        omega)
   rw [mk_list, hxP] at this
   exact this
  rw [← hP]
  have hn := ownS_new w w.heap.size (Nat.le_refl _)
  by_cases h0 : s.size = 0
  ·have hnil : s.data.toList = [] := List.length_eq_zero_iff.1 (by omega)
   have C1 := CP s h (by rw [hP]; unfold piecesL; rw [hnil]; rfl)
   clear CP hP hnil
   go_enter Tryz.func162, Tryz.ntmps162
   go_wp2_with fail
   refine (C1.out _).mono ?_
   rintro e W1 ⟨v, rfl, hO, d1⟩
   obtain ⟨a, c, rfl, hc, hS⟩ := hO.strs
   go_wp2_with fail
   refine (l3Walk w.heap.size 0 0 a c [] P _ (fun j hj => absurd hj (by simp)) hS (by omega) (by decide) HM).mono ?_
   rintro e W2 ⟨v, rfl, hO2, d2⟩
   go_wp2
   go_ret
   have z1 := d1.size
   simp at z1
   exact ⟨v, rfl, hO2.base (by omega), ((Below.refl _ w).alloc (Nat.le_refl _) _).trans ((d1.mono (by simp)).trans (d2.mono (by omega)))⟩
  ·obtain ⟨c0, r, hcr⟩ : ∃ c r, s.data.toList = c :: r := by
    match hh : s.data.toList with
    | [] => rw [hh] at hl; simp at hl; omega
    | c :: r => exact ⟨c, r, rfl⟩
   have hs0 : s[0]'(by omega) = c0 := by
    have : s.data.toList[0]'(by omega) = c0 := by simp [hcr]
    rw [Array.getElem_toList] at this; exact this
   have hrl : r.length + 1 = s.size := by rw [← hl, hcr]; rfl
   have hpos : (0 : Int) < (s.size : Int) := by omega
   by_cases hc : c0 = 47 ∨ c0 = 92
   ·have C1 := CP (mk r) (by rw [mk_size]; omega) (by rw [mk_data, hP]; unfold piecesL; rw [hcr, trim_slash c0 r hc])
    have HX : s.extract 1 s.size = mk r := ext_one s c0 r hcr
    clear CP hP hcr
    rcases hc with hc | hc
    ·have e1 : (((s[0]'(by omega)).toNat : Int) == 47) = true := by rw [hs0, hc]; rfl
     clear hs0 hc
     go_enter Tryz.func162, Tryz.ntmps162
     go_wp2_with fail
     refine (C1.out _).mono ?_
     rintro e W1 ⟨v, rfl, hO, d1⟩
     obtain ⟨a, c, rfl, hc, hS⟩ := hO.strs
     go_wp2_with fail
     refine (l3Walk w.heap.size 0 0 a c [] P _ (fun j hj => absurd hj (by simp)) hS (by omega) (by decide) HM).mono ?_
     rintro e W2 ⟨v, rfl, hO2, d2⟩
     go_wp2
     go_ret
     have z1 := d1.size
     simp at z1
     exact ⟨v, rfl, hO2.base (by omega), ((Below.refl _ w).alloc (Nat.le_refl _) _).trans ((d1.mono (by simp)).trans (d2.mono (by omega)))⟩
    ·have e1 : (((s[0]'(by omega)).toNat : Int) == 47) = false := by rw [hs0, hc]; rfl
     have e2 : (((s[0]'(by omega)).toNat : Int) == 92) = true := by rw [hs0, hc]; rfl
     clear hs0 hc
     go_enter Tryz.func162, Tryz.ntmps162
     go_wp2_with fail
     refine (C1.out _).mono ?_
     rintro e W1 ⟨v, rfl, hO, d1⟩
     obtain ⟨a, c, rfl, hc, hS⟩ := hO.strs
     go_wp2_with fail
     refine (l3Walk w.heap.size 0 0 a c [] P _ (fun j hj => absurd hj (by simp)) hS (by omega) (by decide) HM).mono ?_
     rintro e W2 ⟨v, rfl, hO2, d2⟩
     go_wp2
     go_ret
     have z1 := d1.size
     simp at z1
     exact ⟨v, rfl, hO2.base (by omega), ((Below.refl _ w).alloc (Nat.le_refl _) _).trans ((d1.mono (by simp)).trans (d2.mono (by omega)))⟩
   ·have hc1 : c0 ≠ 47 := fun e => hc (.inl e)
    have hc2 : c0 ≠ 92 := fun e => hc (.inr e)
    have C1 := CP s h (by rw [hP]; unfold piecesL; rw [hcr, trim_not c0 r hc1 hc2])
    have e1 : (((s[0]'(by omega)).toNat : Int) == 47) = false := by
     rw [hs0, beq_eq_false_iff_ne]; intro e; exact hc1 (UInt8.toNat_inj.1 (by show _ = 47; omega))
    have e2 : (((s[0]'(by omega)).toNat : Int) == 92) = false := by
     rw [hs0, beq_eq_false_iff_ne]; intro e; exact hc2 (UInt8.toNat_inj.1 (by show _ = 92; omega))
    clear CP hP hcr hs0 hc hc1 hc2
    go_enter Tryz.func162, Tryz.ntmps162
    go_wp2_with fail
    refine (C1.out _).mono ?_
    rintro e W1 ⟨v, rfl, hO, d1⟩
    obtain ⟨a, c, rfl, hc, hS⟩ := hO.strs
    go_wp2_with fail
    refine (l3Walk w.heap.size 0 0 a c [] P _ (fun j hj => absurd hj (by simp)) hS (by omega) (by decide) HM).mono ?_
    rintro e W2 ⟨v, rfl, hO2, d2⟩
    go_wp2
    go_ret
    have z1 := d1.size
    simp at z1
    exact ⟨v, rfl, hO2.base (by omega), ((Below.refl _ w).alloc (Nat.le_refl _) _).trans ((d1.mono (by simp)).trans (d2.mono (by omega)))⟩
 ·rw [pathL_great _ (by omega)]
  have hi : (200 : Int) < (s.size : Int) := by omega
  go_enter Tryz.func162, Tryz.ntmps162
  go_wp2
  go_ret
  exact ⟨_, rfl, ownS_new w _ (Nat.le_refl _), (Below.refl _ w).alloc (Nat.le_refl _) _⟩
end Go.Proofs.YtnfhajhdpdidlaaGreatDoor
end
section
namespace Go.Proofs.YtnfhajhdpdidlaaGreatDoor
open Go.RowKit Go.Shelf
def ownZ (s : ByteArray) : Int := if s = ⟨#[104, 116, 116, 112]⟩ then 80 else if s = ⟨#[104, 116, 116, 112, 115]⟩ then 443 else -1
theorem text_ne {s : ByteArray} {l : List UInt8} (h : s ≠ mk l) : (s.toList == l) = false := by
 rw [beq_eq_false_iff_ne, ByteArray.toList_eq]
 intro e
 exact h (by rw [← e, mk_list])
theorem schemePort (s : ByteArray) (w : World) : Calls Tryz.prog 44 #[.string s] w fun e w' => e = .returned (.int .i64 (ownZ s)) ∧ w' = w := by
 by_cases h1 : s = ⟨#[104, 116, 116, 112]⟩
 ·subst h1
  go_enter Tryz.func44, Tryz.ntmps44
  go_wp2
  go_ret
  exact ⟨rfl, rfl⟩
 by_cases h2 : s = ⟨#[104, 116, 116, 112, 115]⟩
 ·subst h2
  go_enter Tryz.func44, Tryz.ntmps44
  go_wp2
  go_ret
  exact ⟨rfl, rfl⟩
 have HO : Hid (ownZ s = -1) := by show _ = _; unfold ownZ; rw [if_neg h1, if_neg h2]
 have e1 : (s.toList == [104, 116, 116, 112]) = false := text_ne h1
 have e2 : (s.toList == [104, 116, 116, 112, 115]) = false := text_ne h2
 clear h1 h2
 go_enter Tryz.func44, Tryz.ntmps44
 go_wp2
 go_ret
 exact ⟨by rw [HO.out]; rfl, rfl⟩
theorem l3Own (s : ByteArray) (w : World) : Calls Tryz.prog 62 #[.string s] w fun e w' => e = .returned (.int .i64 (ownZ s)) ∧ w' = w := by
 by_cases h1 : s = ⟨#[104, 116, 116, 112]⟩
 ·subst h1
  go_enter Tryz.func62, Tryz.ntmps62
  go_wp2
  go_ret
  exact ⟨rfl, rfl⟩
 by_cases h2 : s = ⟨#[104, 116, 116, 112, 115]⟩
 ·subst h2
  go_enter Tryz.func62, Tryz.ntmps62
  go_wp2
  go_ret
  exact ⟨rfl, rfl⟩
 have HO : Hid (ownZ s = -1) := by show _ = _; unfold ownZ; rw [if_neg h1, if_neg h2]
 have e1 : (s.toList == [104, 116, 116, 112]) = false := text_ne h1
 have e2 : (s.toList == [104, 116, 116, 112, 115]) = false := text_ne h2
 clear h1 h2
 go_enter Tryz.func62, Tryz.ntmps62
 go_wp2
 go_ret
 exact ⟨by rw [HO.out]; rfl, rfl⟩
end Go.Proofs.YtnfhajhdpdidlaaGreatDoor
end
section
namespace Go.Proofs.YtnfhajhdpdidlaaGreatDoor
open Go.RowKit Go.Shelf
theorem figureValue (c : UInt8) (w : World) : Calls Tryz.prog 198 #[.int .u8 (c.toNat : Int)] w fun e w' => e = .returned (.int .i64 (hexV c)) ∧ w' = w := by
 have hb := u8_lt c
 rcases (show (c.toNat : Int) < 48 ∨ ((48 : Int) ≤ (c.toNat : Int) ∧ (c.toNat : Int) ≤ 57) ∨ ((57 : Int) < (c.toNat : Int) ∧ (c.toNat : Int) < 65) ∨ ((65 : Int) ≤ (c.toNat : Int) ∧ (c.toNat : Int) ≤ 70) ∨ ((70 : Int) < (c.toNat : Int) ∧ (c.toNat : Int) < 97) ∨ ((97 : Int) ≤ (c.toNat : Int) ∧ (c.toNat : Int) ≤ 102) ∨ (102 : Int) < (c.toNat : Int) from by omega) with h | ⟨h, h'⟩ | ⟨h, h'⟩ | ⟨h, h'⟩ | ⟨h, h'⟩ | ⟨h, h'⟩ | h
 all_goals
  go_enter Tryz.func198, Tryz.ntmps198
  go_wp2
  go_ret
  exact ⟨ret_int (by unfold hexV; (repeat' split) <;> omega), rfl⟩
theorem l1Hex (c : UInt8) (w : World) : Calls Tryz.prog 153 #[.int .u8 (c.toNat : Int)] w fun e w' => e = .returned (.int .i64 (hexV c)) ∧ w' = w := by
 have hb := u8_lt c
 rcases (show (c.toNat : Int) < 48 ∨ ((48 : Int) ≤ (c.toNat : Int) ∧ (c.toNat : Int) ≤ 57) ∨ ((57 : Int) < (c.toNat : Int) ∧ (c.toNat : Int) < 65) ∨ ((65 : Int) ≤ (c.toNat : Int) ∧ (c.toNat : Int) ≤ 70) ∨ ((70 : Int) < (c.toNat : Int) ∧ (c.toNat : Int) < 97) ∨ ((97 : Int) ≤ (c.toNat : Int) ∧ (c.toNat : Int) ≤ 102) ∨ (102 : Int) < (c.toNat : Int) from by omega) with h | ⟨h, h'⟩ | ⟨h, h'⟩ | ⟨h, h'⟩ | ⟨h, h'⟩ | ⟨h, h'⟩ | h
 all_goals
  go_enter Tryz.func153, Tryz.ntmps153
  go_wp2
  go_ret
  exact ⟨ret_int (by unfold hexV; (repeat' split) <;> omega), rfl⟩
end Go.Proofs.YtnfhajhdpdidlaaGreatDoor
end
section
namespace Go.Proofs.YtnfhajhdpdidlaaGreatDoor
open Go.RowKit
def digs (base : Int) : Int → List UInt8 → Option Int
 | n, [] => some n
 | n, c :: r => if hexV c < 0 ∨ base ≤ hexV c ∨ 4294967295 < n then none else digs base (n * base + hexV c) r
theorem digs_no (base n : Int) (c : UInt8) (r : List UInt8) (h : hexV c < 0 ∨ base ≤ hexV c ∨ 4294967295 < n) : digs base n (c :: r) = none := by rw [digs, if_pos h]
theorem digs_yes (base n : Int) (c : UInt8) (r : List UInt8) (h : ¬ (hexV c < 0 ∨ base ≤ hexV c ∨ 4294967295 < n)) : digs base n (c :: r) = digs base (n * base + hexV c) r := by rw [digs, if_neg h]
theorem digs_ge (base : Int) (hb : 0 ≤ base) : ∀ (l : List UInt8) (n m : Int), 0 ≤ n → digs base n l = some m → 0 ≤ m := by
 intro l
 induction l with
 | nil => intro n m hn h; simp [digs] at h; omega
 | cons c r ih =>
  intro n m hn h
  by_cases hc : hexV c < 0 ∨ base ≤ hexV c ∨ 4294967295 < n
  ·rw [digs_no _ _ _ _ hc] at h; cases h
  ·rw [digs_yes _ _ _ _ hc] at h
   refine ih _ _ ?_ h
   have := Int.mul_nonneg hn hb
   omega
def hexA (l : List UInt8) : Bool := match l with
 | a :: b :: _ => a == 48 && (b == 120 || b == 88)
 | _ => false
def octA (l : List UInt8) : Bool := match l with
 | a :: _ :: _ => a == 48
 | _ => false
def partN (l : List UInt8) : Option Int :=
 if l = [] then none else if hexA l then digs 16 0 (l.drop 2) else if octA l then digs 8 0 l else digs 10 0 l
theorem oct_drop (l : List UInt8) (h : octA l = true) : digs 8 0 l = digs 8 0 (l.drop 1) := by
 match l, h with
 | a :: b :: r, h =>
  have ha : a = 48 := by simpa [octA] using h
  subst ha
  have hv : hexV 48 = 0 := by decide
  rw [digs_yes 8 0 48 (b :: r) (by rw [hv]; omega), hv]
  rfl
theorem partN_ge (l : List UInt8) (m : Int) (h : partN l = some m) : 0 ≤ m := by
 unfold partN at h
 (repeat' split at h)
 ·cases h
 ·exact digs_ge 16 (by omega) _ _ _ (Int.le_refl _) h
 ·exact digs_ge 8 (by omega) _ _ _ (Int.le_refl _) h
 ·exact digs_ge 10 (by omega) _ _ _ (Int.le_refl _) h
def capI : Nat → Int
 | 0 => 4294967296
 | 1 => 16777216
 | 2 => 65536
 | _ => 256
def midI : Nat → Int
 | 0 => 1
 | 1 => 256
 | 2 => 65536
 | 3 => 16777216
 | _ => 4294967296
def fourFrom (n : Nat) : Nat → Int → List (List UInt8) → Option Int
 | _, a, [] => some a
 | i, a, p :: ps =>
  match partN p with
  | none => none
  | some v =>
   if i + 1 = n then (if v < capI i then fourFrom n (i + 1) (a * capI i + v) ps else none)
   else (if v < 256 then fourFrom n (i + 1) (a * 256 + v) ps else none)
theorem four_none (n i : Nat) (a : Int) (p : List UInt8) (ps : List (List UInt8)) (h : partN p = none) : fourFrom n i a (p :: ps) = none := by rw [fourFrom, h]
theorem four_last (n i : Nat) (a v : Int) (p : List UInt8) (ps : List (List UInt8)) (h : partN p = some v) (hi : i + 1 = n) (hv : v < capI i) : fourFrom n i a (p :: ps) = fourFrom n (i + 1) (a * capI i + v) ps := by rw [fourFrom, h]; simp only; rw [if_pos hi, if_pos hv]
theorem four_last_no (n i : Nat) (a v : Int) (p : List UInt8) (ps : List (List UInt8)) (h : partN p = some v) (hi : i + 1 = n) (hv : ¬ v < capI i) : fourFrom n i a (p :: ps) = none := by rw [fourFrom, h]; simp only; rw [if_pos hi, if_neg hv]
theorem four_mid (n i : Nat) (a v : Int) (p : List UInt8) (ps : List (List UInt8)) (h : partN p = some v) (hi : i + 1 ≠ n) (hv : v < 256) : fourFrom n i a (p :: ps) = fourFrom n (i + 1) (a * 256 + v) ps := by rw [fourFrom, h]; simp only; rw [if_neg hi, if_pos hv]
theorem four_mid_no (n i : Nat) (a v : Int) (p : List UInt8) (ps : List (List UInt8)) (h : partN p = some v) (hi : i + 1 ≠ n) (hv : ¬ v < 256) : fourFrom n i a (p :: ps) = none := by rw [fourFrom, h]; simp only; rw [if_neg hi, if_neg hv]
def fourL (l : List UInt8) : Option Int :=
 if l.length ≤ 200 ∧ (partsL l).length ≤ 4 then fourFrom (partsL l).length 0 0 (partsL l) else none
def fourZ (l : List UInt8) : Int := (fourL l).getD 0
def fourOk (l : List UInt8) : Bool := (fourL l).isSome
theorem four_is_none (l : List UInt8) (h : fourL l = none) : fourOk l = false ∧ fourZ l = 0 := by unfold fourOk fourZ; rw [h]; exact ⟨rfl, rfl⟩
theorem four_is_some (l : List UInt8) (a : Int) (h : fourL l = some a) : fourOk l = true ∧ fourZ l = a := by unfold fourOk fourZ; rw [h]; exact ⟨rfl, rfl⟩
end Go.Proofs.YtnfhajhdpdidlaaGreatDoor
end
section
namespace Go.Proofs.YtnfhajhdpdidlaaGreatDoor
open Go.RowKit Go.Shelf
theorem digs_at (base acc : Int) (s : ByteArray) (k : Nat) (h : k < s.size) (hc : ¬ (hexV s[k] < 0 ∨ base ≤ hexV s[k] ∨ 4294967295 < acc)) : digs base acc (s.data.toList.drop k) = digs base (acc * base + hexV s[k]) (s.data.toList.drop (k + 1)) := by
 rw [drop_at s k h, digs_yes _ _ _ _ hc]
theorem digs_bad (base acc : Int) (s : ByteArray) (k : Nat) (h : k < s.size) (hc : hexV s[k] < 0 ∨ base ≤ hexV s[k] ∨ 4294967295 < acc) : digs base acc (s.data.toList.drop k) = none := by
 rw [drop_at s k h, digs_no _ _ _ _ hc]
theorem digs_end (base acc : Int) (s : ByteArray) : digs base acc (s.data.toList.drop s.size) = some acc := by
 rw [List.drop_of_length_le (by simp)]; rfl
def digsV (base : Int) (l : List UInt8) : Int := (digs base 0 l).getD (-1)
theorem l2Digits (s : ByteArray) (base : Int) (w : World) (hs : s.size ≤ 1000000) (hb : base = 8 ∨ base = 10 ∨ base = 16) :
  Calls Tryz.prog 157 #[.string s, .int .i64 base] w fun e w' => e = .returned (.int .i64 (digsV base s.data.toList)) ∧ w' = w := by
 have hbl : 8 ≤ base ∧ base ≤ 16 := by omega
 have HB : Hid (base = 8 ∨ base = 10 ∨ base = 16) := hb
 clear hb
 go_enter Tryz.func157, Tryz.ntmps157
 go_wp2
 go_loop [5, 6] (fun n i => ∃ (k : Nat) (acc : Int), k ≤ s.size ∧ i = .int .i64 k ∧ n = .int .i64 acc ∧ 0 ≤ acc ∧ acc ≤ 68719476735 ∧ Hid (digs base acc (s.data.toList.drop k) = digs base 0 s.data.toList)) (fun _ i => s.size - (intOf i).toNat)
 case atStart => exact ⟨0, 0, Nat.zero_le _, rfl, rfl, by omega, by omega, rfl⟩
 case round =>
  obtain ⟨k, acc, hk, rfl, rfl, ha0, ha1, HD⟩ := hrel
  by_cases hp : k < s.size
  ·have hki : (k : Int) < (s.size : Int) := by omega
   have hr := hexV_range s[k]
   rcases (show hexV s[k] < 0 ∨ (0 ≤ hexV s[k] ∧ base ≤ hexV s[k]) ∨ (0 ≤ hexV s[k] ∧ hexV s[k] < base ∧ 4294967295 < acc) ∨ (0 ≤ hexV s[k] ∧ hexV s[k] < base ∧ acc ≤ 4294967295) from by omega) with h1 | ⟨h1, h2⟩ | ⟨h1, h2, h3⟩ | ⟨h1, h2, h3⟩
   ·have HF : Hid (digsV base s.data.toList = -1) := by unfold digsV; rw [← HD.out, digs_bad base acc s k hp (by omega)]; rfl
    go_wp2_with (go_at_call 153; refine (l1Hex s[k] _).mono ?_; rintro e W1 ⟨rfl, hW⟩; have hW2 := hW.symm; subst hW2)
    go_ret
    exact ⟨ret_int HF.out.symm, rfl⟩
   ·have HF : Hid (digsV base s.data.toList = -1) := by unfold digsV; rw [← HD.out, digs_bad base acc s k hp (by omega)]; rfl
    go_wp2_with (go_at_call 153; refine (l1Hex s[k] _).mono ?_; rintro e W1 ⟨rfl, hW⟩; have hW2 := hW.symm; subst hW2)
    go_ret
    exact ⟨ret_int HF.out.symm, rfl⟩
   ·have HF : Hid (digsV base s.data.toList = -1) := by unfold digsV; rw [← HD.out, digs_bad base acc s k hp (by omega)]; rfl
    go_wp2_with (go_at_call 153; refine (l1Hex s[k] _).mono ?_; rintro e W1 ⟨rfl, hW⟩; have hW2 := hW.symm; subst hW2)
    go_ret
    exact ⟨ret_int HF.out.symm, rfl⟩
   ·have HD2 : Hid (digs base (acc * base + hexV s[k]) (s.data.toList.drop (k + 1)) = digs base 0 s.data.toList) := (digs_at base acc s k hp (by omega)).symm.trans HD.out
    obtain ⟨q, hq, hq0, hq1⟩ : ∃ q : Int, acc * base = q ∧ 0 ≤ q ∧ q ≤ 68719476720 := ⟨_, rfl, Int.mul_nonneg ha0 (by omega), by rcases HB.out with e | e | e <;> rw [e] <;> omega⟩
    rw [hq] at HD2
    go_wp2_with (go_at_call 153; refine (l1Hex s[k] _).mono ?_; rintro e W1 ⟨rfl, hW⟩; have hW2 := hW.symm; subst hW2)
    go_round
    case rel => exact ⟨k + 1, q + hexV s[k], by omega, by go_num, rfl, by omega, by omega, HD2⟩
    case measure => simp [intOf]; omega
  ·have hkk : k = s.size := by omega
   subst hkk
   have HF : Hid (digsV base s.data.toList = acc) := by unfold digsV; rw [← HD.out, digs_end]; rfl
   go_wp2
   go_ret
   exact ⟨ret_int HF.out.symm, rfl⟩
end Go.Proofs.YtnfhajhdpdidlaaGreatDoor
end

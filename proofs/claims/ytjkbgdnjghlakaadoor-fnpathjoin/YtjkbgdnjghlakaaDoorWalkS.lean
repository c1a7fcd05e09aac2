/- spec.l3Walk: a path gone on with, piece by piece; PathGet of impl and of spec. -/
import Derived.Test.YtjkbgdnjghlakaaDoorPathS
set_option linter.unusedVariables false
namespace Go.Proofs.YtjkbgdnjghlakaaDoor
open Go.RowKit Go.Shelf

theorem walkTo_zero' (path ps : List (List UInt8)) : walkTo path ps 0 = path := by
  by_cases h : ps = []
  · subst h; rfl
  · exact walkTo_zero path ps h

/-- An append of texts that lie elsewhere onto a slice that the call owns. -/
theorem wpAppendStrs {ops : Array Oper} {rest : List Oper} {o : Oper} {a : Act} {Q : Exit → Act → World → Prop} (w0 : World) (hgd : o.guard = none) (s x : Operand)
    (ho : o.op = .call { callee := .builtin .append, args := #[s, x], argTypes := #[24, 24] })
    (B : Nat) (v : Value) (ps qs : List (List UInt8)) (hI : OwnS B v ps w0) (hs : a.eval s = v) (b off m : Nat)
    (hx : a.eval x = .slice (some ⟨b, off, none⟩) qs.length m) (hq : ∀ j (h : j < qs.length), w0.cell? ⟨b, off + j, none⟩ = some (.string (mk qs[j]))) (hlen : ps.length + qs.length ≤ 1000000000000) (hB : B ≤ w0.heap.size)
    (h : ∀ v' w', OwnS B v' (ps ++ qs) w' → Below B w0 w' → wpList Tryd.prog ops Q rest (a.put o.dst v') w') : wpList Tryd.prog ops Q (o :: rest) a w0 := by
  obtain ⟨i0, hi, hz0, hz1, hz2⟩ := info_parts infoStr
  refine wpList_append_own _ hgd s x 24 ho B 9 i0 (.string ⟨#[]⟩) 1 16 Tryd.underlying24 hi hz0 hz1 hz2 rfl (by decide) v ps.length (ps.map fun p => Value.string (mk p)) hs hI ⟨b, off, none⟩ qs.length m (qs.map fun p => Value.string (mk p)) hx (by simp) ?c1 ?c2 ?c3 ?c4 ?c5 ?_
  case c1 =>
    intro j u hj
    obtain ⟨hj', hu⟩ := List.getElem?_eq_some_iff.1 hj
    have hj2 : j < qs.length := by simpa using hj'
    rw [addr_add_at, hq j hj2, ← hu]; simp
  case c2 => intro u hu; obtain ⟨p, _, rfl⟩ := List.mem_map.1 hu; rfl
  case c3 => unfold maxLen; omega
  case c4 => omega
  case c5 => exact hB
  intro v' w1 hown hgrow _
  refine h v' w1 ?_ ?_
  · unfold OwnS; rw [List.map_append, List.length_append]; exact hown
  · exact (Below.refl B w0).grown hgrow hB (fun k hk => (World.ownsRow.lt hI k hk).1)

set_option maxHeartbeats 4000000 in
set_option maxRecDepth 100000 in
theorem l3Walk (b off m : Nat) (a : Option Addr) (cap : Nat) (ss P : List (List UInt8)) (w : World) (hq : ∀ j (h : j < ss.length), w.cell? ⟨b, off + j, none⟩ = some (.string (mk ss[j]))) (hS : StrsOf a P.length P w) (hPl : P.length ≤ 1000000) (hsl : ss.length ≤ 1000000) (HM : Hid (∀ q ∈ P, q.length ≤ 200)) :
    Calls Tryd.prog 19 #[.slice (some ⟨b, off, none⟩) ss.length m, .slice a P.length cap] w fun e w' => ∃ v, e = .returned v ∧ OwnS w.heap.size v (walkL ss P) w' ∧ Below w.heap.size w w' := by
  have h0 := ownS_new w w.heap.size (Nat.le_refl _)
  have hq' : Hid (∀ j (h : j < ss.length), (w.alloc (.cells #[] 9)).cell? ⟨b, off + j, none⟩ = some (.string (mk ss[j]))) := by
    intro j hj
    exact cell_kept ((Below.refl _ w).alloc (Nat.le_refl _) _) (hq j hj) (cell_in (hq j hj))
  clear hq
  go_enter Tryd.func19, Tryd.ntmps19
  go_wp2_with (at_builtin; refine wpAppendStrs (w.alloc (.cells #[] 9)) rfl _ _ rfl w.heap.size _ [] ss h0 rfl b off m rfl hq'.out (by simp; omega) (by simp) ?_; intro v1 w1 R b1)
  have bA : Below w.heap.size w w1 := ((Below.refl _ w).alloc (Nat.le_refl _) _).trans b1
  rw [List.nil_append] at R
  clear h0 hq' b1
  go_loopw [5, 6] (fun v i wr => ∃ k : Nat, k ≤ P.length ∧ i = .int .i64 k ∧ OwnS w.heap.size v (walkTo ss P k) wr ∧ Below w.heap.size w wr) (fun _ i wr => P.length - (intOf i).toNat)
  case atStart => exact ⟨0, Nat.zero_le _, rfl, by rw [walkTo_zero']; exact R, bA⟩
  case round =>
    clear R bA
    obtain ⟨k, hk, rfl, hI, hbw⟩ := hrel
    have hsz : w.heap.size ≤ wr.heap.size := hbw.size
    by_cases hp : k < P.length
    · have hki : (k : Int) < (P.length : Int) := by omega
      obtain ⟨b2, off2, z, rfl, hc, hzm, _⟩ := (hS.later hbw).at k hp
      have HST : Hid (walkTo ss P (k + 1) = stepL (walkTo ss P k) P[k] (decide (k = P.length - 1))) := walkTo_succ ss P k hp
      have hal : (walkTo ss P k).length ≤ ss.length + P.length := walkTo_len ss P k
      obtain ⟨acc, hacc⟩ : ∃ acc, acc = walkTo ss P k := ⟨_, rfl⟩
      rw [← hacc] at hI HST hal
      have hql : P[k].length ≤ 200 := HM.out _ (List.getElem_mem _)
      obtain ⟨p, hpp⟩ : ∃ p, p = P[k] := ⟨_, rfl⟩
      rw [← hpp] at hzm HST hql
      subst hzm
      clear hpp hacc
      have CD : Hid (∀ W, Calls Tryd.prog 32 #[.string (mk p)] W fun e w' => e = .returned (.int .i64 (dots p)) ∧ Below W.heap.size W w') := fun W => l3Dots p W (by omega)
      have CE : Hid (∀ W, Calls Tryd.prog 33 #[.int .i64 1, .string (mk p)] W fun e w' => e = .returned (.string (mk (encT p))) ∧ Below W.heap.size W w') := by
        intro W
        refine (specEncode 1 (mk p) W (by rw [mk_size]; unfold maxLen; omega)).mono ?_
        rintro e w' ⟨rfl, b⟩
        refine ⟨?_, b⟩
        rw [encode_small 1 (mk p) (by rw [mk_size]; omega), mk_data]; rfl
      obtain ⟨a1, c, rfl, hcc⟩ := hI.shape
      have hk9 : (0 : Int) ≤ (P.length : Int) - 1 := by omega
      go_wp2_with fail
      refine (CD.out _).mono ?_
      rintro e W1 ⟨rfl, d1⟩
      have hI2 := hI.later d1
      have hb2 : Below w.heap.size w W1 := hbw.trans (d1.mono hsz)
      have hc1 := cell_kept d1 hc (cell_in hc)
      have hsz2 := hb2.size
      clear CD hI hbw d1 hsz hc
      rcases dots_cases p with ⟨hd, _⟩ | ⟨hd, _⟩ | ⟨hd, _, _⟩
      · have HD : Hid (dots p = 1) := hd
        rw [hd]
        clear hd
        by_cases hlast : k = P.length - 1
        · have hk3 : ((k : Int) == (P.length : Int) - 1) = true := by simp; omega
          go_wp2_with (at_builtin; refine wpAppendStr W1 rfl _ _ rfl w.heap.size _ acc [] _ rfl hI2 rfl rfl (by omega) hsz2 ?_; intro v1 w4 R b4)
          go_roundw
          case rel => exact ⟨k + 1, by omega, by go_num, by rw [HST.out, stepL_1 _ _ _ HD.out, decide_eq_true hlast, if_pos rfl]; exact R, hb2.trans b4⟩
          case measure => simp [intOf]; omega
        · have hk3 : ((k : Int) == (P.length : Int) - 1) = false := by simp; omega
          go_wp2
          go_roundw
          case rel => exact ⟨k + 1, by omega, by go_num, by rw [HST.out, stepL_1 _ _ _ HD.out, decide_eq_false hlast, if_neg (by simp)]; exact hI2, hb2⟩
          case measure => simp [intOf]; omega
      · have HD : Hid (dots p = 2) := hd
        rw [hd]
        clear hd
        by_cases he : acc = []
        · subst he
          by_cases hlast : k = P.length - 1
          · have hk3 : ((k : Int) == (P.length : Int) - 1) = true := by simp; omega
            go_wp2_with (at_builtin; refine wpAppendStr W1 rfl _ _ rfl w.heap.size _ [] [] _ rfl hI2 rfl rfl (by decide) hsz2 ?_; intro v1 w4 R b4)
            go_roundw
            case rel => exact ⟨k + 1, by omega, by go_num, by rw [HST.out, stepL_2 _ _ _ HD.out, decide_eq_true hlast, if_pos rfl]; exact R, hb2.trans b4⟩
            case measure => simp [intOf]; omega
          · have hk3 : ((k : Int) == (P.length : Int) - 1) = false := by simp; omega
            go_wp2
            go_roundw
            case rel => exact ⟨k + 1, by omega, by go_num, by rw [HST.out, stepL_2 _ _ _ HD.out, decide_eq_false hlast, if_neg (by simp)]; exact hI2, hb2⟩
            case measure => simp [intOf]; omega
        · obtain ⟨n, hn⟩ : ∃ n, acc.length = n + 1 := ⟨acc.length - 1, by have := List.length_pos_iff.2 he; omega⟩
          rw [hn] at hI2 hcc hal ⊢
          have hI3 := hI2.pop
          have hnd : acc.dropLast.length = n := by rw [List.length_dropLast]; omega
          have hn1 : (0 : Int) < (n : Int) + 1 := by omega
          have hn2 : (n : Int) + 1 - 1 = (n : Int) := by omega
          have hn3 : (n : Int) ≤ (c : Int) := by omega
          by_cases hlast : k = P.length - 1
          · have hk3 : ((k : Int) == (P.length : Int) - 1) = true := by simp; omega
            go_wp2_with (at_builtin; refine wpAppendStr W1 rfl _ _ rfl w.heap.size _ acc.dropLast [] _ rfl hI3 rfl rfl (by omega) hsz2 ?_; intro v1 w4 R b4)
            go_roundw
            case rel => exact ⟨k + 1, by omega, by go_num, by rw [HST.out, stepL_2 _ _ _ HD.out, decide_eq_true hlast, if_pos rfl]; exact R, hb2.trans b4⟩
            case measure => simp [intOf]; omega
          · have hk3 : ((k : Int) == (P.length : Int) - 1) = false := by simp; omega
            go_wp2
            go_roundw
            case rel => exact ⟨k + 1, by omega, by go_num, by rw [HST.out, stepL_2 _ _ _ HD.out, decide_eq_false hlast, if_neg (by simp)]; exact hI3, hb2⟩
            case measure => simp [intOf]; omega
      · have HD : Hid (dots p = 0) := hd
        rw [hd]
        clear hd
        by_cases hlast : k = P.length - 1
        all_goals
          first
          | have hk3 : ((k : Int) == (P.length : Int) - 1) = true := by simp; omega
          | have hk3 : ((k : Int) == (P.length : Int) - 1) = false := by simp; omega
          clear hlast
          go_wp2_with fail
          refine (CE.out _).mono ?_
          rintro e W3 ⟨rfl, d3⟩
          have hI3 := hI2.later d3
          have hb3 := hb2.trans (d3.mono hsz2)
          have hsz3 := hb3.size
          go_wp2_with (at_builtin; refine wpAppendStr W3 rfl _ _ rfl w.heap.size _ acc (encT p) _ rfl hI3 rfl rfl (by omega) hsz3 ?_; intro v1 w4 R b4)
          go_roundw
          case rel => exact ⟨k + 1, by omega, by go_num, by rw [HST.out, stepL_0 _ _ _ HD.out]; exact R, hb3.trans b4⟩
          case measure => simp [intOf]; omega
    · have hkk : k = P.length := by omega
      subst hkk
      rw [walkTo_all] at hI
      go_wp2
      go_ret
      exact ⟨_, rfl, hI, hbw⟩

set_option maxHeartbeats 1000000 in
set_option maxRecDepth 100000 in
theorem implPathGet (s : ByteArray) (m : Int) (w : World) (hs : s.size ≤ 10000000) (hm : w.cell? ⟨0, 0, none⟩ = some (.int .i64 m)) :
    Calls Tryd.prog 8 #[.string s] w fun e w' => ∃ v, e = .returned v ∧ OwnS w.heap.size v (pathL s.data.toList) w' ∧ Below w.heap.size w w' := by
  have hl : s.data.toList.length = s.size := by simp
  by_cases h : s.size ≤ 200
  · rw [pathL_small _ (by omega)]
    have C := pathOn s m w h hm
    have hi : (s.size : Int) ≤ 200 := by omega
    go_enter Tryd.func8, Tryd.ntmps8
    go_wp2_with fail
    refine C.mono ?_
    rintro e W1 ⟨v, rfl, hO, d1⟩
    go_wp2
    go_ret
    exact ⟨v, rfl, hO, d1⟩
  · rw [pathL_great _ (by omega)]
    have hi : (200 : Int) < (s.size : Int) := by omega
    go_enter Tryd.func8, Tryd.ntmps8
    go_wp2
    go_ret
    exact ⟨_, rfl, ownS_nil _ _, Below.refl _ _⟩

theorem ext_one (s : ByteArray) (c : UInt8) (r : List UInt8) (h : s.data.toList = c :: r) : s.extract 1 s.size = mk r := by
  have hl : s.data.toList.length = s.size := by simp
  rw [ext_mk, h, List.drop_one, List.tail_cons, List.take_of_length_le]
  rw [h] at hl; simp at hl; omega

set_option maxHeartbeats 2000000 in
set_option maxRecDepth 100000 in
theorem specPathGet (s : ByteArray) (w : World) (hs : s.size ≤ 10000000) :
    Calls Tryd.prog 10 #[.string s] w fun e w' => ∃ v, e = .returned v ∧ OwnS w.heap.size v (pathL s.data.toList) w' ∧ Below w.heap.size w w' := by
  have hl : s.data.toList.length = s.size := by simp
  by_cases h : s.size ≤ 200
  · rw [pathL_small _ (by omega)]
    have hi : (s.size : Int) ≤ 200 := by omega
    obtain ⟨P, hP⟩ : ∃ P, P = piecesL s.data.toList := ⟨_, rfl⟩
    have hPl : P.length ≤ 201 := by rw [hP]; have := piecesL_len s.data.toList; omega
    have HM : Hid (∀ q ∈ P, q.length ≤ 200) := by intro q hq; rw [hP] at hq; have := piecesL_mem _ q hq; omega
    have CP : ∀ (x : ByteArray), x.size ≤ 200 → cutL 47 (slashL x.data.toList) = P → Hid (∀ W, Calls Tryd.prog 20 #[.string x] W fun e w' => ∃ v, e = .returned v ∧ OwnS W.heap.size v P w' ∧ Below W.heap.size W w') := by
      intro x hx hxP W
      have := l3Pieces x.data.toList W (by have : x.data.toList.length = x.size := by simp
                                           omega)
      rw [mk_list, hxP] at this
      exact this
    rw [← hP]
    have hn := ownS_new w w.heap.size (Nat.le_refl _)
    by_cases h0 : s.size = 0
    · have hnil : s.data.toList = [] := List.length_eq_zero_iff.1 (by omega)
      have C1 := CP s h (by rw [hP]; unfold piecesL; rw [hnil]; rfl)
      clear CP hP hnil
      go_enter Tryd.func10, Tryd.ntmps10
      go_wp2_with fail
      refine (C1.out _).mono ?_
      rintro e W1 ⟨v, rfl, hO, d1⟩
      obtain ⟨a, c, rfl, hc, hS⟩ := hO.strs
      go_wp2_with fail
      refine (l3Walk w.heap.size 0 0 a c [] P _ (fun j hj => absurd hj (by simp)) hS (by omega) (by decide) HM).mono ?_
      rintro e W2 ⟨v, rfl, hO2, d2⟩
      go_wp2
      go_ret
      have z1 := d1.size
      simp at z1
      exact ⟨v, rfl, hO2.base (by omega), ((Below.refl _ w).alloc (Nat.le_refl _) _).trans ((d1.mono (by simp)).trans (d2.mono (by omega)))⟩
    · obtain ⟨c0, r, hcr⟩ : ∃ c r, s.data.toList = c :: r := by
        match hh : s.data.toList with
        | [] => rw [hh] at hl; simp at hl; omega
        | c :: r => exact ⟨c, r, rfl⟩
      have hs0 : s[0]'(by omega) = c0 := by
        have : s.data.toList[0]'(by omega) = c0 := by simp [hcr]
        rw [Array.getElem_toList] at this; exact this
      have hrl : r.length + 1 = s.size := by rw [← hl, hcr]; rfl
      have hpos : (0 : Int) < (s.size : Int) := by omega
      by_cases hc : c0 = 47 ∨ c0 = 92
      · have C1 := CP (mk r) (by rw [mk_size]; omega) (by rw [mk_data, hP]; unfold piecesL; rw [hcr, trim_slash c0 r hc])
        have HX : s.extract 1 s.size = mk r := ext_one s c0 r hcr
        clear CP hP hcr
        rcases hc with hc | hc
        · have e1 : (((s[0]'(by omega)).toNat : Int) == 47) = true := by rw [hs0, hc]; rfl
          clear hs0 hc
          go_enter Tryd.func10, Tryd.ntmps10
          go_wp2_with fail
          refine (C1.out _).mono ?_
          rintro e W1 ⟨v, rfl, hO, d1⟩
          obtain ⟨a, c, rfl, hc, hS⟩ := hO.strs
          go_wp2_with fail
          refine (l3Walk w.heap.size 0 0 a c [] P _ (fun j hj => absurd hj (by simp)) hS (by omega) (by decide) HM).mono ?_
          rintro e W2 ⟨v, rfl, hO2, d2⟩
          go_wp2
          go_ret
          have z1 := d1.size
          simp at z1
          exact ⟨v, rfl, hO2.base (by omega), ((Below.refl _ w).alloc (Nat.le_refl _) _).trans ((d1.mono (by simp)).trans (d2.mono (by omega)))⟩
        · have e1 : (((s[0]'(by omega)).toNat : Int) == 47) = false := by rw [hs0, hc]; rfl
          have e2 : (((s[0]'(by omega)).toNat : Int) == 92) = true := by rw [hs0, hc]; rfl
          clear hs0 hc
          go_enter Tryd.func10, Tryd.ntmps10
          go_wp2_with fail
          refine (C1.out _).mono ?_
          rintro e W1 ⟨v, rfl, hO, d1⟩
          obtain ⟨a, c, rfl, hc, hS⟩ := hO.strs
          go_wp2_with fail
          refine (l3Walk w.heap.size 0 0 a c [] P _ (fun j hj => absurd hj (by simp)) hS (by omega) (by decide) HM).mono ?_
          rintro e W2 ⟨v, rfl, hO2, d2⟩
          go_wp2
          go_ret
          have z1 := d1.size
          simp at z1
          exact ⟨v, rfl, hO2.base (by omega), ((Below.refl _ w).alloc (Nat.le_refl _) _).trans ((d1.mono (by simp)).trans (d2.mono (by omega)))⟩
      · have hc1 : c0 ≠ 47 := fun e => hc (.inl e)
        have hc2 : c0 ≠ 92 := fun e => hc (.inr e)
        have C1 := CP s h (by rw [hP]; unfold piecesL; rw [hcr, trim_not c0 r hc1 hc2])
        have e1 : (((s[0]'(by omega)).toNat : Int) == 47) = false := by
          rw [hs0, beq_eq_false_iff_ne]; intro e; exact hc1 (UInt8.toNat_inj.1 (by show _ = 47; omega))
        have e2 : (((s[0]'(by omega)).toNat : Int) == 92) = false := by
          rw [hs0, beq_eq_false_iff_ne]; intro e; exact hc2 (UInt8.toNat_inj.1 (by show _ = 92; omega))
        clear CP hP hcr hs0 hc hc1 hc2
        go_enter Tryd.func10, Tryd.ntmps10
        go_wp2_with fail
        refine (C1.out _).mono ?_
        rintro e W1 ⟨v, rfl, hO, d1⟩
        obtain ⟨a, c, rfl, hc, hS⟩ := hO.strs
        go_wp2_with fail
        refine (l3Walk w.heap.size 0 0 a c [] P _ (fun j hj => absurd hj (by simp)) hS (by omega) (by decide) HM).mono ?_
        rintro e W2 ⟨v, rfl, hO2, d2⟩
        go_wp2
        go_ret
        have z1 := d1.size
        simp at z1
        exact ⟨v, rfl, hO2.base (by omega), ((Below.refl _ w).alloc (Nat.le_refl _) _).trans ((d1.mono (by simp)).trans (d2.mono (by omega)))⟩
  · rw [pathL_great _ (by omega)]
    have hi : (200 : Int) < (s.size : Int) := by omega
    go_enter Tryd.func10, Tryd.ntmps10
    go_wp2
    go_ret
    exact ⟨_, rfl, ownS_new w _ (Nat.le_refl _), (Below.refl _ w).alloc (Nat.le_refl _) _⟩
end Go.Proofs.YtjkbgdnjghlakaaDoor

/- spec.l1Cut and l2Parts: the pieces of a text, the parts of a host's text. -/
import Derived.Test.YtmfmcckjjdnajabDoorHostI
set_option linter.unusedVariables false
namespace Go.Proofs.YtmfmcckjjdnajabDoor
open Go.RowKit Go.Shelf

theorem infoStr : (Tryd.prog.info? 9).map (fun i => (i.zero, i.size, i.bytes)) = some (some (.string ⟨#[]⟩), 1, 16) := by kernel_rfl

/-- The slice value v owns the texts ps. -/
def OwnS (B : Nat) (v : Value) (ps : List (List UInt8)) (w : World) : Prop := w.ownsRow B 9 1 v ps.length (ps.map fun p => Value.string (mk p))
theorem ownS_new (w : World) (B : Nat) (hB : B ≤ w.heap.size) : OwnS B (.slice (some ⟨w.heap.size, 0, none⟩) 0 0) [] (w.alloc (.cells #[] 9)) :=
  ⟨rfl, .inr ⟨w.heap.size, 0, #[], rfl, hB, heap_alloc_new w _, Nat.le_refl _, Nat.zero_le _, rfl, rfl⟩⟩
theorem ownS_strs {B : Nat} {v : Value} {ps : List (List UInt8)} {w : World} (h : OwnS B v ps w) (hne : ps ≠ []) : ∃ g c, v = .slice (some ⟨g, 0, none⟩) ps.length c ∧ B ≤ g ∧ ps.length ≤ c ∧ StrsAt g ps w := by
  rcases h.2 with ⟨_, h0⟩ | ⟨g, cap, cur, hv, hb, hg, hnc, hcm, hcs, htake⟩
  · exact absurd (List.length_eq_zero_iff.1 h0) hne
  · refine ⟨g, cap, hv, hb, hnc, cur, _, _, hg, fun j hj => ?_⟩
    have : (cur.toList.take (ps.length * 1))[j]? = (ps.map fun p => Value.string (mk p))[j]? := by rw [htake]
    rw [List.getElem?_take] at this
    simp [hj] at this
    simpa using this

theorem wpAppendStr {ops : Array Oper} {rest : List Oper} {o : Oper} {a : Act} {Q : Exit → Act → World → Prop} (w0 : World) (hgd : o.guard = none) (s x : Operand)
    (ho : o.op = .call { callee := .builtin .append, args := #[s, x], argTypes := #[33, 33] })
    (B : Nat) (v : Value) (ps : List (List UInt8)) (p : List UInt8) (b : ByteArray) (hb : b = mk p) (hI : OwnS B v ps w0) (hs : a.eval s = v)
    (hx : a.eval x = .slice (some ⟨w0.heap.size, 0, none⟩) 1 1) (hlen : ps.length + 1 ≤ 1000000000000) (hB : B ≤ w0.heap.size)
    (h : ∀ v' w', OwnS B v' (ps ++ [p]) w' → Below B w0 w' → wpList Tryd.prog ops Q rest (a.put o.dst v') w') : wpList Tryd.prog ops Q (o :: rest) a (w0.alloc (.cells #[.string b] 9)) := by
  obtain ⟨i0, hi, hz0, hz1, hz2⟩ := info_parts infoStr
  refine wpList_append_own _ hgd s x 33 ho B 9 i0 (.string ⟨#[]⟩) 1 16 Tryd.underlying33 hi hz0 hz1 hz2 rfl (by decide) v ps.length (ps.map fun p => Value.string (mk p)) hs (World.ownsRow.alloc hI _) ⟨w0.heap.size, 0, none⟩ 1 1 [.string b] hx rfl ?c1 ?c2 ?c3 ?c4 ?c5 ?_
  case c1 =>
    intro j u hj
    rw [addr_add, Lib.cell_of_heap (heap_alloc_new w0 _)]
    simpa using hj
  case c2 => intro u hu; simp at hu; subst hu; rfl
  case c3 => unfold maxLen; omega
  case c4 => omega
  case c5 => simp; omega
  intro v' w1 hown hgrow _
  refine h v' w1 ?_ ?_
  · unfold OwnS; rw [List.map_append, List.length_append]; subst hb; exact hown
  · exact ((Below.refl B w0).alloc hB _).grown hgrow (by simp; omega) (fun k hk => (World.ownsRow.lt hI k hk).1)

theorem ext_mk (s : ByteArray) (f k : Nat) : s.extract f k = mk ((s.data.toList.drop f).take (k - f)) := by
  apply ByteArray.ext
  apply Array.ext'
  simp [mk, ByteArray.data_extract, List.extract_eq_take_drop]

theorem cut_step (b : UInt8) (s : ByteArray) (f k : Nat) (acc all : List (List UInt8)) (hf : f ≤ k) (hk : k < s.size) (hb : s[k] = b) (hno : ∀ j (hj : j < s.size), f ≤ j → j < k → s[j] ≠ b)
    (h : acc ++ cutL b (s.data.toList.drop f) = all) : (acc ++ [(s.data.toList.drop f).take (k - f)]) ++ cutL b (s.data.toList.drop (k + 1)) = all := by
  have hl : s.data.toList.length = s.size := by simp
  have e : s.data.toList.drop f = (s.data.toList.drop f).take (k - f) ++ b :: s.data.toList.drop (k + 1) := by
    conv => lhs; rw [← List.take_append_drop (k - f) (s.data.toList.drop f)]
    rw [List.drop_drop, show f + (k - f) = k from by omega, drop_at s k hk, hb]
  rw [← h]
  conv => rhs; rw [e]
  rw [cutL_hit]
  · simp
  · intro c hc
    obtain ⟨j, hj, e⟩ := List.getElem_of_mem hc
    rw [List.length_take, List.length_drop] at hj
    rw [← e, List.getElem_take, List.getElem_drop]
    exact hno (f + j) (by omega) (by omega) (by omega)
theorem cut_end (b : UInt8) (s : ByteArray) (f : Nat) (acc all : List (List UInt8)) (hf : f ≤ s.size) (hno : ∀ j (hj : j < s.size), f ≤ j → s[j] ≠ b) (h : acc ++ cutL b (s.data.toList.drop f) = all) : acc ++ [(s.data.toList.drop f).take (s.size - f)] = all := by
  have hl : s.data.toList.length = s.size := by simp
  rw [← h, cutL_none]
  · rw [List.take_of_length_le (by rw [List.length_drop]; omega)]
  · intro c hc
    obtain ⟨j, hj, e⟩ := List.getElem_of_mem hc
    rw [List.length_drop] at hj
    rw [← e, List.getElem_drop]
    exact hno (f + j) (by omega) (by omega)

set_option maxHeartbeats 2000000 in
set_option maxRecDepth 100000 in
theorem l1Cut (s : ByteArray) (b : UInt8) (w : World) (hs : s.size ≤ 1048576) :
    Calls Tryd.prog 23 #[.string s, .int .u8 (b.toNat : Int)] w fun e w' => ∃ v, e = .returned v ∧ OwnS w.heap.size v (cutL b s.data.toList) w' ∧ Below w.heap.size w w' := by
  go_enter Tryd.func23, Tryd.ntmps23
  go_wp2
  go_loopw [5, 6, 7] (fun v fr i wr => ∃ (f k : Nat) (acc : List (List UInt8)), f ≤ k ∧ k ≤ s.size ∧ i = .int .i64 k ∧ fr = .int .i64 f ∧ acc.length ≤ f ∧ OwnS w.heap.size v acc wr ∧ Below w.heap.size w wr ∧ Hid (acc ++ cutL b (s.data.toList.drop f) = cutL b s.data.toList) ∧ Hid (∀ j (hj : j < s.size), f ≤ j → j < k → s[j] ≠ b)) (fun _ _ i wr => s.size - (intOf i).toNat)
  case atStart => exact ⟨0, 0, [], Nat.le_refl _, Nat.zero_le _, rfl, rfl, Nat.le_refl _, ownS_new w _ (Nat.le_refl _), (Below.refl _ w).alloc (Nat.le_refl _) _, rfl, fun j hj h1 h2 => absurd h2 (by omega)⟩
  case round =>
    obtain ⟨f, k, acc, hfk, hk, rfl, rfl, hal, hI, hbw, HA, HN⟩ := hrel
    have hsz : w.heap.size ≤ wr.heap.size := hbw.size
    have hfi : (f : Int) ≤ (k : Int) := by omega
    by_cases hp : k < s.size
    · have hki : (k : Int) < (s.size : Int) := by omega
      by_cases hc : s[k] = b
      · have HA2 : Hid ((acc ++ [(s.data.toList.drop f).take (k - f)]) ++ cutL b (s.data.toList.drop (k + 1)) = cutL b s.data.toList) := cut_step b s f k acc _ hfk hp hc HN.out HA.out
        have e1 : ((s[k].toNat : Int) == (b.toNat : Int)) = true := by rw [hc]; simp
        have HM := ext_mk s f k
        have HM2 : Hid (s.extract f k = mk ((s.data.toList.drop f).take (k - f))) := HM
        clear HM hc
        go_wp2_with (at_builtin; refine wpAppendStr wr rfl _ _ rfl w.heap.size _ _ ((s.data.toList.drop f).take (k - f)) _ HM2.out hI rfl rfl (by omega) hsz ?_; intro v1 w1 R b1)
        go_roundw
        case rel => exact ⟨k + 1, k + 1, _, Nat.le_refl _, by omega, by go_num, by go_num, by simp; omega, R, hbw.trans b1, HA2, fun j hj h1 h2 => absurd h2 (by omega)⟩
        case measure => simp [intOf]; omega
      · have e1 : ((s[k].toNat : Int) == (b.toNat : Int)) = false := by
          rw [beq_eq_false_iff_ne]; intro h; exact hc (UInt8.toNat_inj.1 (by omega))
        have HN2 : Hid (∀ j (hj : j < s.size), f ≤ j → j < k + 1 → s[j] ≠ b) := by
          intro j hj h1 h2
          by_cases hjk : j = k
          · subst hjk; exact hc
          · exact HN.out j hj h1 (by omega)
        clear hc
        go_wp2
        go_roundw
        case rel => exact ⟨f, k + 1, acc, by omega, by omega, by go_num, rfl, hal, hI, hbw, HA, HN2⟩
        case measure => simp [intOf]; omega
    · have hkk : k = s.size := by omega
      subst hkk
      have HA2 : Hid (acc ++ [(s.data.toList.drop f).take (s.size - f)] = cutL b s.data.toList) := cut_end b s f acc _ hfk (fun j hj h1 => HN.out j hj h1 hj) HA.out
      have HM2 : Hid (s.extract f s.size = mk ((s.data.toList.drop f).take (s.size - f))) := ext_mk s f s.size
      go_wp2_with (at_builtin; refine wpAppendStr wr rfl _ _ rfl w.heap.size _ _ ((s.data.toList.drop f).take (s.size - f)) _ HM2.out hI rfl rfl (by omega) hsz ?_; intro v1 w1 R b1)
      go_ret
      exact ⟨_, rfl, by rw [← HA2.out]; exact R, hbw.trans b1⟩

set_option maxHeartbeats 2000000 in
set_option maxRecDepth 100000 in
theorem l2Parts (s : ByteArray) (w : World) (hs : s.size ≤ 1048576) :
    Calls Tryd.prog 13 #[.string s] w fun e w' => ∃ g c, e = .returned (.slice (some ⟨g, 0, none⟩) (partsL s.data.toList).length c) ∧ w.heap.size ≤ g ∧ StrsAt g (partsL s.data.toList) w' ∧ Below w.heap.size w w' := by
  obtain ⟨P, hP⟩ : ∃ P, P = cutL 46 s.data.toList := ⟨_, rfl⟩
  have hPne : P ≠ [] := by rw [hP]; exact cutL_ne _ _
  obtain ⟨k, hk⟩ : ∃ k, P.length = k + 1 := ⟨P.length - 1, by have := List.length_pos_iff.2 hPne; omega⟩
  have hk600 : k ≤ 1048577 := by
    have := cutL_len_le 46 s.data.toList
    have hl : s.data.toList.length = s.size := by simp
    rw [← hP] at this; omega
  have CS : Hid (Calls Tryd.prog 23 #[.string s, .int .u8 46] w fun e w' => ∃ g c, e = .returned (.slice (some ⟨g, 0, none⟩) (k + 1) c) ∧ w.heap.size ≤ g ∧ k + 1 ≤ c ∧ StrsAt g P w' ∧ Below w.heap.size w w') := by
    refine (l1Cut s 46 w hs).mono ?_
    rintro e w' ⟨v, rfl, hO, hB⟩
    rw [← hP] at hO
    obtain ⟨g, c, rfl, hg, hc, hS⟩ := ownS_strs hO hPne
    exact ⟨g, c, by rw [hk], hg, by omega, hS, hB⟩
  have HK : Hid (k = 0 ∨ P[k]? ≠ some [] → partsL s.data.toList = P) := by
    intro h
    rw [hP]
    refine partsL_keep _ ?_
    rw [← hP, hk]
    rcases h with h | h
    · left; omega
    · right; simpa using h
  have HD : Hid (1 ≤ k → P[k]? = some [] → partsL s.data.toList = P.dropLast) := by
    intro h1 h2
    rw [hP]
    refine partsL_drop _ ?_ ?_
    · rw [← hP, hk]; omega
    · rw [← hP, hk]; simpa using h2
  have HL : Hid (P.length = k + 1) := hk
  clear hP hk hPne
  have hk1 : (k : Int) + 1 - 1 = (k : Int) := by omega
  by_cases h0 : k = 0
  · have HP : Hid (partsL s.data.toList = P) := HK.out (.inl h0)
    subst h0
    go_enter Tryd.func13, Tryd.ntmps13
    go_wp2_with fail
    refine CS.out.mono ?_
    rintro e w1 ⟨g, c, rfl, hg, hc, hS, hB⟩
    go_wp2
    go_ret
    exact ⟨g, c, by rw [HP.out, HL.out]; rfl, hg, by rw [HP.out]; exact hS, hB⟩
  · have h0i : (1 : Int) < (k : Int) + 1 := by omega
    go_enter Tryd.func13, Tryd.ntmps13
    go_wp2_with fail
    refine CS.out.mono ?_
    rintro e w1 ⟨g, c, rfl, hg, hgc, hS, hB⟩
    have hgci : (k : Int) + 1 ≤ (c : Int) := by omega
    have hgci2 : (k : Int) ≤ (c : Int) := by omega
    have hc := hS.cell k (by rw [HL.out]; omega)
    by_cases hz : P[k]? = some []
    · have HP : Hid (partsL s.data.toList = P.dropLast) := HD.out (by omega) hz
      have hz2 : P[k]'(by rw [HL.out]; omega) = [] := by
        rw [List.getElem?_eq_getElem (by rw [HL.out]; omega)] at hz; exact Option.some.inj hz
      rw [hz2] at hc
      have hc2 : w1.cell? ⟨g, k, none⟩ = some (.string ⟨#[]⟩) := hc
      clear hc
      go_wp2
      go_ret
      exact ⟨g, c, by rw [HP.out, List.length_dropLast, HL.out]; rfl, hg, by rw [HP.out]; exact hS.less, hB⟩
    · have HP : Hid (partsL s.data.toList = P) := HK.out (.inr hz)
      obtain ⟨z, hzz, hzn⟩ : ∃ z : ByteArray, w1.cell? ⟨g, k, none⟩ = some (.string z) ∧ z.toList ≠ [] := by
        refine ⟨_, hc, ?_⟩
        rw [ByteArray.toList_eq, mk_data]
        intro e
        apply hz
        rw [List.getElem?_eq_getElem (by rw [HL.out]; omega), e]
      have hne1 : (z.toList == []) = false := beq_eq_false_iff_ne.2 hzn
      have hne2 : z.toList.isEmpty = false := List.isEmpty_eq_false_iff.2 hzn
      clear hc hz
      go_wp2
      go_ret
      exact ⟨g, c, by rw [HP.out, HL.out]; rfl, hg, by rw [HP.out]; exact hS, hB⟩
end Go.Proofs.YtmfmcckjjdnajabDoor

/- Where a host is put among others; plain facts. -/
import Derived.Test.YtbogjajfbchdjaaDoorSurP
import Derived.Test.YtbogjajfbchdjaaDoorSurO
set_option linter.unusedVariables false
set_option linter.unusedSimpArgs false
namespace Go.Proofs.YtbogjajfbchdjaaDoor
open Go.RowKit Go.Shelf

theorem bl_irrefl : ∀ x : List UInt8, Op.bytesLess x x = false
  | [] => rfl
  | a :: x => by
    unfold Op.bytesLess
    rw [bl_irrefl x]
    simp
theorem bl_trans : ∀ x y z : List UInt8, Op.bytesLess x y = true → Op.bytesLess y z = true → Op.bytesLess x z = true
  | x, [], z, h, _ => by cases x <;> simp [Op.bytesLess] at h
  | [], b :: y, [], _, h => by simp [Op.bytesLess] at h
  | [], b :: y, c :: z, _, _ => by simp [Op.bytesLess]
  | a :: x, b :: y, [], _, h => by simp [Op.bytesLess] at h
  | a :: x, b :: y, c :: z, h1, h2 => by
    have ih := bl_trans x y z
    simp only [Op.bytesLess, Bool.or_eq_true, decide_eq_true_eq, Bool.and_eq_true, beq_iff_eq] at h1 h2 ⊢
    rcases h1 with h1 | ⟨rfl, h1⟩
    · rcases h2 with h2 | ⟨rfl, h2⟩
      · exact .inl (UInt8.lt_trans h1 h2)
      · exact .inl h1
    · rcases h2 with h2 | ⟨rfl, h2⟩
      · exact .inl h2
      · exact .inr ⟨rfl, ih h1 h2⟩
/-- How many hosts stand ahead of h. -/
def kS (ss : List (List UInt8)) (h : List UInt8) : Nat := (ss.takeWhile fun x => Op.bytesLess x h).length
theorem kS_le (ss : List (List UInt8)) (h : List UInt8) : kS ss h ≤ ss.length := (List.takeWhile_sublist _).length_le
theorem kS_lt : ∀ (ss : List (List UInt8)) (h : List UInt8) (t : Nat) (ht : t < kS ss h), Op.bytesLess (ss.getD t h) h = true
  | [], h, t, ht => by simp [kS] at ht
  | x :: r, h, t, ht => by
    unfold kS at ht
    rw [List.takeWhile_cons] at ht
    by_cases c : Op.bytesLess x h = true
    · rw [if_pos c] at ht
      rcases t with _ | t
      · simpa using c
      · have := kS_lt r h t (by unfold kS; simpa using ht)
        simpa using this
    · rw [if_neg c] at ht; simp at ht
theorem kS_stop : ∀ (ss : List (List UInt8)) (h : List UInt8), Op.bytesLess (ss.getD (kS ss h) h) h = false
  | [], h => by show Op.bytesLess h h = false; exact bl_irrefl h
  | x :: r, h => by
    unfold kS
    rw [List.takeWhile_cons]
    by_cases c : Op.bytesLess x h = true
    · rw [if_pos c]
      have := kS_stop r h
      unfold kS at this
      simpa using this
    · rw [if_neg c]
      simpa using c
theorem sure_asc (ss : List (List UInt8)) (h : sureAll ss = true) : ∀ (d i : Nat) (hj : i + d + 1 < ss.length), Op.bytesLess (ss.getD i []) (ss.getD (i + d + 1) []) = true := by
  have h1 : ∀ k, k < ss.length → sureAt ss k = true := fun k hk => by
    unfold sureAll at h
    rw [List.all_eq_true] at h
    exact h k (List.mem_range.2 hk)
  have h2 : ∀ i, i + 1 < ss.length → Op.bytesLess (ss.getD i []) (ss.getD (i + 1) []) = true := fun i hi => by
    have := h1 (i + 1) hi
    unfold sureAt at this
    simp only [Bool.and_eq_true, Bool.or_eq_true, beq_iff_eq, Nat.add_sub_cancel] at this
    rcases this.2 with e | e
    · omega
    · exact e
  intro d
  induction d with
  | zero => exact fun i hi => h2 i hi
  | succ d ih => exact fun i hi => bl_trans _ _ _ (ih i (by omega)) (h2 (i + d + 1) (by omega))
theorem kS_ge (ss : List (List UInt8)) (h : List UInt8) (ha : sureAll ss = true) (t : Nat) (ht : kS ss h ≤ t) : Op.bytesLess (ss.getD t h) h = false := by
  by_cases hl : t < ss.length
  · rcases Nat.eq_or_lt_of_le ht with e | e
    · rw [← e]; exact kS_stop ss h
    · cases hb : Op.bytesLess (ss.getD t h) h with
      | false => rfl
      | true =>
        have hk : kS ss h < ss.length := by omega
        have e1 := sure_asc ss ha (t - kS ss h - 1) (kS ss h) (by omega)
        rw [show kS ss h + (t - kS ss h - 1) + 1 = t by omega] at e1
        have g : ∀ j, j < ss.length → ss.getD j [] = ss.getD j h := fun j hj => by simp [List.getD, List.getElem?_eq_getElem hj]
        rw [g _ hk, g _ hl] at e1
        have := bl_trans _ _ _ e1 hb
        rw [kS_stop] at this
        cases this
  · have e : ss.getD t h = h := by simp [List.getD, List.getElem?_eq_none (Nat.le_of_not_lt hl)]
    rw [e]; exact bl_irrefl h
/-- Whether h stands among the hosts. -/
def fndS (ss : List (List UInt8)) (h : List UInt8) : Bool := decide (ss[kS ss h]? = some h)
theorem searchOwn (B : Nat) (v : Value) (ss : List (List UInt8)) (h : List UInt8) (w : World) (hO : OwnS B v ss w) (ha : sureAll ss = true) (hl : ss.length ≤ 100) :
    Calls Tryd.prog 20 #[v, .string (mk h)] w fun e w' => e = .returned (.tuple #[.int .i64 (kS ss h), .bool (fndS ss h)]) ∧ ∃ q, w' = w.drewN q := by
  rcases hO.2 with ⟨rfl, h0⟩ | ⟨g, cap, cur, rfl, hBg, hg, hnc, hcm, hsz, htk⟩
  · have hss : ss = [] := List.eq_nil_of_length_eq_zero h0
    subst hss
    refine (Any2.slices_BinarySearch_string_empty shSearch none 0 (mk h) w).mono ?_
    rintro e w' ⟨rfl, rfl⟩
    exact ⟨rfl, 0, rfl⟩
  · have hb : Blk g cur 9 w := hg
    rw [Nat.mul_one] at hsz htk
    have hat := row_at htk (by simp)
    have hbs : Lib.bsGo (fun t => Op.bytesLess (mk (ss.getD t h)).toList (mk h).toList) ss.length 0 ss.length = kS ss h :=
      Lib.bsGo_spec _ (kS ss h) (fun t ht => by rw [mk_toList, mk_toList]; exact kS_lt ss h t ht) (fun t ht => by rw [mk_toList, mk_toList]; exact kS_ge ss h ha t ht) ss.length 0 ss.length (by omega) (Nat.zero_le _) (kS_le ss h)
    refine (Any2.slices_BinarySearch_string shSearch g 0 ss.length cap (fun t => mk (ss.getD t h)) (mk h) w (by omega) (fun j hj => ?_)).mono ?_
    · rw [Nat.zero_add, hb.cell]
      refine hat j _ ?_
      rw [List.getElem?_map, List.getElem?_eq_getElem hj]
      simp [List.getD, List.getElem?_eq_getElem hj]
    rintro e w' ⟨rfl, hq⟩
    refine ⟨?_, hq⟩
    rw [hbs]
    have e9 : decide (kS ss h < ss.length ∧ mk (ss.getD (kS ss h) h) = mk h) = fndS ss h := by
      unfold fndS
      rw [decide_eq_decide]
      constructor
      · intro ⟨h1, h2⟩
        rw [List.getElem?_eq_getElem h1]
        have := congrArg (fun b : ByteArray => b.data.toList) h2
        simp only [mk_data] at this
        have e1 : ss.getD (kS ss h) h = ss[kS ss h] := by simp [List.getD, List.getElem?_eq_getElem h1]
        exact congrArg some (e1.symm.trans this)
      · intro e
        have h1 := (List.getElem?_eq_some_iff.1 e).1
        exact ⟨h1, by simp [List.getD, e]⟩
    rw [e9]
end Go.Proofs.YtbogjajfbchdjaaDoor

/- spec.l2Name: whether a text is a host's name. -/
import Derived.Test.YtbogjajfbchdjaaDoorInS
import Derived.Test.YtbogjajfbchdjaaDoorNameP
set_option linter.unusedVariables false
namespace Go.Proofs.YtbogjajfbchdjaaDoor
open Go.RowKit Go.Shelf

theorem nm_cases (c : UInt8) :
    ((97 : Int) ≤ (c.toNat : Int) ∧ (c.toNat : Int) ≤ 122 ∧ nmB c = true) ∨ ((48 : Int) ≤ (c.toNat : Int) ∧ (c.toNat : Int) ≤ 57 ∧ nmB c = true) ∨ ((c.toNat : Int) = 45 ∧ nmB c = true) ∨ ((c.toNat : Int) = 95 ∧ nmB c = true) ∨
    (((c.toNat : Int) < 48 ∧ (c.toNat : Int) ≠ 45) ∧ nmB c = false) ∨ (((57 : Int) < (c.toNat : Int) ∧ (c.toNat : Int) < 97 ∧ (c.toNat : Int) ≠ 95) ∧ nmB c = false) ∨ ((122 : Int) < (c.toNat : Int) ∧ nmB c = false) := by
  have hb := u8_lt c
  have e45 : (c == 45) = decide ((c.toNat : Int) = 45) := by
    by_cases h : c = 45
    · subst h; rfl
    · have : c.toNat ≠ 45 := fun e => h (UInt8.toNat_inj.1 (by simpa using e))
      rw [beq_eq_false_iff_ne.2 h]; exact (decide_eq_false (by omega)).symm
  have e95 : (c == 95) = decide ((c.toNat : Int) = 95) := by
    by_cases h : c = 95
    · subst h; rfl
    · have : c.toNat ≠ 95 := fun e => h (UInt8.toNat_inj.1 (by simpa using e))
      rw [beq_eq_false_iff_ne.2 h]; exact (decide_eq_false (by omega)).symm
  have E : nmB c = decide ((97 ≤ c.toNat ∧ c.toNat ≤ 122) ∨ (48 ≤ c.toNat ∧ c.toNat ≤ 57) ∨ (c.toNat : Int) = 45 ∨ (c.toNat : Int) = 95) := by
    unfold nmB smallB figB; rw [e45, e95]
    simp only [Bool.decide_or, Bool.or_assoc]
  by_cases h : (97 ≤ c.toNat ∧ c.toNat ≤ 122) ∨ (48 ≤ c.toNat ∧ c.toNat ≤ 57) ∨ (c.toNat : Int) = 45 ∨ (c.toNat : Int) = 95
  · have : nmB c = true := by rw [E]; exact decide_eq_true h
    rw [this]; simp only [and_true]; omega
  · have : nmB c = false := by rw [E]; exact decide_eq_false h
    rw [this]; simp only [and_true]; omega

theorem mk_get (l : List UInt8) (k : Nat) (h : k < (mk l).size) : (mk l)[k] = l[k]'(by rw [mk_size] at h; exact h) := by
  simp [mk, ByteArray.getElem_eq_getElem_data]

/-- The pieces ahead of i are as a name asks. -/
def GoodTo (P : List (List UInt8)) (i : Nat) : Prop := ∀ j (hj : j < P.length), j < i → ((j + 1 < P.length ∨ j = 0) → P[j] ≠ []) ∧ ∀ c ∈ P[j], nmB c = true
theorem good_next {P : List (List UInt8)} {i : Nat} (hi : i < P.length) (h : GoodTo P i) (h1 : (i + 1 < P.length ∨ i = 0) → P[i] ≠ []) (h2 : ∀ c ∈ P[i], nmB c = true) : GoodTo P (i + 1) := by
  intro j hj hji
  by_cases e : j = i
  · subst e; exact ⟨h1, h2⟩
  · exact h j hj (by omega)

theorem name_good (l : List UInt8) (h : GoodTo (cutL 46 l) (cutL 46 l).length) : nameL l = decide (1 ≤ l.length ∧ l.length ≤ 60) := by
  by_cases hl : 1 ≤ l.length ∧ l.length ≤ 60
  · rw [decide_eq_true hl]
    refine nameL_yes l hl ?_ (parts_good l (fun i hi hb => (h i hi hi).1 hb))
    intro c hc
    rcases cutL_cover l c hc with e | ⟨p, hp, hcp⟩
    · exact .inr e
    · obtain ⟨j, hj, e⟩ := List.getElem_of_mem hp
      exact .inl ((h j hj hj).2 c (by rw [e]; exact hcp))
  · rw [decide_eq_false hl]; exact nameL_len l hl

set_option maxHeartbeats 4000000 in
set_option maxRecDepth 100000 in
theorem l2Name (s : ByteArray) (w : World) (hs : s.size ≤ 1048576) :
    Calls Tryd.prog 33 #[.string s] w fun e w' => e = .returned (.bool (nameL s.data.toList)) ∧ Below w.heap.size w w' := by
  have hl : s.data.toList.length = s.size := by simp
  obtain ⟨P, hP⟩ : ∃ P, P = cutL 46 s.data.toList := ⟨_, rfl⟩
  have hPne : P ≠ [] := by rw [hP]; exact cutL_ne _ _
  have hll := cutL_len_le 46 s.data.toList
  rw [← hP] at hll
  obtain ⟨n, hn⟩ : ∃ n, n = P.length := ⟨_, rfl⟩
  have HN : Hid (n = P.length) := hn
  have hn9 : n ≤ 1048577 := by omega
  have CS : Hid (Calls Tryd.prog 39 #[.string s, .int .u8 46] w fun e w' => ∃ g c, e = .returned (.slice (some ⟨g, 0, none⟩) n c) ∧ n ≤ c ∧ StrsAt g P w' ∧ Below w.heap.size w w') := by
    refine (l1Cut s 46 w hs).mono ?_
    rintro e w' ⟨v, rfl, hO, hB⟩
    rw [← hP] at hO
    obtain ⟨g, c, rfl, hg, hc, hS⟩ := ownS_strs hO hPne
    exact ⟨g, c, by rw [hn], by omega, hS, hB⟩
  have HBAD : Hid (∀ i (hi : i < P.length), P[i] = [] → (i + 1 < P.length ∨ i = 0) → nameL s.data.toList = false) := by
    intro i hi h hb
    subst hP
    exact nameL_empty _ (parts_bad _ i hi h hb)
  have HBYTE : Hid (∀ i (hi : i < P.length), ∀ c ∈ P[i], nmB c = false → nameL s.data.toList = false) := by
    intro i hi c hc h
    subst hP
    have := cutL_byte s.data.toList _ (List.getElem_mem hi) c hc
    exact nameL_byte _ c this.1 h this.2
  have HGOOD : Hid (GoodTo P n → nameL s.data.toList = decide (1 ≤ s.size ∧ s.size ≤ 60)) := by
    intro h
    subst hn hP
    have := name_good _ h
    rw [hl] at this; exact this
  have HQL : Hid (∀ i (hi : i < P.length), P[i].length ≤ s.size) := by
    intro i hi
    have := cutL_mem_le 46 s.data.toList P[i] (by rw [← hP]; exact List.getElem_mem hi)
    omega
  clear hP hPne hll hn
  go_enter Tryd.func33, Tryd.ntmps33
  go_wp2_with fail
  refine CS.out.mono ?_
  rintro e w1 ⟨g, cc, rfl, hcc, hS, hB⟩
  have HB : Hid (Below w.heap.size w w1) := hB
  have HS : Hid (StrsAt g P w1) := hS
  clear hB hS
  go_wp2
  go_loop [4] (fun i => ∃ k : Nat, k ≤ n ∧ i = .int .i64 k ∧ Hid (GoodTo P k)) (fun i => n - (intOf i).toNat)
  case atStart => exact ⟨0, Nat.zero_le _, rfl, fun j hj h => absurd h (by omega)⟩
  case round =>
    obtain ⟨i, hi, rfl, HA⟩ := hrel
    by_cases hp : i < n
    · have hii : (i : Int) < (n : Int) := by omega
      have hn1 : ((n : Int) - 1) = ((n - 1 : Nat) : Int) := by omega
      have hiP : i < P.length := by rw [← HN.out]; exact hp
      have hc0 := HS.out.cell i hiP
      have HQ : Hid (∀ k (hk : k < (mk P[i]).size), (mk P[i])[k] ∈ P[i]) := fun k hk => by rw [mk_get]; exact List.getElem_mem _
      have hq9 := HQL.out i hiP
      have HBY : Hid (∀ c ∈ P[i], nmB c = false → nameL s.data.toList = false) := HBYTE.out i hiP
      have HALL : Hid ((∀ k (hk : k < (mk P[i]).size), nmB (mk P[i])[k] = true) → ∀ c ∈ P[i], nmB c = true) := by
        intro h c hc
        obtain ⟨j, hj, e⟩ := List.getElem_of_mem hc
        have := h j (by rw [mk_size]; exact hj)
        rw [mk_get, e] at this; exact this
      have HNX : Hid (((i + 1 < n ∨ i = 0) → P[i] ≠ []) → (∀ c ∈ P[i], nmB c = true) → GoodTo P (i + 1)) := fun a b => good_next hiP HA.out (by rw [← HN.out]; exact a) b
      have HZL : Hid (P[i] = [] → (i + 1 < n ∨ i = 0) → nameL s.data.toList = false) := fun a b => HBAD.out i hiP a (by rw [← HN.out]; exact b)
      have hzs : (mk P[i]).size = P[i].length := mk_size _
      have HZE : Hid ((mk P[i]).toList = P[i]) := by show _ = _; rw [ByteArray.toList_eq, mk_data]
      obtain ⟨q, hq⟩ : ∃ q, q = P[i] := ⟨_, rfl⟩
      rw [← hq] at hc0 HQ hq9 HBY HALL HNX HZL hzs HZE
      clear hq
      obtain ⟨z, hz⟩ : ∃ z, z = mk q := ⟨_, rfl⟩
      rw [← hz] at hc0 HQ HALL hzs HZE
      have HZ1 : Hid (q = [] → z = ⟨#[]⟩) := by intro h; rw [hz, h]; rfl
      clear hz
      have hz9 : z.size ≤ 1048576 := by omega
      have HIN : Hid (((i + 1 < n ∨ i = 0) → q ≠ []) → ∀ (W : World), True) := fun _ _ => trivial
      by_cases hbad : q = [] ∧ (i + 1 < n ∨ i = 0)
      · have HF : Hid (nameL s.data.toList = false) := HZL.out hbad.1 hbad.2
        have he := HZ1.out hbad.1
        subst he
        rcases (show i + 1 < n ∨ (¬ i + 1 < n ∧ i = 0) from by omega) with h1 | ⟨h1, h0⟩
        · have h1i : (i : Int) < (n : Int) - 1 := by omega
          clear hbad
          go_wp2
          go_ret
          exact ⟨by rw [HF.out]; rfl, HB.out⟩
        · have h1i : ¬ ((i : Int) < (n : Int) - 1) := by omega
          have h0e : ((i : Int) == 0) = true := by simp [h0]
          clear hbad h0
          go_wp2
          go_ret
          exact ⟨by rw [HF.out]; rfl, HB.out⟩
      · have hnb : (i + 1 < n ∨ i = 0) → q ≠ [] := fun a b => hbad ⟨b, a⟩
        have HNX2 : Hid ((∀ k (hk : k < z.size), nmB z[k] = true) → GoodTo P (i + 1)) := fun h => HNX.out hnb (HALL.out h)
        have HFALSE : Hid (∀ k (hk : k < z.size), nmB z[k] = false → nameL s.data.toList = false) := fun k hk h => HBY.out _ (HQ.out k hk) h
        have LOOP : True := trivial
        by_cases hz0 : z.size = 0
        · have hq0 : q = [] := List.length_eq_zero_iff.1 (by omega)
          have he := HZ1.out hq0
          have h1 : ¬ (i + 1 < n ∨ i = 0) := fun h => hnb h hq0
          have h1i : ¬ ((i : Int) < (n : Int) - 1) := by omega
          have h0e : ((i : Int) == 0) = false := by rw [beq_eq_false_iff_ne]; omega
          have HG : Hid (GoodTo P (i + 1)) := HNX2.out (fun k hk => absurd hk (by omega))
          subst he
          clear hbad hnb h1 hq0
          go_wp2
          go_loop [5] (fun j => j = .int .i64 0) (fun j => 1)
          case atStart => rfl
          case round =>
            obtain rfl := hrel
            go_wp2
            go_round
            case rel => exact ⟨i + 1, by omega, by go_num, HG⟩
            case measure => simp [intOf]; omega
        · have hzn : z.toList ≠ [] := by rw [ByteArray.toList_eq]; exact list_ne z hz0
          have hne1 : (z.toList == []) = false := beq_eq_false_iff_ne.2 hzn
          have hne2 : z.toList.isEmpty = false := List.isEmpty_eq_false_iff.2 hzn
          clear hbad hnb
          go_wp2
          go_loop [5] (fun j => ∃ k : Nat, k ≤ z.size ∧ j = .int .i64 k ∧ Hid (∀ k' (hk : k' < z.size), k' < k → nmB z[k'] = true)) (fun j => z.size - (intOf j).toNat)
          case atStart => exact ⟨0, Nat.zero_le _, rfl, fun j hj h => absurd h (by omega)⟩
          case round =>
            obtain ⟨k, hk, rfl, HK⟩ := hrel
            by_cases hkz : k < z.size
            · have hkzi : (k : Int) < (z.size : Int) := by omega
              have hb := u8_lt z[k]
              rcases nm_cases z[k] with ⟨a1, a2, a3⟩ | ⟨a1, a2, a3⟩ | ⟨a1, a3⟩ | ⟨a1, a3⟩ | ⟨⟨a1, a2⟩, a3⟩ | ⟨⟨a1, a2, a4⟩, a3⟩ | ⟨a1, a3⟩
              rotate_left
              · have b1 : ((z[k]).toNat : Int) < 97 := by omega
                have HK2 : Hid (∀ k' (hk : k' < z.size), k' < k + 1 → nmB z[k'] = true) := by
                  intro j hj h
                  by_cases hjk : j = k
                  · subst hjk; exact a3
                  · exact HK.out j hj (by omega)
                clear a3
                go_wp2
                all_goals go_round
                case rel => exact ⟨k + 1, by omega, by go_num, HK2⟩
                case measure => simp [intOf]; omega
              · have b1 : ((z[k]).toNat : Int) < 97 := by omega
                have b2 : ((z[k]).toNat : Int) < 48 := by omega
                have b3 : (((z[k]).toNat : Int) == 45) = true := by simp [a1]
                have b4 : (((z[k]).toNat : Int) != 45) = false := by simp [a1]
                have HK2 : Hid (∀ k' (hk : k' < z.size), k' < k + 1 → nmB z[k'] = true) := by
                  intro j hj h
                  by_cases hjk : j = k
                  · subst hjk; exact a3
                  · exact HK.out j hj (by omega)
                clear a3
                go_wp2
                all_goals go_round
                case rel => exact ⟨k + 1, by omega, by go_num, HK2⟩
                case measure => simp [intOf]; omega
              · have b1 : ((z[k]).toNat : Int) < 97 := by omega
                have b2 : ¬ ((z[k]).toNat : Int) < 48 := by omega
                have b5 : (57 : Int) < ((z[k]).toNat : Int) := by omega
                have b3 : (((z[k]).toNat : Int) == 95) = true := by simp [a1]
                have b4 : (((z[k]).toNat : Int) != 95) = false := by simp [a1]
                have b6 : (((z[k]).toNat : Int) == 45) = false := by simp [a1]
                have b7 : (((z[k]).toNat : Int) != 45) = true := by simp [a1]
                have HK2 : Hid (∀ k' (hk : k' < z.size), k' < k + 1 → nmB z[k'] = true) := by
                  intro j hj h
                  by_cases hjk : j = k
                  · subst hjk; exact a3
                  · exact HK.out j hj (by omega)
                clear a3
                go_wp2
                all_goals go_round
                case rel => exact ⟨k + 1, by omega, by go_num, HK2⟩
                case measure => simp [intOf]; omega
              rotate_right
              iterate 1
                · have HK2 : Hid (∀ k' (hk : k' < z.size), k' < k + 1 → nmB z[k'] = true) := by
                    intro j hj h
                    by_cases hjk : j = k
                    · subst hjk; exact a3
                    · exact HK.out j hj (by omega)
                  clear a3
                  go_wp2
                  go_round
                  case rel => exact ⟨k + 1, by omega, by go_num, HK2⟩
                  case measure => simp [intOf]; omega
              iterate 3
                · have HF : Hid (nameL s.data.toList = false) := HFALSE.out k hkz a3
                  have b4 : (((z[k]).toNat : Int) != 95) = true := by rw [bne_iff_ne]; omega
                  have b7 : (((z[k]).toNat : Int) != 45) = true := by rw [bne_iff_ne]; omega
                  clear a3
                  go_wp2
                  go_ret
                  exact ⟨by rw [HF.out]; rfl, HB.out⟩
            · have hkk : k = z.size := by omega
              have hkzi : ¬ ((k : Int) < (z.size : Int)) := by omega
              have HG : Hid (GoodTo P (i + 1)) := HNX2.out (fun j hj => HK.out j hj (by omega))
              go_wp2
              go_round
              case rel => exact ⟨i + 1, by omega, by go_num, HG⟩
              case measure => simp [intOf]; omega
    · have hkk : i = n := by omega
      have hni : ¬ ((i : Int) < (n : Int)) := by omega
      have HF : Hid (nameL s.data.toList = decide (1 ≤ s.size ∧ s.size ≤ 60)) := HGOOD.out (by rw [← hkk]; exact HA.out)
      by_cases h6 : 1 ≤ s.size ∧ s.size ≤ 60
      · go_wp2_with (go_at_call 35; refine (l1In_yes _ _ _ _ (by omega)).mono ?_; rintro e W1 ⟨rfl, hW⟩; have hW2 := hW.symm; subst hW2)
        go_ret
        exact ⟨by rw [HF.out, decide_eq_true h6]; rfl, HB.out⟩
      · go_wp2_with (go_at_call 35; refine (l1In_no _ _ _ _ (by omega)).mono ?_; rintro e W1 ⟨rfl, hW⟩; have hW2 := hW.symm; subst hW2)
        go_ret
        exact ⟨by rw [HF.out, decide_eq_false h6]; rfl, HB.out⟩
end Go.Proofs.YtbogjajfbchdjaaDoor

/- spec.l2Name: whether a text is a host's name. spec.l2Ends: whether a host's text ends with a number. spec.FourGet: an address of four bytes. -/
import Derived.Test.YtfcbjdooijhibaaGreatDoorD24
import Derived.Test.YtfcbjdooijhibaaGreatDoorD07
import Derived.Test.YtfcbjdooijhibaaGreatDoorD08
import Derived.Test.YtfcbjdooijhibaaGreatDoorD09
set_option linter.unusedVariables false
set_option maxHeartbeats 8000000
set_option maxRecDepth 100000
section
namespace Go.Proofs.YtfcbjdooijhibaaGreatDoor
open Go.RowKit Go.Shelf
theorem nm_cases (c : UInt8) :
  ((97 : Int) ≤ (c.toNat : Int) ∧ (c.toNat : Int) ≤ 122 ∧ nmB c = true) ∨ ((48 : Int) ≤ (c.toNat : Int) ∧ (c.toNat : Int) ≤ 57 ∧ nmB c = true) ∨ ((c.toNat : Int) = 45 ∧ nmB c = true) ∨ ((c.toNat : Int) = 95 ∧ nmB c = true) ∨
  (((c.toNat : Int) < 48 ∧ (c.toNat : Int) ≠ 45) ∧ nmB c = false) ∨ (((57 : Int) < (c.toNat : Int) ∧ (c.toNat : Int) < 97 ∧ (c.toNat : Int) ≠ 95) ∧ nmB c = false) ∨ ((122 : Int) < (c.toNat : Int) ∧ nmB c = false) := by
 have hb := u8_lt c
 have e45 : (c == 45) = decide ((c.toNat : Int) = 45) := by
  by_cases h : c = 45
  ·subst h; rfl
  ·have : c.toNat ≠ 45 := fun e => h (UInt8.toNat_inj.1 (by simpa using e))
   rw [beq_eq_false_iff_ne.2 h]; exact (decide_eq_false (by omega)).symm
 have e95 : (c == 95) = decide ((c.toNat : Int) = 95) := by
  by_cases h : c = 95
  ·subst h; rfl
  ·have : c.toNat ≠ 95 := fun e => h (UInt8.toNat_inj.1 (by simpa using e))
   rw [beq_eq_false_iff_ne.2 h]; exact (decide_eq_false (by omega)).symm
 have E : nmB c = decide ((97 ≤ c.toNat ∧ c.toNat ≤ 122) ∨ (48 ≤ c.toNat ∧ c.toNat ≤ 57) ∨ (c.toNat : Int) = 45 ∨ (c.toNat : Int) = 95) := by
  unfold nmB smallB figB; rw [e45, e95]
  simp only [Bool.decide_or, Bool.or_assoc]
 by_cases h : (97 ≤ c.toNat ∧ c.toNat ≤ 122) ∨ (48 ≤ c.toNat ∧ c.toNat ≤ 57) ∨ (c.toNat : Int) = 45 ∨ (c.toNat : Int) = 95
 ·have : nmB c = true := by rw [E]; exact decide_eq_true h
  rw [this]; simp only [and_true]; omega
 ·have : nmB c = false := by rw [E]; exact decide_eq_false h
  rw [this]; simp only [and_true]; omega
theorem mk_get (l : List UInt8) (k : Nat) (h : k < (mk l).size) : (mk l)[k] = l[k]'(by rw [mk_size] at h; exact h) := by
 simp [mk, ByteArray.getElem_eq_getElem_data]
def GoodTo (P : List (List UInt8)) (i : Nat) : Prop := ∀ j (hj : j < P.length), j < i → ((j + 1 < P.length ∨ j = 0) → P[j] ≠ []) ∧ ∀ c ∈ P[j], nmB c = true
theorem good_next {P : List (List UInt8)} {i : Nat} (hi : i < P.length) (h : GoodTo P i) (h1 : (i + 1 < P.length ∨ i = 0) → P[i] ≠ []) (h2 : ∀ c ∈ P[i], nmB c = true) : GoodTo P (i + 1) := by
 intro j hj hji
 by_cases e : j = i
 ·subst e; exact ⟨h1, h2⟩
 ·exact h j hj (by omega)
theorem name_good (l : List UInt8) (h : GoodTo (cutL 46 l) (cutL 46 l).length) : nameL l = decide (1 ≤ l.length ∧ l.length ≤ 60) := by
 by_cases hl : 1 ≤ l.length ∧ l.length ≤ 60
 ·rw [decide_eq_true hl]
  refine nameL_yes l hl ?_ (parts_good l (fun i hi hb => (h i hi hi).1 hb))
  intro c hc
  rcases cutL_cover l c hc with e | ⟨p, hp, hcp⟩
  ·exact .inr e
  ·obtain ⟨j, hj, e⟩ := List.getElem_of_mem hp
   exact .inl ((h j hj hj).2 c (by rw [e]; exact hcp))
 ·rw [decide_eq_false hl]; exact nameL_len l hl
theorem l2Name (s : ByteArray) (w : World) (hs : s.size ≤ 1048576) :
  Calls Tryz.prog 94 #[.string s] w fun e w' => e = .returned (.bool (nameL s.data.toList)) ∧ Below w.heap.size w w' := by
 have hl : s.data.toList.length = s.size := by simp
 obtain ⟨P, hP⟩ : ∃ P, P = cutL 46 s.data.toList := ⟨_, rfl⟩
 have hPne : P ≠ [] := by rw [hP]; exact cutL_ne _ _
 have hll := cutL_len_le 46 s.data.toList
 rw [← hP] at hll
 obtain ⟨n, hn⟩ : ∃ n, n = P.length := ⟨_, rfl⟩
 have HN : Hid (n = P.length) := hn
 have hn9 : n ≤ 1048577 := by omega
 have CS : Hid (Calls Tryz.prog 97 #[.string s, .int .u8 46] w fun e w' => ∃ g c, e = .returned (.slice (some ⟨g, 0, none⟩) n c) ∧ n ≤ c ∧ StrsAt g P w' ∧ Below w.heap.size w w') := by
  refine (l1Cut s 46 w hs).mono ?_
  rintro e w' ⟨v, rfl, hO, hB⟩
  rw [← hP] at hO
  obtain ⟨g, c, rfl, hg, hc, hS⟩ := ownS_strs hO hPne
  exact ⟨g, c, by rw [hn], by omega, hS, hB⟩
 have HBAD : Hid (∀ i (hi : i < P.length), P[i] = [] → (i + 1 < P.length ∨ i = 0) → nameL s.data.toList = false) := by
  intro i hi h hb
  subst hP
  exact nameL_empty _ (parts_bad _ i hi h hb)
 have HBYTE : Hid (∀ i (hi : i < P.length), ∀ c ∈ P[i], nmB c = false → nameL s.data.toList = false) := by
  intro i hi c hc h
  subst hP
  have := cutL_byte s.data.toList _ (List.getElem_mem hi) c hc
  exact nameL_byte _ c this.1 h this.2
 have HGOOD : Hid (GoodTo P n → nameL s.data.toList = decide (1 ≤ s.size ∧ s.size ≤ 60)) := by
  intro h
  subst hn hP
  have := name_good _ h
  rw [hl] at this; exact this
 have HQL : Hid (∀ i (hi : i < P.length), P[i].length ≤ s.size) := by
  intro i hi
  have := cutL_mem_le 46 s.data.toList P[i] (by rw [← hP]; exact List.getElem_mem hi)
  omega
 clear hP hPne hll hn
 go_enter Tryz.func94, Tryz.ntmps94
 go_wp2_with fail
 refine CS.out.mono ?_
 rintro e w1 ⟨g, cc, rfl, hcc, hS, hB⟩
 have HB : Hid (Below w.heap.size w w1) := hB
 have HS : Hid (StrsAt g P w1) := hS
 clear hB hS
 go_wp2
 go_loop [4] (fun i => ∃ k : Nat, k ≤ n ∧ i = .int .i64 k ∧ Hid (GoodTo P k)) (fun i => n - (intOf i).toNat)
 case atStart => exact ⟨0, Nat.zero_le _, rfl, fun j hj h => absurd h (by omega)⟩
 case round =>
  obtain ⟨i, hi, rfl, HA⟩ := hrel
  by_cases hp : i < n
  ·have hii : (i : Int) < (n : Int) := by omega
   have hn1 : ((n : Int) - 1) = ((n - 1 : Nat) : Int) := by omega
   have hiP : i < P.length := by rw [← HN.out]; exact hp
   have hc0 := HS.out.cell i hiP
   have HQ : Hid (∀ k (hk : k < (mk P[i]).size), (mk P[i])[k] ∈ P[i]) := fun k hk => by rw [mk_get]; exact List.getElem_mem _
   have hq9 := HQL.out i hiP
   have HBY : Hid (∀ c ∈ P[i], nmB c = false → nameL s.data.toList = false) := HBYTE.out i hiP
   have HALL : Hid ((∀ k (hk : k < (mk P[i]).size), nmB (mk P[i])[k] = true) → ∀ c ∈ P[i], nmB c = true) := by
    intro h c hc
    obtain ⟨j, hj, e⟩ := List.getElem_of_mem hc
    have := h j (by rw [mk_size]; exact hj)
    rw [mk_get, e] at this; exact this
   have HNX : Hid (((i + 1 < n ∨ i = 0) → P[i] ≠ []) → (∀ c ∈ P[i], nmB c = true) → GoodTo P (i + 1)) := fun a b => good_next hiP HA.out (by rw [← HN.out]; exact a) b
   have HZL : Hid (P[i] = [] → (i + 1 < n ∨ i = 0) → nameL s.data.toList = false) := fun a b => HBAD.out i hiP a (by rw [← HN.out]; exact b)
   have hzs : (mk P[i]).size = P[i].length := mk_size _
   have HZE : Hid ((mk P[i]).toList = P[i]) := by show _ = _; rw [ByteArray.toList_eq, mk_data]
   obtain ⟨q, hq⟩ : ∃ q, q = P[i] := ⟨_, rfl⟩
   rw [← hq] at hc0 HQ hq9 HBY HALL HNX HZL hzs HZE
   clear hq
   obtain ⟨z, hz⟩ : ∃ z, z = mk q := ⟨_, rfl⟩
   rw [← hz] at hc0 HQ HALL hzs HZE
   have HZ1 : Hid (q = [] → z = ⟨#[]⟩) := by intro h; rw [hz, h]; rfl
   clear hz
   have hz9 : z.size ≤ 1048576 := by omega
   have HIN : Hid (((i + 1 < n ∨ i = 0) → q ≠ []) → ∀ (W : World), True) := fun _ _ => trivial
   by_cases hbad : q = [] ∧ (i + 1 < n ∨ i = 0)
   ·have HF : Hid (nameL s.data.toList = false) := HZL.out hbad.1 hbad.2
    have he := HZ1.out hbad.1
    subst he
    rcases (show i + 1 < n ∨ (¬ i + 1 < n ∧ i = 0) from by omega) with h1 | ⟨h1, h0⟩
    ·have h1i : (i : Int) < (n : Int) - 1 := by omega
     clear hbad
     go_wp2
     go_ret
     exact ⟨by rw [HF.out]; rfl, HB.out⟩
    ·have h1i : ¬ ((i : Int) < (n : Int) - 1) := by omega
     have h0e : ((i : Int) == 0) = true := by simp [h0]
     clear hbad h0
     go_wp2
     go_ret
     exact ⟨by rw [HF.out]; rfl, HB.out⟩
   ·have hnb : (i + 1 < n ∨ i = 0) → q ≠ [] := fun a b => hbad ⟨b, a⟩
    have HNX2 : Hid ((∀ k (hk : k < z.size), nmB z[k] = true) → GoodTo P (i + 1)) := fun h => HNX.out hnb (HALL.out h)
    have HFALSE : Hid (∀ k (hk : k < z.size), nmB z[k] = false → nameL s.data.toList = false) := fun k hk h => HBY.out _ (HQ.out k hk) h
    have LOOP : True := trivial
    by_cases hz0 : z.size = 0
    ·have hq0 : q = [] := List.length_eq_zero_iff.1 (by omega)
     have he := HZ1.out hq0
     have h1 : ¬ (i + 1 < n ∨ i = 0) := fun h => hnb h hq0
     have h1i : ¬ ((i : Int) < (n : Int) - 1) := by omega
     have h0e : ((i : Int) == 0) = false := by rw [beq_eq_false_iff_ne]; omega
     have HG : Hid (GoodTo P (i + 1)) := HNX2.out (fun k hk => absurd hk (by omega))
     subst he
     clear hbad hnb h1 hq0
     go_wp2
     go_loop [5] (fun j => j = .int .i64 0) (fun j => 1)
     case atStart => rfl
     case round =>
      obtain rfl := hrel
      go_wp2
      go_round
      case rel => exact ⟨i + 1, by omega, by go_num, HG⟩
      case measure => simp [intOf]; omega
    ·have hzn : z.toList ≠ [] := by rw [ByteArray.toList_eq]; exact list_ne z hz0
     have hne1 : (z.toList == []) = false := beq_eq_false_iff_ne.2 hzn
     have hne2 : z.toList.isEmpty = false := List.isEmpty_eq_false_iff.2 hzn
     clear hbad hnb
     go_wp2
     go_loop [5] (fun j => ∃ k : Nat, k ≤ z.size ∧ j = .int .i64 k ∧ Hid (∀ k' (hk : k' < z.size), k' < k → nmB z[k'] = true)) (fun j => z.size - (intOf j).toNat)
     case atStart => exact ⟨0, Nat.zero_le _, rfl, fun j hj h => absurd h (by omega)⟩
     case round =>
      obtain ⟨k, hk, rfl, HK⟩ := hrel
      by_cases hkz : k < z.size
      ·have hkzi : (k : Int) < (z.size : Int) := by omega
       have hb := u8_lt z[k]
       rcases nm_cases z[k] with ⟨a1, a2, a3⟩ | ⟨a1, a2, a3⟩ | ⟨a1, a3⟩ | ⟨a1, a3⟩ | ⟨⟨a1, a2⟩, a3⟩ | ⟨⟨a1, a2, a4⟩, a3⟩ | ⟨a1, a3⟩
       rotate_left
       ·have b1 : ((z[k]).toNat : Int) < 97 := by omega
        have HK2 : Hid (∀ k' (hk : k' < z.size), k' < k + 1 → nmB z[k'] = true) := by
         intro j hj h
         by_cases hjk : j = k
         ·subst hjk; exact a3
         ·exact HK.out j hj (by omega)
        clear a3
        go_wp2
        all_goals go_round
        case rel => exact ⟨k + 1, by omega, by go_num, HK2⟩
        case measure => simp [intOf]; omega
       ·have b1 : ((z[k]).toNat : Int) < 97 := by omega
        have b2 : ((z[k]).toNat : Int) < 48 := by omega
        have b3 : (((z[k]).toNat : Int) == 45) = true := by simp [a1]
        have b4 : (((z[k]).toNat : Int) != 45) = false := by simp [a1]
        have HK2 : Hid (∀ k' (hk : k' < z.size), k' < k + 1 → nmB z[k'] = true) := by
         intro j hj h
         by_cases hjk : j = k
         ·subst hjk; exact a3
         ·exact HK.out j hj (by omega)
        clear a3
        go_wp2
        all_goals go_round
        case rel => exact ⟨k + 1, by omega, by go_num, HK2⟩
        case measure => simp [intOf]; omega
       ·have b1 : ((z[k]).toNat : Int) < 97 := by omega
        have b2 : ¬ ((z[k]).toNat : Int) < 48 := by omega
        have b5 : (57 : Int) < ((z[k]).toNat : Int) := by omega
        have b3 : (((z[k]).toNat : Int) == 95) = true := by simp [a1]
        have b4 : (((z[k]).toNat : Int) != 95) = false := by simp [a1]
        have b6 : (((z[k]).toNat : Int) == 45) = false := by simp [a1]
        have b7 : (((z[k]).toNat : Int) != 45) = true := by simp [a1]
        have HK2 : Hid (∀ k' (hk : k' < z.size), k' < k + 1 → nmB z[k'] = true) := by
         intro j hj h
         by_cases hjk : j = k
         ·subst hjk; exact a3
         ·exact HK.out j hj (by omega)
        clear a3
        go_wp2
        all_goals go_round
        case rel => exact ⟨k + 1, by omega, by go_num, HK2⟩
        case measure => simp [intOf]; omega
       rotate_right
       iterate 1
        ·have HK2 : Hid (∀ k' (hk : k' < z.size), k' < k + 1 → nmB z[k'] = true) := by
          intro j hj h
          by_cases hjk : j = k
          ·subst hjk; exact a3
          ·exact HK.out j hj (by omega)
         clear a3
         go_wp2
         go_round
         case rel => exact ⟨k + 1, by omega, by go_num, HK2⟩
         case measure => simp [intOf]; omega
       iterate 3
        ·have HF : Hid (nameL s.data.toList = false) := HFALSE.out k hkz a3
         have b4 : (((z[k]).toNat : Int) != 95) = true := by rw [bne_iff_ne]; omega
         have b7 : (((z[k]).toNat : Int) != 45) = true := by rw [bne_iff_ne]; omega
         clear a3
         go_wp2
         go_ret
         exact ⟨by rw [HF.out]; rfl, HB.out⟩
      ·have hkk : k = z.size := by omega
       have hkzi : ¬ ((k : Int) < (z.size : Int)) := by omega
       have HG : Hid (GoodTo P (i + 1)) := HNX2.out (fun j hj => HK.out j hj (by omega))
       go_wp2
       go_round
       case rel => exact ⟨i + 1, by omega, by go_num, HG⟩
       case measure => simp [intOf]; omega
  ·have hkk : i = n := by omega
   have hni : ¬ ((i : Int) < (n : Int)) := by omega
   have HF : Hid (nameL s.data.toList = decide (1 ≤ s.size ∧ s.size ≤ 60)) := HGOOD.out (by rw [← hkk]; exact HA.out)
   by_cases h6 : 1 ≤ s.size ∧ s.size ≤ 60
   ·go_wp2_with (go_at_call 96; refine (l1In_yes _ _ _ _ (by omega)).mono ?_; rintro e W1 ⟨rfl, hW⟩; have hW2 := hW.symm; subst hW2)
    go_ret
    exact ⟨by rw [HF.out, decide_eq_true h6]; rfl, HB.out⟩
   ·go_wp2_with (go_at_call 96; refine (l1In_no _ _ _ _ (by omega)).mono ?_; rintro e W1 ⟨rfl, hW⟩; have hW2 := hW.symm; subst hW2)
    go_ret
    exact ⟨by rw [HF.out, decide_eq_false h6]; rfl, HB.out⟩
end Go.Proofs.YtfcbjdooijhibaaGreatDoor
end
section
namespace Go.Proofs.YtfcbjdooijhibaaGreatDoor
open Go.RowKit Go.Shelf
theorem figs_next (s : ByteArray) (k : Nat) (h : k < s.size) : figsL (s.data.toList.take (k + 1)) = (figsL (s.data.toList.take k) && figB s[k]) := by
 unfold figsL; rw [take_snoc s k h]; simp
theorem fig_dec (c : UInt8) : figB c = (decide ((48 : Int) ≤ (c.toNat : Int)) && decide ((c.toNat : Int) ≤ 57)) := by
 unfold figB; rw [← Bool.decide_and]; exact decide_eq_decide.2 (by omega)
theorem l2Ends (s : ByteArray) (w : World) (hs : s.size ≤ 1000000) :
  Calls Tryz.prog 95 #[.string s] w fun e w' => e = .returned (.bool (endsL s.data.toList)) ∧ Below w.heap.size w w' := by
 have hl : s.data.toList.length = s.size := by simp
 have CP : Hid (Calls Tryz.prog 75 #[.string s] w fun e w' => ∃ g c, e = .returned (.slice (some ⟨g, 0, none⟩) (partsL s.data.toList).length c) ∧ w.heap.size ≤ g ∧ StrsAt g (partsL s.data.toList) w' ∧ Below w.heap.size w w') := l2Parts s w (by omega)
 have h1 := partsL_ne s.data.toList
 have hll := partsL_len_le s.data.toList
 have hq9 := lastP_le s.data.toList
 have HQ : Hid (∀ g W, StrsAt g (partsL s.data.toList) W → W.cell? ⟨g, (partsL s.data.toList).length - 1, none⟩ = some (.string (mk (lastP s.data.toList)))) := fun g W h => h.cell _ (by omega)
 have H0 : Hid (lastP s.data.toList = [] → endsL s.data.toList = false) := ends_empty _
 have HH : Hid (hexA (lastP s.data.toList) = true → endsL s.data.toList = partOk (lastP s.data.toList)) := ends_hex _
 have HX : Hid (hexA (lastP s.data.toList) = true → figsL (lastP s.data.toList) = false) := hexA_figs _
 have HV : Hid (decide (0 ≤ partV (lastP s.data.toList)) = partOk (lastP s.data.toList)) := partV_ok _
 have HF : Hid (lastP s.data.toList ≠ [] → hexA (lastP s.data.toList) = false → endsL s.data.toList = figsL (lastP s.data.toList)) := ends_figs _
 obtain ⟨n, hn⟩ : ∃ n, (partsL s.data.toList).length = n + 1 := ⟨(partsL s.data.toList).length - 1, by omega⟩
 obtain ⟨q, hq⟩ : ∃ q, q = lastP s.data.toList := ⟨_, rfl⟩
 rw [← hq] at HQ H0 HH HF hq9 HX HV
 rw [hn] at CP HQ hll
 have hn9 : n ≤ 1000001 := by omega
 have hn1 : (n : Int) + 1 - 1 = (n : Int) := by omega
 obtain ⟨z, hz⟩ : ∃ z, z = mk q := ⟨_, rfl⟩
 have hzq : z.data.toList = q := by rw [hz, mk_data]
 rw [← hz] at HQ
 rw [← hzq] at H0 HH HF hq9 HX HV
 have hz9 : z.size ≤ 1000000 := by
  have : z.data.toList.length = z.size := by simp
  omega
 clear hn hq hz hzq hll hq9 hl h1 q
 go_enter Tryz.func95, Tryz.ntmps95
 go_wp2_with fail
 refine CP.out.mono ?_
 rintro e w1 ⟨g, c, rfl, hg, hS, hB⟩
 have hc : w1.cell? ⟨g, n, none⟩ = some (.string z) := HQ.out _ _ hS
 have HB : Hid (Below w.heap.size w w1) := hB
 clear hS hB HQ hg
 by_cases hz0 : z.data.toList = []
 ·have HZ : Hid (endsL s.data.toList = false) := H0.out hz0
  have he : z = ⟨#[]⟩ := by
   have := mk_list z
   rw [hz0] at this
   exact this.symm
  subst he
  clear hz0
  go_wp2
  go_ret
  exact ⟨by rw [HZ.out]; rfl, HB.out⟩
 ·have HF2 : Hid (hexA z.data.toList = false → endsL s.data.toList = figsL z.data.toList) := HF.out hz0
  have hzn : z.toList ≠ [] := by rw [ByteArray.toList_eq]; exact hz0
  have hne1 : (z.toList == []) = false := beq_eq_false_iff_ne.2 hzn
  have hne2 : z.toList.isEmpty = false := List.isEmpty_eq_false_iff.2 hzn
  clear hz0
  go_wp2
  go_loop [5, 6] (fun a i => ∃ k : Nat, k ≤ z.size ∧ i = .int .i64 k ∧ a = .bool (figsL (z.data.toList.take k))) (fun a i => z.size - (intOf i).toNat)
  case atStart => exact ⟨0, Nat.zero_le _, rfl, rfl⟩
  case round =>
   obtain ⟨k, hk, rfl, rfl⟩ := hrel
   by_cases hp : k < z.size
   ·have hki : (k : Int) < (z.size : Int) := by omega
    have HT : Hid (figsL (z.data.toList.take (k + 1)) = (figsL (z.data.toList.take k) && figB z[k])) := figs_next z k hp
    have HD : Hid (figB z[k] = (decide ((48 : Int) ≤ (z[k].toNat : Int)) && decide ((z[k].toNat : Int) ≤ 57))) := fig_dec _
    have hb := u8_lt z[k]
    cases ha : figsL (z.data.toList.take k) with
    | false =>
     have HT2 : Hid (figsL (z.data.toList.take (k + 1)) = false) := by show _ = _; rw [HT.out, ha]; rfl
     go_wp2
     go_round
     case rel => exact ⟨k + 1, by omega, by go_num, by rw [HT2.out]⟩
     case measure => simp [intOf]; omega
    | true =>
     rcases (show (z[k].toNat : Int) < 48 ∨ ((48 : Int) ≤ (z[k].toNat : Int) ∧ (z[k].toNat : Int) ≤ 57) ∨ ((48 : Int) ≤ (z[k].toNat : Int) ∧ (57 : Int) < (z[k].toNat : Int)) from by omega) with a1 | ⟨a1, a2⟩ | ⟨a1, a2⟩
     ·have HT2 : Hid (figsL (z.data.toList.take (k + 1)) = false) := by show _ = _; rw [HT.out, ha, HD.out, decide_eq_false (by omega)]; rfl
      go_wp2
      go_round
      case rel => exact ⟨k + 1, by omega, by go_num, by rw [HT2.out]⟩
      case measure => simp [intOf]; omega
     ·have HT2 : Hid (figsL (z.data.toList.take (k + 1)) = true) := by show _ = _; rw [HT.out, ha, HD.out, decide_eq_true a1, decide_eq_true a2]; rfl
      go_wp2
      go_round
      case rel => exact ⟨k + 1, by omega, by go_num, by rw [HT2.out]⟩
      case measure => simp [intOf]; omega
     ·have HT2 : Hid (figsL (z.data.toList.take (k + 1)) = false) := by show _ = _; rw [HT.out, ha, HD.out, decide_eq_true a1, decide_eq_false (by omega)]; rfl
      go_wp2
      go_round
      case rel => exact ⟨k + 1, by omega, by go_num, by rw [HT2.out, decide_eq_false (by omega)]⟩
      case measure => simp [intOf]; omega
   ·have hkk : k = z.size := by omega
    subst hkk
    have hfull : z.data.toList.take z.size = z.data.toList := List.take_of_length_le (by simp)
    rw [hfull]
    cases ha : figsL z.data.toList with
    | true =>
     have HZ : Hid (endsL s.data.toList = true) := by
      cases hx : hexA z.data.toList with
      | true => rw [HX.out hx] at ha; cases ha
      | false => show _ = _; rw [HF2.out hx]; exact ha
     go_wp2
     go_ret
     exact ⟨by rw [HZ.out]; rfl, HB.out⟩
    | false =>
     by_cases h2 : z.size < 2
     ·have HZ : Hid (endsL s.data.toList = false) := by show _ = _; rw [HF2.out (hexA_short z h2)]; exact ha
      have h2i : (z.size : Int) < 2 := by omega
      go_wp2
      go_ret
      exact ⟨by rw [HZ.out]; rfl, HB.out⟩
     ·have h2' : 2 ≤ z.size := by omega
      have h2i : (2 : Int) ≤ (z.size : Int) := by omega
      by_cases h0 : z[0] = 48
      ·have e0 : ((z[0].toNat : Int) == 48) = true := u8_beq z[0] 48 (by omega) h0
       by_cases h3 : z[1] = 120
       ·have e1 : ((z[1].toNat : Int) == 120) = true := u8_beq z[1] 120 (by omega) h3
        have HZ : Hid (endsL s.data.toList = decide (0 ≤ partV z.data.toList)) := by show _ = _; rw [HV.out]; exact HH.out (hexA_yes z h2' h0 (.inl h3))
        clear h0 h3
        go_wp2_with (go_at_call 121; refine (l2Part z _ hz9).mono ?_; rintro e W1 ⟨rfl, hW⟩; have hW2 := hW.symm; subst hW2)
        go_ret
        exact ⟨by rw [HZ.out]; rfl, HB.out⟩
       ·have e1 : ((z[1].toNat : Int) == 120) = false := u8_bne z[1] 120 (by omega) h3
        by_cases h4 : z[1] = 88
        ·have e2 : ((z[1].toNat : Int) == 88) = true := u8_beq z[1] 88 (by omega) h4
         have HZ : Hid (endsL s.data.toList = decide (0 ≤ partV z.data.toList)) := by show _ = _; rw [HV.out]; exact HH.out (hexA_yes z h2' h0 (.inr h4))
         clear h0 h3 h4
         go_wp2_with (go_at_call 121; refine (l2Part z _ hz9).mono ?_; rintro e W1 ⟨rfl, hW⟩; have hW2 := hW.symm; subst hW2)
         go_ret
         exact ⟨by rw [HZ.out]; rfl, HB.out⟩
        ·have e2 : ((z[1].toNat : Int) == 88) = false := u8_bne z[1] 88 (by omega) h4
         have HZ : Hid (endsL s.data.toList = false) := by show _ = _; rw [HF2.out (hexA_no1 z h2' h3 h4)]; exact ha
         clear h0 h3 h4
         go_wp2
         go_ret
         exact ⟨by rw [HZ.out]; rfl, HB.out⟩
      ·have e0 : ((z[0].toNat : Int) == 48) = false := u8_bne z[0] 48 (by omega) h0
       have HZ : Hid (endsL s.data.toList = false) := by show _ = _; rw [HF2.out (hexA_no0 z h2' h0)]; exact ha
       clear h0
       go_wp2
       go_ret
       exact ⟨by rw [HZ.out]; rfl, HB.out⟩
end Go.Proofs.YtfcbjdooijhibaaGreatDoor
end
section
namespace Go.Proofs.YtfcbjdooijhibaaGreatDoor
open Go.RowKit Go.Shelf
theorem specFour (s : ByteArray) (w : World) (hs : s.size ≤ 1048576) :
  Calls Tryz.prog 134 #[.string s] w fun e w' => e = .returned (.tuple #[.int .i64 (fourZ s.data.toList), .bool (fourOk s.data.toList)]) ∧ Below w.heap.size w w' := by
 have hl : s.data.toList.length = s.size := by simp
 have HM : Hid (∀ q ∈ partsL s.data.toList, q.length ≤ s.size) := fun q hq => by have := partsL_mem_le s.data.toList q hq; omega
 have CP : Hid (Calls Tryz.prog 75 #[.string s] w fun e w' => ∃ g c, e = .returned (.slice (some ⟨g, 0, none⟩) (partsL s.data.toList).length c) ∧ w.heap.size ≤ g ∧ StrsAt g (partsL s.data.toList) w' ∧ Below w.heap.size w w') := l2Parts s w hs
 have HO : Hid (s.size ≤ 200 → (partsL s.data.toList).length ≤ 4 → fourL s.data.toList = fourFrom (partsL s.data.toList).length 0 0 (partsL s.data.toList)) := fun h0 h => by unfold fourL; rw [if_pos ⟨by omega, h⟩]
 have HG : Hid (¬ (s.size ≤ 200 ∧ (partsL s.data.toList).length ≤ 4) → fourL s.data.toList = none) := fun h => by unfold fourL; rw [if_neg (fun hh => h ⟨by omega, hh.2⟩)]
 have h1 := partsL_ne s.data.toList
 have hll := partsL_len_le s.data.toList
 obtain ⟨P, hP⟩ : ∃ P, P = partsL s.data.toList := ⟨_, rfl⟩
 rw [← hP] at HM CP HO HG h1 hll
 clear hP
 obtain ⟨n, hn⟩ : ∃ n, n = P.length := ⟨_, rfl⟩
 rw [← hn] at CP HO HG h1 hll
 have HN : Hid (n = P.length) := hn
 have hn9 : n ≤ 1048577 := by omega
 clear hn hll hl
 by_cases h4 : n ≤ 4
 rotate_left
 ·have h4i : (4 : Int) < (n : Int) := by omega
  have HZ : Hid (fourOk s.data.toList = false ∧ fourZ s.data.toList = 0) := four_is_none _ (HG.out (fun hh => h4 hh.2))
  go_enter Tryz.func134, Tryz.ntmps134
  go_wp2_with fail
  refine CP.out.mono ?_
  rintro e w1 ⟨g, c, rfl, hg, hS, hB⟩
  go_wp2
  go_ret2
  exact ⟨by rw [HZ.out.1, HZ.out.2]; rfl, hB⟩
 have h4i : (n : Int) ≤ 4 := by omega
 by_cases hL : s.size ≤ 200
 rotate_left
 ·have hLi : (200 : Int) < (s.size : Int) := by omega
  have HZ : Hid (fourOk s.data.toList = false ∧ fourZ s.data.toList = 0) := four_is_none _ (HG.out (fun hh => hL hh.1))
  go_enter Tryz.func134, Tryz.ntmps134
  go_wp2_with fail
  refine CP.out.mono ?_
  rintro e w1 ⟨g, c, rfl, hg, hS, hB⟩
  go_wp2
  go_ret2
  exact ⟨by rw [HZ.out.1, HZ.out.2]; rfl, hB⟩
 have hLi : (s.size : Int) ≤ 200 := by omega
 have HO3 : Hid (fourL s.data.toList = fourFrom n 0 0 P) := HO.out hL h4
 clear HO HG
 go_enter Tryz.func134, Tryz.ntmps134
 go_wp2_with fail
 refine CP.out.mono ?_
 rintro e w1 ⟨g, c, rfl, hg, hS, hB⟩
 go_wp2_with fail
 go_loopw [5, 6] (fun ad ix wr => ∃ (i : Nat) (acc : Int), i ≤ n ∧ ix = .int .i64 i ∧ ad = .int .i64 acc ∧ 0 ≤ acc ∧ acc ≤ 4294967295 ∧ Hid (i < n → acc < midI i) ∧ StrsAt g P wr ∧ Below w.heap.size w wr ∧ Hid (fourFrom n i acc (P.drop i) = fourFrom n 0 0 P)) (fun _ ix wr => n - (intOf ix).toNat)
 case atStart => exact ⟨0, 0, Nat.zero_le _, rfl, rfl, by omega, by omega, fun _ => by decide, hS, hB, rfl⟩
 case round =>
  obtain ⟨i, acc, hi, rfl, rfl, ha0, ha1, HI, hSr, hBr, HF⟩ := hrel
  by_cases hp : i < n
  rotate_left
  ·have hin : i = n := by omega
   subst hin
   have hpi : ¬ ((i : Int) < (i : Int)) := by omega
   have HZ : Hid (fourOk s.data.toList = true ∧ fourZ s.data.toList = acc) := four_is_some _ _ (by rw [HO3.out, ← HF.out, List.drop_of_length_le (by rw [← HN.out]; exact Nat.le_refl _)]; rfl)
   go_wp2
   go_ret2
   exact ⟨by rw [HZ.out.1, HZ.out.2]; rfl, hBr⟩
  ·have hpi : (i : Int) < (n : Int) := by omega
   have hiP : i < P.length := by rw [← HN.out]; exact hp
   have hc := hSr.cell i hiP
   have hmid := HI.out hp
   obtain ⟨nv, HV, HW, hv0, hv1, CQ⟩ : ∃ nv : Int, Hid (0 ≤ nv → partN P[i] = some nv) ∧ Hid (nv < 0 → partN P[i] = none) ∧ -1 ≤ nv ∧ nv ≤ 68719476735 ∧ Hid (∀ W, Calls Tryz.prog 121 #[.string (mk P[i])] W fun e w' => e = .returned (.int .i64 nv) ∧ w' = W) := by
    have hq := HM.out _ (List.getElem_mem hiP)
    have CC := fun W => l2Part (mk P[i]) W (by rw [mk_size]; omega)
    cases hpn : partN P[i] with
    | none =>
     refine ⟨-1, fun h => absurd h (by omega), fun _ => rfl, by omega, by omega, fun W => ?_⟩
     have := CC W
     rw [mk_data, show partV P[i] = -1 from by unfold partV; rw [hpn]; rfl] at this
     exact this
    | some v =>
     have g0 := partN_ge _ _ hpn
     refine ⟨v, fun _ => rfl, fun h => absurd h (by omega), by omega, partN_le _ _ hpn, fun W => ?_⟩
     have := CC W
     rw [mk_data, show partV P[i] = v from by unfold partV; rw [hpn]; rfl] at this
     exact this
   rcases (show i = 0 ∨ i = 1 ∨ i = 2 ∨ i = 3 from by omega) with rfl | rfl | rfl | rfl
   ·have hm2 : acc < 1 := hmid
    by_cases hlast : n = 1
    ·have HL1 : Hid (n = 1) := hlast
     have hli : ((0 : Int) == (n : Int) - 1) = true := beq_iff_eq.2 (by omega)
     have hn1 : n ≤ 1 := by omega
     have hn2 : 1 ≤ n := by omega
     clear hlast
     by_cases hv : 0 ≤ nv ∧ nv < (4294967296 : Int)
     ·have HF2 : Hid (fourFrom n 1 (acc * 4294967296 + nv) (P.drop 1) = fourFrom n 0 0 P) := by rw [← HF.out, drop_four P 0 hiP]; exact (four_last n 0 acc nv _ (P.drop 1) (HV.out hv.1) HL1.out.symm hv.2).symm
      obtain ⟨hv1, hv2⟩ := hv
      go_wp2_with (first | (go_at_call 121; refine (CQ.out _).mono ?_; rintro e W1 ⟨rfl, hW⟩; have hW2 := hW.symm; subst hW2) | fail)
      go_loop [8, 9] (fun m k => (m = .int .i64 255 ∧ k = .int .i64 0) ∨ (m = .int .i64 65535 ∧ k = .int .i64 1) ∨ (m = .int .i64 16777215 ∧ k = .int .i64 2) ∨ (m = .int .i64 4294967295 ∧ k = .int .i64 3)) (fun _ k => 3 - (intOf k).toNat)
      case atStart => exact .inl ⟨rfl, rfl⟩
      case round =>
       rcases hrel with ⟨rfl, rfl⟩ | ⟨rfl, rfl⟩ | ⟨rfl, rfl⟩ | ⟨rfl, rfl⟩
       ·go_wp2
        go_round
        case rel => exact .inr (.inl ⟨rfl, rfl⟩)
        case measure => decide
       ·go_wp2
        go_round
        case rel => exact .inr (.inr (.inl ⟨rfl, rfl⟩))
        case measure => decide
       ·go_wp2
        go_round
        case rel => exact .inr (.inr (.inr (⟨rfl, rfl⟩)))
        case measure => decide
       ·go_wp2_with (first | (go_at_call 96; refine (l1In_yes nv 0 4294967295 _ (by omega)).mono ?_; rintro e W1 ⟨rfl, hW⟩; have hW2 := hW.symm; subst hW2) | fail)
        go_roundw
        case rel => exact ⟨1, acc * 4294967296 + nv, by omega, by go_num, by go_num, by omega, by omega, fun h => absurd h (by omega), hSr, hBr, HF2⟩
        case measure => simp [intOf]; omega
     ·have HZ : Hid (fourOk s.data.toList = false ∧ fourZ s.data.toList = 0) := four_is_none _ (by
       rw [HO3.out, ← HF.out, drop_four P 0 hiP]
       by_cases h : 0 ≤ nv
       ·exact four_last_no n 0 acc nv _ (P.drop 1) (HV.out h) HL1.out.symm (fun hh => hv ⟨h, hh⟩)
       ·exact four_none _ _ _ _ _ (HW.out (by omega)))
      have hv2 : ¬ (0 ≤ nv ∧ nv ≤ 4294967295) := by have := hv; omega
      clear hv
      go_wp2_with (first | (go_at_call 121; refine (CQ.out _).mono ?_; rintro e W1 ⟨rfl, hW⟩; have hW2 := hW.symm; subst hW2) | fail)
      go_loop [8, 9] (fun m k => (m = .int .i64 255 ∧ k = .int .i64 0) ∨ (m = .int .i64 65535 ∧ k = .int .i64 1) ∨ (m = .int .i64 16777215 ∧ k = .int .i64 2) ∨ (m = .int .i64 4294967295 ∧ k = .int .i64 3)) (fun _ k => 3 - (intOf k).toNat)
      case atStart => exact .inl ⟨rfl, rfl⟩
      case round =>
       rcases hrel with ⟨rfl, rfl⟩ | ⟨rfl, rfl⟩ | ⟨rfl, rfl⟩ | ⟨rfl, rfl⟩
       ·go_wp2
        go_round
        case rel => exact .inr (.inl ⟨rfl, rfl⟩)
        case measure => decide
       ·go_wp2
        go_round
        case rel => exact .inr (.inr (.inl ⟨rfl, rfl⟩))
        case measure => decide
       ·go_wp2
        go_round
        case rel => exact .inr (.inr (.inr (⟨rfl, rfl⟩)))
        case measure => decide
       ·go_wp2_with (first | (go_at_call 96; refine (l1In_no nv 0 4294967295 _ (by omega)).mono ?_; rintro e W1 ⟨rfl, hW⟩; have hW2 := hW.symm; subst hW2) | fail)
        go_ret2
        exact ⟨by rw [HZ.out.1, HZ.out.2]; rfl, hBr⟩
    ·have hli : ((0 : Int) == (n : Int) - 1) = false := beq_eq_false_iff_ne.2 (by omega)
     by_cases hv : 0 ≤ nv ∧ nv < (256 : Int)
     ·have HF2 : Hid (fourFrom n 1 (acc * 256 + nv) (P.drop 1) = fourFrom n 0 0 P) := by rw [← HF.out, drop_four P 0 hiP]; exact (four_mid n 0 acc nv _ (P.drop 1) (HV.out hv.1) (by omega) hv.2).symm
      obtain ⟨hv1, hv2⟩ := hv
      go_wp2_with (first | (go_at_call 121; refine (CQ.out _).mono ?_; rintro e W1 ⟨rfl, hW⟩; have hW2 := hW.symm; subst hW2) | (go_at_call 96; refine (l1In_yes nv 0 255 _ (by omega)).mono ?_; rintro e W1 ⟨rfl, hW⟩; have hW2 := hW.symm; subst hW2))
      go_roundw
      case rel => exact ⟨1, acc * 256 + nv, by omega, by go_num, by go_num, by omega, by omega, fun _ => by show acc * 256 + nv < 256; omega, hSr, hBr, HF2⟩
      case measure => simp [intOf]; omega
     ·have HZ : Hid (fourOk s.data.toList = false ∧ fourZ s.data.toList = 0) := four_is_none _ (by
       rw [HO3.out, ← HF.out, drop_four P 0 hiP]
       by_cases h : 0 ≤ nv
       ·exact four_mid_no n 0 acc nv _ (P.drop 1) (HV.out h) (by omega) (fun hh => hv ⟨h, hh⟩)
       ·exact four_none _ _ _ _ _ (HW.out (by omega)))
      have hv2 : ¬ (0 ≤ nv ∧ nv ≤ 255) := by have := hv; omega
      clear hv
      go_wp2_with (first | (go_at_call 121; refine (CQ.out _).mono ?_; rintro e W1 ⟨rfl, hW⟩; have hW2 := hW.symm; subst hW2) | (go_at_call 96; refine (l1In_no nv 0 255 _ (by omega)).mono ?_; rintro e W1 ⟨rfl, hW⟩; have hW2 := hW.symm; subst hW2))
      go_ret2
      exact ⟨by rw [HZ.out.1, HZ.out.2]; rfl, hBr⟩
   ·have hm2 : acc < 256 := hmid
    by_cases hlast : n = 2
    ·have HL1 : Hid (n = 2) := hlast
     have hli : ((1 : Int) == (n : Int) - 1) = true := beq_iff_eq.2 (by omega)
     have hn1 : n ≤ 2 := by omega
     have hn2 : 2 ≤ n := by omega
     clear hlast
     by_cases hv : 0 ≤ nv ∧ nv < (16777216 : Int)
     ·have HF2 : Hid (fourFrom n 2 (acc * 16777216 + nv) (P.drop 2) = fourFrom n 0 0 P) := by rw [← HF.out, drop_four P 1 hiP]; exact (four_last n 1 acc nv _ (P.drop 2) (HV.out hv.1) HL1.out.symm hv.2).symm
      obtain ⟨hv1, hv2⟩ := hv
      go_wp2_with (first | (go_at_call 121; refine (CQ.out _).mono ?_; rintro e W1 ⟨rfl, hW⟩; have hW2 := hW.symm; subst hW2) | fail)
      go_loop [8, 9] (fun m k => (m = .int .i64 255 ∧ k = .int .i64 1) ∨ (m = .int .i64 65535 ∧ k = .int .i64 2) ∨ (m = .int .i64 16777215 ∧ k = .int .i64 3)) (fun _ k => 3 - (intOf k).toNat)
      case atStart => exact .inl ⟨rfl, rfl⟩
      case round =>
       rcases hrel with ⟨rfl, rfl⟩ | ⟨rfl, rfl⟩ | ⟨rfl, rfl⟩
       ·go_wp2
        go_round
        case rel => exact .inr (.inl ⟨rfl, rfl⟩)
        case measure => decide
       ·go_wp2
        go_round
        case rel => exact .inr (.inr (⟨rfl, rfl⟩))
        case measure => decide
       ·go_wp2_with (first | (go_at_call 96; refine (l1In_yes nv 0 16777215 _ (by omega)).mono ?_; rintro e W1 ⟨rfl, hW⟩; have hW2 := hW.symm; subst hW2) | fail)
        go_roundw
        case rel => exact ⟨2, acc * 16777216 + nv, by omega, by go_num, by go_num, by omega, by omega, fun h => absurd h (by omega), hSr, hBr, HF2⟩
        case measure => simp [intOf]; omega
     ·have HZ : Hid (fourOk s.data.toList = false ∧ fourZ s.data.toList = 0) := four_is_none _ (by
       rw [HO3.out, ← HF.out, drop_four P 1 hiP]
       by_cases h : 0 ≤ nv
       ·exact four_last_no n 1 acc nv _ (P.drop 2) (HV.out h) HL1.out.symm (fun hh => hv ⟨h, hh⟩)
       ·exact four_none _ _ _ _ _ (HW.out (by omega)))
      have hv2 : ¬ (0 ≤ nv ∧ nv ≤ 16777215) := by have := hv; omega
      clear hv
      go_wp2_with (first | (go_at_call 121; refine (CQ.out _).mono ?_; rintro e W1 ⟨rfl, hW⟩; have hW2 := hW.symm; subst hW2) | fail)
      go_loop [8, 9] (fun m k => (m = .int .i64 255 ∧ k = .int .i64 1) ∨ (m = .int .i64 65535 ∧ k = .int .i64 2) ∨ (m = .int .i64 16777215 ∧ k = .int .i64 3)) (fun _ k => 3 - (intOf k).toNat)
      case atStart => exact .inl ⟨rfl, rfl⟩
      case round =>
       rcases hrel with ⟨rfl, rfl⟩ | ⟨rfl, rfl⟩ | ⟨rfl, rfl⟩
       ·go_wp2
        go_round
        case rel => exact .inr (.inl ⟨rfl, rfl⟩)
        case measure => decide
       ·go_wp2
        go_round
        case rel => exact .inr (.inr (⟨rfl, rfl⟩))
        case measure => decide
       ·go_wp2_with (first | (go_at_call 96; refine (l1In_no nv 0 16777215 _ (by omega)).mono ?_; rintro e W1 ⟨rfl, hW⟩; have hW2 := hW.symm; subst hW2) | fail)
        go_ret2
        exact ⟨by rw [HZ.out.1, HZ.out.2]; rfl, hBr⟩
    ·have hli : ((1 : Int) == (n : Int) - 1) = false := beq_eq_false_iff_ne.2 (by omega)
     by_cases hv : 0 ≤ nv ∧ nv < (256 : Int)
     ·have HF2 : Hid (fourFrom n 2 (acc * 256 + nv) (P.drop 2) = fourFrom n 0 0 P) := by rw [← HF.out, drop_four P 1 hiP]; exact (four_mid n 1 acc nv _ (P.drop 2) (HV.out hv.1) (by omega) hv.2).symm
      obtain ⟨hv1, hv2⟩ := hv
      go_wp2_with (first | (go_at_call 121; refine (CQ.out _).mono ?_; rintro e W1 ⟨rfl, hW⟩; have hW2 := hW.symm; subst hW2) | (go_at_call 96; refine (l1In_yes nv 0 255 _ (by omega)).mono ?_; rintro e W1 ⟨rfl, hW⟩; have hW2 := hW.symm; subst hW2))
      go_roundw
      case rel => exact ⟨2, acc * 256 + nv, by omega, by go_num, by go_num, by omega, by omega, fun _ => by show acc * 256 + nv < 65536; omega, hSr, hBr, HF2⟩
      case measure => simp [intOf]; omega
     ·have HZ : Hid (fourOk s.data.toList = false ∧ fourZ s.data.toList = 0) := four_is_none _ (by
       rw [HO3.out, ← HF.out, drop_four P 1 hiP]
       by_cases h : 0 ≤ nv
       ·exact four_mid_no n 1 acc nv _ (P.drop 2) (HV.out h) (by omega) (fun hh => hv ⟨h, hh⟩)
       ·exact four_none _ _ _ _ _ (HW.out (by omega)))
      have hv2 : ¬ (0 ≤ nv ∧ nv ≤ 255) := by have := hv; omega
      clear hv
      go_wp2_with (first | (go_at_call 121; refine (CQ.out _).mono ?_; rintro e W1 ⟨rfl, hW⟩; have hW2 := hW.symm; subst hW2) | (go_at_call 96; refine (l1In_no nv 0 255 _ (by omega)).mono ?_; rintro e W1 ⟨rfl, hW⟩; have hW2 := hW.symm; subst hW2))
      go_ret2
      exact ⟨by rw [HZ.out.1, HZ.out.2]; rfl, hBr⟩
   ·have hm2 : acc < 65536 := hmid
    by_cases hlast : n = 3
    ·have HL1 : Hid (n = 3) := hlast
     have hli : ((2 : Int) == (n : Int) - 1) = true := beq_iff_eq.2 (by omega)
     have hn1 : n ≤ 3 := by omega
     have hn2 : 3 ≤ n := by omega
     clear hlast
     by_cases hv : 0 ≤ nv ∧ nv < (65536 : Int)
     ·have HF2 : Hid (fourFrom n 3 (acc * 65536 + nv) (P.drop 3) = fourFrom n 0 0 P) := by rw [← HF.out, drop_four P 2 hiP]; exact (four_last n 2 acc nv _ (P.drop 3) (HV.out hv.1) HL1.out.symm hv.2).symm
      obtain ⟨hv1, hv2⟩ := hv
      go_wp2_with (first | (go_at_call 121; refine (CQ.out _).mono ?_; rintro e W1 ⟨rfl, hW⟩; have hW2 := hW.symm; subst hW2) | fail)
      go_loop [8, 9] (fun m k => (m = .int .i64 255 ∧ k = .int .i64 2) ∨ (m = .int .i64 65535 ∧ k = .int .i64 3)) (fun _ k => 3 - (intOf k).toNat)
      case atStart => exact .inl ⟨rfl, rfl⟩
      case round =>
       rcases hrel with ⟨rfl, rfl⟩ | ⟨rfl, rfl⟩
       ·go_wp2
        go_round
        case rel => exact .inr (⟨rfl, rfl⟩)
        case measure => decide
       ·go_wp2_with (first | (go_at_call 96; refine (l1In_yes nv 0 65535 _ (by omega)).mono ?_; rintro e W1 ⟨rfl, hW⟩; have hW2 := hW.symm; subst hW2) | fail)
        go_roundw
        case rel => exact ⟨3, acc * 65536 + nv, by omega, by go_num, by go_num, by omega, by omega, fun h => absurd h (by omega), hSr, hBr, HF2⟩
        case measure => simp [intOf]; omega
     ·have HZ : Hid (fourOk s.data.toList = false ∧ fourZ s.data.toList = 0) := four_is_none _ (by
       rw [HO3.out, ← HF.out, drop_four P 2 hiP]
       by_cases h : 0 ≤ nv
       ·exact four_last_no n 2 acc nv _ (P.drop 3) (HV.out h) HL1.out.symm (fun hh => hv ⟨h, hh⟩)
       ·exact four_none _ _ _ _ _ (HW.out (by omega)))
      have hv2 : ¬ (0 ≤ nv ∧ nv ≤ 65535) := by have := hv; omega
      clear hv
      go_wp2_with (first | (go_at_call 121; refine (CQ.out _).mono ?_; rintro e W1 ⟨rfl, hW⟩; have hW2 := hW.symm; subst hW2) | fail)
      go_loop [8, 9] (fun m k => (m = .int .i64 255 ∧ k = .int .i64 2) ∨ (m = .int .i64 65535 ∧ k = .int .i64 3)) (fun _ k => 3 - (intOf k).toNat)
      case atStart => exact .inl ⟨rfl, rfl⟩
      case round =>
       rcases hrel with ⟨rfl, rfl⟩ | ⟨rfl, rfl⟩
       ·go_wp2
        go_round
        case rel => exact .inr (⟨rfl, rfl⟩)
        case measure => decide
       ·go_wp2_with (first | (go_at_call 96; refine (l1In_no nv 0 65535 _ (by omega)).mono ?_; rintro e W1 ⟨rfl, hW⟩; have hW2 := hW.symm; subst hW2) | fail)
        go_ret2
        exact ⟨by rw [HZ.out.1, HZ.out.2]; rfl, hBr⟩
    ·have hli : ((2 : Int) == (n : Int) - 1) = false := beq_eq_false_iff_ne.2 (by omega)
     by_cases hv : 0 ≤ nv ∧ nv < (256 : Int)
     ·have HF2 : Hid (fourFrom n 3 (acc * 256 + nv) (P.drop 3) = fourFrom n 0 0 P) := by rw [← HF.out, drop_four P 2 hiP]; exact (four_mid n 2 acc nv _ (P.drop 3) (HV.out hv.1) (by omega) hv.2).symm
      obtain ⟨hv1, hv2⟩ := hv
      go_wp2_with (first | (go_at_call 121; refine (CQ.out _).mono ?_; rintro e W1 ⟨rfl, hW⟩; have hW2 := hW.symm; subst hW2) | (go_at_call 96; refine (l1In_yes nv 0 255 _ (by omega)).mono ?_; rintro e W1 ⟨rfl, hW⟩; have hW2 := hW.symm; subst hW2))
      go_roundw
      case rel => exact ⟨3, acc * 256 + nv, by omega, by go_num, by go_num, by omega, by omega, fun _ => by show acc * 256 + nv < 16777216; omega, hSr, hBr, HF2⟩
      case measure => simp [intOf]; omega
     ·have HZ : Hid (fourOk s.data.toList = false ∧ fourZ s.data.toList = 0) := four_is_none _ (by
       rw [HO3.out, ← HF.out, drop_four P 2 hiP]
       by_cases h : 0 ≤ nv
       ·exact four_mid_no n 2 acc nv _ (P.drop 3) (HV.out h) (by omega) (fun hh => hv ⟨h, hh⟩)
       ·exact four_none _ _ _ _ _ (HW.out (by omega)))
      have hv2 : ¬ (0 ≤ nv ∧ nv ≤ 255) := by have := hv; omega
      clear hv
      go_wp2_with (first | (go_at_call 121; refine (CQ.out _).mono ?_; rintro e W1 ⟨rfl, hW⟩; have hW2 := hW.symm; subst hW2) | (go_at_call 96; refine (l1In_no nv 0 255 _ (by omega)).mono ?_; rintro e W1 ⟨rfl, hW⟩; have hW2 := hW.symm; subst hW2))
      go_ret2
      exact ⟨by rw [HZ.out.1, HZ.out.2]; rfl, hBr⟩
   ·have hm2 : acc < 16777216 := hmid
    have hlast : n = 4 := by omega
    have HL1 : Hid (n = 4) := hlast
    have hli : ((3 : Int) == (n : Int) - 1) = true := beq_iff_eq.2 (by omega)
    have hn1 : n ≤ 4 := by omega
    have hn2 : 4 ≤ n := by omega
    clear hlast
    by_cases hv : 0 ≤ nv ∧ nv < (256 : Int)
    ·have HF2 : Hid (fourFrom n 4 (acc * 256 + nv) (P.drop 4) = fourFrom n 0 0 P) := by rw [← HF.out, drop_four P 3 hiP]; exact (four_last n 3 acc nv _ (P.drop 4) (HV.out hv.1) HL1.out.symm hv.2).symm
     obtain ⟨hv1, hv2⟩ := hv
     go_wp2_with (first | (go_at_call 121; refine (CQ.out _).mono ?_; rintro e W1 ⟨rfl, hW⟩; have hW2 := hW.symm; subst hW2) | fail)
     go_loop [8, 9] (fun m k => (m = .int .i64 255 ∧ k = .int .i64 3)) (fun _ k => 3 - (intOf k).toNat)
     case atStart => exact ⟨rfl, rfl⟩
     case round =>
      obtain ⟨rfl, rfl⟩ := hrel
      go_wp2_with (first | (go_at_call 96; refine (l1In_yes nv 0 255 _ (by omega)).mono ?_; rintro e W1 ⟨rfl, hW⟩; have hW2 := hW.symm; subst hW2) | fail)
      go_roundw
      case rel => exact ⟨4, acc * 256 + nv, by omega, by go_num, by go_num, by omega, by omega, fun h => absurd h (by omega), hSr, hBr, HF2⟩
      case measure => simp [intOf]; omega
    ·have HZ : Hid (fourOk s.data.toList = false ∧ fourZ s.data.toList = 0) := four_is_none _ (by
      rw [HO3.out, ← HF.out, drop_four P 3 hiP]
      by_cases h : 0 ≤ nv
      ·exact four_last_no n 3 acc nv _ (P.drop 4) (HV.out h) HL1.out.symm (fun hh => hv ⟨h, hh⟩)
      ·exact four_none _ _ _ _ _ (HW.out (by omega)))
     have hv2 : ¬ (0 ≤ nv ∧ nv ≤ 255) := by have := hv; omega
     clear hv
     go_wp2_with (first | (go_at_call 121; refine (CQ.out _).mono ?_; rintro e W1 ⟨rfl, hW⟩; have hW2 := hW.symm; subst hW2) | fail)
     go_loop [8, 9] (fun m k => (m = .int .i64 255 ∧ k = .int .i64 3)) (fun _ k => 3 - (intOf k).toNat)
     case atStart => exact ⟨rfl, rfl⟩
     case round =>
      obtain ⟨rfl, rfl⟩ := hrel
      go_wp2_with (first | (go_at_call 96; refine (l1In_no nv 0 255 _ (by omega)).mono ?_; rintro e W1 ⟨rfl, hW⟩; have hW2 := hW.symm; subst hW2) | fail)
      go_ret2
      exact ⟨by rw [HZ.out.1, HZ.out.2]; rfl, hBr⟩
end Go.Proofs.YtfcbjdooijhibaaGreatDoor
end

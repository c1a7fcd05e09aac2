/- spec.l1Cut and l2Parts: the pieces of a text, the parts of a host's text. spec.l1In: whether a number lies between two. spec.l3Port. spec.l2Name: whether a text is a host's name. spec.l2Ends: whether a host's text ends with a number. -/
import Derived.Test.YtnfhajhdpdidlaaGreatDoorB07
import Derived.Test.YtnfhajhdpdidlaaGreatDoorB05
import Derived.Test.YtnfhajhdpdidlaaGreatDoorB26
import Derived.Test.YtnfhajhdpdidlaaGreatDoorB08
set_option linter.unusedVariables false
set_option linter.unusedSimpArgs false
set_option maxHeartbeats 4000000
set_option maxRecDepth 100000
section
namespace Go.Proofs.YtnfhajhdpdidlaaGreatDoor
open Go.RowKit Go.Shelf
theorem l2Parts (s : ByteArray) (w : World) (hs : s.size ≤ 1048576) :
  Calls Tryz.prog 134 #[.string s] w fun e w' => ∃ g c, e = .returned (.slice (some ⟨g, 0, none⟩) (partsL s.data.toList).length c) ∧ w.heap.size ≤ g ∧ StrsAt g (partsL s.data.toList) w' ∧ Below w.heap.size w w' := by
 obtain ⟨P, hP⟩ : ∃ P, P = cutL 46 s.data.toList := ⟨_, rfl⟩
 have hPne : P ≠ [] := by rw [hP]; exact cutL_ne _ _
 obtain ⟨k, hk⟩ : ∃ k, P.length = k + 1 := ⟨P.length - 1, by have := List.length_pos_iff.2 hPne; omega⟩
 have hk600 : k ≤ 1048577 := by
  have := cutL_len_le 46 s.data.toList
  have hl : s.data.toList.length = s.size := by simp
  rw [← hP] at this; omega
 have CS : Hid (Calls Tryz.prog 133 #[.string s, .int .u8 46] w fun e w' => ∃ g c, e = .returned (.slice (some ⟨g, 0, none⟩) (k + 1) c) ∧ w.heap.size ≤ g ∧ k + 1 ≤ c ∧ StrsAt g P w' ∧ Below w.heap.size w w') := by
  refine (l1Cut s 46 w hs).mono ?_
  rintro e w' ⟨v, rfl, hO, hB⟩
  rw [← hP] at hO
  obtain ⟨g, c, rfl, hg, hc, hS⟩ := ownS_strs hO hPne
  exact ⟨g, c, by rw [hk], hg, by omega, hS, hB⟩
 have HK : Hid (k = 0 ∨ P[k]? ≠ some [] → partsL s.data.toList = P) := by
  intro h
  rw [hP]
  refine partsL_keep _ ?_
  rw [← hP, hk]
  rcases h with h | h
  ·left; omega
  ·right; simpa using h
 have HD : Hid (1 ≤ k → P[k]? = some [] → partsL s.data.toList = P.dropLast) := by
  intro h1 h2
  rw [hP]
  refine partsL_drop _ ?_ ?_
  ·rw [← hP, hk]; omega
  ·rw [← hP, hk]; simpa using h2
 have HL : Hid (P.length = k + 1) := hk
 clear hP hk hPne
 have hk1 : (k : Int) + 1 - 1 = (k : Int) := by omega
 by_cases h0 : k = 0
 ·have HP : Hid (partsL s.data.toList = P) := HK.out (.inl h0)
  subst h0
  go_enter Tryz.func134, Tryz.ntmps134
  go_wp2_with fail
  refine CS.out.mono ?_
  rintro e w1 ⟨g, c, rfl, hg, hc, hS, hB⟩
  go_wp2
  go_ret
  exact ⟨g, c, by rw [HP.out, HL.out]; rfl, hg, by rw [HP.out]; exact hS, hB⟩
 ·have h0i : (1 : Int) < (k : Int) + 1 := by omega
  go_enter Tryz.func134, Tryz.ntmps134
  go_wp2_with fail
  refine CS.out.mono ?_
  rintro e w1 ⟨g, c, rfl, hg, hgc, hS, hB⟩
  have hgci : (k : Int) + 1 ≤ (c : Int) := by omega
  have hgci2 : (k : Int) ≤ (c : Int) := by omega
  have hc := hS.cell k (by rw [HL.out]; omega)
  by_cases hz : P[k]? = some []
  ·have HP : Hid (partsL s.data.toList = P.dropLast) := HD.out (by omega) hz
   have hz2 : P[k]'(by rw [HL.out]; omega) = [] := by
    rw [List.getElem?_eq_getElem (by rw [HL.out]; omega)] at hz; exact Option.some.inj hz
   rw [hz2] at hc
   have hc2 : w1.cell? ⟨g, k, none⟩ = some (.string ⟨#[]⟩) := hc
   clear hc
   go_wp2
   go_ret
   exact ⟨g, c, by rw [HP.out, List.length_dropLast, HL.out]; rfl, hg, by rw [HP.out]; exact hS.less, hB⟩
  ·have HP : Hid (partsL s.data.toList = P) := HK.out (.inr hz)
   obtain ⟨z, hzz, hzn⟩ : ∃ z : ByteArray, w1.cell? ⟨g, k, none⟩ = some (.string z) ∧ z.toList ≠ [] := by
    refine ⟨_, hc, ?_⟩
    rw [ByteArray.toList_eq, mk_data]
    intro e
    apply hz
    rw [List.getElem?_eq_getElem (by rw [HL.out]; omega), e]
   have hne1 : (z.toList == []) = false := beq_eq_false_iff_ne.2 hzn
   have hne2 : z.toList.isEmpty = false := List.isEmpty_eq_false_iff.2 hzn
   clear hc hz
   go_wp2
   go_ret
   exact ⟨g, c, by rw [HP.out, HL.out]; rfl, hg, by rw [HP.out]; exact hS, hB⟩
end Go.Proofs.YtnfhajhdpdidlaaGreatDoor
end
section
namespace Go.Proofs.YtnfhajhdpdidlaaGreatDoor
open Go.RowKit Go.Shelf
theorem l1In_yes (n lo hi : Int) (w : World) (h : lo ≤ n ∧ n ≤ hi) : Calls Tryz.prog 77 #[.int .i64 n, .int .i64 lo, .int .i64 hi] w fun e w' => e = .returned (.bool true) ∧ w' = w := by
 obtain ⟨h1, h2⟩ := h
 go_enter Tryz.func77, Tryz.ntmps77
 go_wp2
 go_ret
 exact ⟨rfl, rfl⟩
theorem l1In_no (n lo hi : Int) (w : World) (h : ¬ (lo ≤ n ∧ n ≤ hi)) : Calls Tryz.prog 77 #[.int .i64 n, .int .i64 lo, .int .i64 hi] w fun e w' => e = .returned (.bool false) ∧ w' = w := by
 rcases (show n < lo ∨ (lo ≤ n ∧ hi < n) from by omega) with h1 | ⟨h1, h2⟩
 all_goals
  clear h
  go_enter Tryz.func77, Tryz.ntmps77
  go_wp2
  go_ret
  exact ⟨by first | rfl | exact ret_bool (decide_eq_false (by omega)), rfl⟩
end Go.Proofs.YtnfhajhdpdidlaaGreatDoor
end
section
namespace Go.Proofs.YtnfhajhdpdidlaaGreatDoor
open Go.RowKit Go.Shelf
def portS (l : List UInt8) (own : Int) : Int := if l = [] then -1 else if 0 ≤ digsV 10 l ∧ digsV 10 l ≤ 65535 then (if digsV 10 l = own then -1 else digsV 10 l) else -2
theorem hex_fig (c : UInt8) (h : figB c = true) : hexV c = (c.toNat : Int) - 48 := by
 have key : ∀ n : _root_.Fin 256, figB (UInt8.ofNat n.val) = true → hexV (UInt8.ofNat n.val) = ((UInt8.ofNat n.val).toNat : Int) - 48 := by decide
 have := key ⟨c.toNat, c.toNat_lt⟩
 simp at this
 exact this h
theorem hex_nofig (c : UInt8) (h : figB c = false) : hexV c < 0 ∨ 10 ≤ hexV c := by
 have key : ∀ n : _root_.Fin 256, figB (UInt8.ofNat n.val) = false → (hexV (UInt8.ofNat n.val) < 0 ∨ 10 ≤ hexV (UInt8.ofNat n.val)) := by decide
 have := key ⟨c.toNat, c.toNat_lt⟩
 simp at this
 exact this h
theorem digs_mono (l : List UInt8) : ∀ (m k : Int), 0 ≤ m → figsL l = true → digs 10 m l = some k → m ≤ k := by
 induction l with
 | nil => intro m k h0 _ h; simp [digs] at h; omega
 | cons c r ih =>
  intro m k h0 hf h
  have hc : figB c = true := by unfold figsL at hf; simp at hf; exact hf.1
  have hr : figsL r = true := by unfold figsL at hf ⊢; simp at hf ⊢; exact hf.2
  have hx := hex_fig c hc
  have hb : 48 ≤ c.toNat := by unfold figB at hc; exact (of_decide_eq_true hc).1
  by_cases hd : hexV c < 0 ∨ 10 ≤ hexV c ∨ 4294967295 < m
  ·rw [digs_no _ _ _ _ hd] at h; cases h
  ·rw [digs_yes _ _ _ _ hd] at h
   have := ih (m * 10 + hexV c) k (by omega) hr h
   omega
theorem port_digs (l : List UInt8) : ∀ (m : Int), 0 ≤ m → m ≤ 65535 → figsL l = true → (∀ n, portN m l = some n → digs 10 m l = some n) ∧ (portN m l = none → ∀ k, digs 10 m l = some k → 65535 < k) := by
 induction l with
 | nil => intro m h0 h1 _; simp [portN, digs]
 | cons c r ih =>
  intro m h0 h1 hf
  have hc : figB c = true := by unfold figsL at hf; simp at hf; exact hf.1
  have hr : figsL r = true := by unfold figsL at hf ⊢; simp at hf ⊢; exact hf.2
  have hx := hex_fig c hc
  have hb : 48 ≤ c.toNat ∧ c.toNat ≤ 57 := by unfold figB at hc; exact of_decide_eq_true hc
  have hd : ¬ (hexV c < 0 ∨ 10 ≤ hexV c ∨ 4294967295 < m) := by omega
  rw [digs_yes _ _ _ _ hd, hx]
  unfold portN
  by_cases hbig : 65535 < m * 10 + ((c.toNat : Int) - 48)
  ·rw [if_pos hbig]
   refine ⟨(fun n h => absurd h (by simp)), (fun _ k hk => ?_)⟩
   have := digs_mono r _ k (by omega) hr hk
   omega
  ·rw [if_neg hbig]
   exact ih _ (by omega) (by omega) hr
theorem digs_nofig (l : List UInt8) : ∀ (m : Int), figsL l = false → digs 10 m l = none := by
 induction l with
 | nil => intro m h; cases h
 | cons c r ih =>
  intro m hf
  by_cases hd : hexV c < 0 ∨ 10 ≤ hexV c ∨ 4294967295 < m
  ·exact digs_no _ _ _ _ hd
  ·rw [digs_yes _ _ _ _ hd]
   apply ih
   have hc : figB c = true := by
    cases h : figB c with
    | true => rfl
    | false => exfalso; have := hex_nofig c h; omega
   unfold figsL at hf ⊢
   rw [List.all_cons, hc, Bool.true_and] at hf
   exact hf
theorem port_both (l : List UInt8) (own : Int) (hown : own ≤ 65535) : (portB l own = true ∧ portV l own = portS l own ∧ portS l own ≠ -2) ∨ (portB l own = false ∧ portS l own = -2) := by
 by_cases he : l = []
 ·subst he
  obtain ⟨e1, e2⟩ := portL_empty own
  left
  refine ⟨e2, ?_, ?_⟩
  ·rw [e1]; rfl
  ·show (-1 : Int) ≠ -2; decide
 ·cases hf : figsL l with
  | false =>
   right
   refine ⟨(portL_nofig l own hf).2, ?_⟩
   have : digsV 10 l = -1 := by unfold digsV; rw [digs_nofig l 0 hf]; rfl
   unfold portS
   rw [if_neg he, this, if_neg (by omega)]
  | true =>
   obtain ⟨p1, p2⟩ := port_digs l 0 (by decide) (by decide) hf
   cases hp : portN 0 l with
   | none =>
    right
    refine ⟨(portL_none l own hf he hp).2, ?_⟩
    unfold portS
    rw [if_neg he, if_neg]
    rintro ⟨h1, h2⟩
    unfold digsV at h1 h2
    cases hd : digs 10 0 l with
    | none => rw [hd] at h1; revert h1; decide
    | some k =>
     rw [hd] at h2
     have := p2 hp k hd
     have h3 : k ≤ 65535 := h2
     omega
   | some n =>
    have hr := portN_le l 0 n (by decide) (by decide) (figs_low l hf) hp
    have hd : digsV 10 l = n := by unfold digsV; rw [p1 n hp]; rfl
    left
    by_cases ho : n = own
    ·subst ho
     obtain ⟨e1, e2⟩ := portL_own l n hf he hp
     refine ⟨e2, ?_, ?_⟩
     ·rw [e1]; unfold portS; rw [if_neg he, hd, if_pos hr, if_pos rfl]
     ·unfold portS; rw [if_neg he, hd, if_pos hr, if_pos rfl]; decide
    ·obtain ⟨e1, e2⟩ := portL_some l own n hf he hp ho
     have e3 : portS l own = n := by unfold portS; rw [if_neg he, hd, if_pos hr, if_neg ho]
     refine ⟨e2, by rw [e1, e3], ?_⟩
     rw [e3]; omega
theorem l3Port (l : List UInt8) (own : Int) (w : World) (hl : l.length ≤ 1000) :
  Calls Tryz.prog 186 #[.string (mk l), .int .i64 own] w fun e w' => e = .returned (.int .i64 (portS l own)) ∧ w' = w := by
 by_cases he : l = []
 ·subst he
  have HE : Hid (portS [] own = -1) := rfl
  have hmk : mk [] = ⟨#[]⟩ := rfl
  rw [hmk]
  go_enter Tryz.func186, Tryz.ntmps186
  go_wp2
  go_ret
  rw [HE.out]
  exact ⟨rfl, rfl⟩
 ·obtain ⟨s, hs⟩ : ∃ s, s = mk l := ⟨_, rfl⟩
  obtain ⟨hb1, hb2⟩ := text_full s (by rw [hs, mk_data]; exact he)
  obtain ⟨n, hn⟩ : ∃ n, n = digsV 10 l := ⟨_, rfl⟩
  have CD : Hid (∀ W, Calls Tryz.prog 157 #[.string s, .int .i64 10] W fun e w' => e = .returned (.int .i64 n) ∧ w' = W) := fun W => by rw [hn, hs]; exact l2Digits (mk l) 10 W (by rw [mk_size]; omega) (by omega)
  have HP : Hid (portS l own = if 0 ≤ n ∧ n ≤ 65535 then (if n = own then -1 else n) else -2) := by show _ = _; unfold portS; rw [if_neg he, hn]
  rw [← hs]
  clear hs hn he
  by_cases hin : 0 ≤ n ∧ n ≤ 65535
  ·have CI : Hid (∀ W, Calls Tryz.prog 77 #[.int .i64 n, .int .i64 0, .int .i64 65535] W fun e w' => e = .returned (.bool true) ∧ w' = W) := fun W => l1In_yes n 0 65535 W hin
   rw [if_pos hin] at HP
   clear hin
   by_cases ho : n = own
   ·subst ho
    have HR : Hid (portS l n = -1) := by show _ = _; rw [HP.out, if_pos rfl]
    clear HP
    go_enter Tryz.func186, Tryz.ntmps186
    go_wp2_with fail
    refine (CD.out _).mono ?_
    rintro e W1 ⟨rfl, hW1⟩
    have hW1' := hW1.symm
    subst hW1'
    go_wp2_with fail
    refine (CI.out _).mono ?_
    rintro e W2 ⟨rfl, hW2⟩
    have hW2' := hW2.symm
    subst hW2'
    go_wp2
    go_ret
    rw [HR.out]
    exact ⟨rfl, rfl⟩
   ·have ho' : (n == own) = false := beq_eq_false_iff_ne.2 ho
    have HR : Hid (portS l own = n) := by show _ = _; rw [HP.out, if_neg ho]
    clear HP ho
    go_enter Tryz.func186, Tryz.ntmps186
    go_wp2_with fail
    refine (CD.out _).mono ?_
    rintro e W1 ⟨rfl, hW1⟩
    have hW1' := hW1.symm
    subst hW1'
    go_wp2_with fail
    refine (CI.out _).mono ?_
    rintro e W2 ⟨rfl, hW2⟩
    have hW2' := hW2.symm
    subst hW2'
    go_wp2
    go_ret
    rw [HR.out]
    exact ⟨rfl, rfl⟩
  ·have CI : Hid (∀ W, Calls Tryz.prog 77 #[.int .i64 n, .int .i64 0, .int .i64 65535] W fun e w' => e = .returned (.bool false) ∧ w' = W) := fun W => l1In_no n 0 65535 W hin
   have HR : Hid (portS l own = -2) := by show _ = _; rw [HP.out, if_neg hin]
   clear HP hin
   go_enter Tryz.func186, Tryz.ntmps186
   go_wp2_with fail
   refine (CD.out _).mono ?_
   rintro e W1 ⟨rfl, hW1⟩
   have hW1' := hW1.symm
   subst hW1'
   go_wp2_with fail
   refine (CI.out _).mono ?_
   rintro e W2 ⟨rfl, hW2⟩
   have hW2' := hW2.symm
   subst hW2'
   go_wp2
   go_ret
   rw [HR.out]
   exact ⟨rfl, rfl⟩
end Go.Proofs.YtnfhajhdpdidlaaGreatDoor
end
section
namespace Go.Proofs.YtnfhajhdpdidlaaGreatDoor
open Go.RowKit Go.Shelf
theorem nm_cases (c : UInt8) :
  ((97 : Int) ≤ (c.toNat : Int) ∧ (c.toNat : Int) ≤ 122 ∧ nmB c = true) ∨ ((48 : Int) ≤ (c.toNat : Int) ∧ (c.toNat : Int) ≤ 57 ∧ nmB c = true) ∨ ((c.toNat : Int) = 45 ∧ nmB c = true) ∨ ((c.toNat : Int) = 95 ∧ nmB c = true) ∨
  (((c.toNat : Int) < 48 ∧ (c.toNat : Int) ≠ 45) ∧ nmB c = false) ∨ (((57 : Int) < (c.toNat : Int) ∧ (c.toNat : Int) < 97 ∧ (c.toNat : Int) ≠ 95) ∧ nmB c = false) ∨ ((122 : Int) < (c.toNat : Int) ∧ nmB c = false) := by
 have hb := u8_lt c
 have e45 : (c == 45) = decide ((c.toNat : Int) = 45) := by
  by_cases h : c = 45
  ·subst h; rfl
  ·have : c.toNat ≠ 45 := fun e => h (UInt8.toNat_inj.1 (by simpa using e))
   rw [beq_eq_false_iff_ne.2 h]; exact (decide_eq_false (by omega)).symm
 have e95 : (c == 95) = decide ((c.toNat : Int) = 95) := by
  by_cases h : c = 95
  ·subst h; rfl
  ·have : c.toNat ≠ 95 := fun e => h (UInt8.toNat_inj.1 (by simpa using e))
   rw [beq_eq_false_iff_ne.2 h]; exact (decide_eq_false (by omega)).symm
 have E : nmB c = decide ((97 ≤ c.toNat ∧ c.toNat ≤ 122) ∨ (48 ≤ c.toNat ∧ c.toNat ≤ 57) ∨ (c.toNat : Int) = 45 ∨ (c.toNat : Int) = 95) := by
  unfold nmB smallB figB; rw [e45, e95]
  simp only [Bool.decide_or, Bool.or_assoc]
 by_cases h : (97 ≤ c.toNat ∧ c.toNat ≤ 122) ∨ (48 ≤ c.toNat ∧ c.toNat ≤ 57) ∨ (c.toNat : Int) = 45 ∨ (c.toNat : Int) = 95
 ·have : nmB c = true := by rw [E]; exact decide_eq_true h
  rw [this]; simp only [and_true]; omega
 ·have : nmB c = false := by rw [E]; exact decide_eq_false h
  rw [this]; simp only [and_true]; omega
theorem mk_get (l : List UInt8) (k : Nat) (h : k < (mk l).size) : (mk l)[k] = l[k]'(by rw [mk_size] at h; exact h) := by
 simp [mk, ByteArray.getElem_eq_getElem_data]
def GoodTo (P : List (List UInt8)) (i : Nat) : Prop := ∀ j (hj : j < P.length), j < i → ((j + 1 < P.length ∨ j = 0) → P[j] ≠ []) ∧ ∀ c ∈ P[j], nmB c = true
theorem good_next {P : List (List UInt8)} {i : Nat} (hi : i < P.length) (h : GoodTo P i) (h1 : (i + 1 < P.length ∨ i = 0) → P[i] ≠ []) (h2 : ∀ c ∈ P[i], nmB c = true) : GoodTo P (i + 1) := by
 intro j hj hji
 by_cases e : j = i
 ·subst e; exact ⟨h1, h2⟩
 ·exact h j hj (by omega)
theorem name_good (l : List UInt8) (h : GoodTo (cutL 46 l) (cutL 46 l).length) : nameL l = decide (1 ≤ l.length ∧ l.length ≤ 60) := by
 by_cases hl : 1 ≤ l.length ∧ l.length ≤ 60
 ·rw [decide_eq_true hl]
  refine nameL_yes l hl ?_ (parts_good l (fun i hi hb => (h i hi hi).1 hb))
  intro c hc
  rcases cutL_cover l c hc with e | ⟨p, hp, hcp⟩
  ·exact .inr e
  ·obtain ⟨j, hj, e⟩ := List.getElem_of_mem hp
   exact .inl ((h j hj hj).2 c (by rw [e]; exact hcp))
 ·rw [decide_eq_false hl]; exact nameL_len l hl
theorem l2Name (s : ByteArray) (w : World) (hs : s.size ≤ 1048576) :
  Calls Tryz.prog 107 #[.string s] w fun e w' => e = .returned (.bool (nameL s.data.toList)) ∧ Below w.heap.size w w' := by
 have hl : s.data.toList.length = s.size := by simp
 obtain ⟨P, hP⟩ : ∃ P, P = cutL 46 s.data.toList := ⟨_, rfl⟩
 have hPne : P ≠ [] := by rw [hP]; exact cutL_ne _ _
 have hll := cutL_len_le 46 s.data.toList
 rw [← hP] at hll
 obtain ⟨n, hn⟩ : ∃ n, n = P.length := ⟨_, rfl⟩
 have HN : Hid (n = P.length) := hn
 have hn9 : n ≤ 1048577 := by omega
 have CS : Hid (Calls Tryz.prog 133 #[.string s, .int .u8 46] w fun e w' => ∃ g c, e = .returned (.slice (some ⟨g, 0, none⟩) n c) ∧ n ≤ c ∧ StrsAt g P w' ∧ Below w.heap.size w w') := by
  refine (l1Cut s 46 w hs).mono ?_
  rintro e w' ⟨v, rfl, hO, hB⟩
  rw [← hP] at hO
  obtain ⟨g, c, rfl, hg, hc, hS⟩ := ownS_strs hO hPne
  exact ⟨g, c, by rw [hn], by omega, hS, hB⟩
 have HBAD : Hid (∀ i (hi : i < P.length), P[i] = [] → (i + 1 < P.length ∨ i = 0) → nameL s.data.toList = false) := by
  intro i hi h hb
  subst hP
  exact nameL_empty _ (parts_bad _ i hi h hb)
 have HBYTE : Hid (∀ i (hi : i < P.length), ∀ c ∈ P[i], nmB c = false → nameL s.data.toList = false) := by
  intro i hi c hc h
  subst hP
  have := cutL_byte s.data.toList _ (List.getElem_mem hi) c hc
  exact nameL_byte _ c this.1 h this.2
 have HGOOD : Hid (GoodTo P n → nameL s.data.toList = decide (1 ≤ s.size ∧ s.size ≤ 60)) := by
  intro h
  subst hn hP
  have := name_good _ h
  rw [hl] at this; exact this
 have HQL : Hid (∀ i (hi : i < P.length), P[i].length ≤ s.size) := by
  intro i hi
  have := cutL_mem_le 46 s.data.toList P[i] (by rw [← hP]; exact List.getElem_mem hi)
  omega
 clear hP hPne hll hn
 go_enter Tryz.func107, Tryz.ntmps107
 go_wp2_with fail
 refine CS.out.mono ?_
 rintro e w1 ⟨g, cc, rfl, hcc, hS, hB⟩
 have HB : Hid (Below w.heap.size w w1) := hB
 have HS : Hid (StrsAt g P w1) := hS
 clear hB hS
 go_wp2
 go_loop [4] (fun i => ∃ k : Nat, k ≤ n ∧ i = .int .i64 k ∧ Hid (GoodTo P k)) (fun i => n - (intOf i).toNat)
 case atStart => exact ⟨0, Nat.zero_le _, rfl, fun j hj h => absurd h (by omega)⟩
 case round =>
  obtain ⟨i, hi, rfl, HA⟩ := hrel
  by_cases hp : i < n
  ·have hii : (i : Int) < (n : Int) := by omega
   have hn1 : ((n : Int) - 1) = ((n - 1 : Nat) : Int) := by omega
   have hiP : i < P.length := by rw [← HN.out]; exact hp
   have hc0 := HS.out.cell i hiP
   have HQ : Hid (∀ k (hk : k < (mk P[i]).size), (mk P[i])[k] ∈ P[i]) := fun k hk => by rw [mk_get]; exact List.getElem_mem _
   have hq9 := HQL.out i hiP
   have HBY : Hid (∀ c ∈ P[i], nmB c = false → nameL s.data.toList = false) := HBYTE.out i hiP
   have HALL : Hid ((∀ k (hk : k < (mk P[i]).size), nmB (mk P[i])[k] = true) → ∀ c ∈ P[i], nmB c = true) := by
    intro h c hc
    obtain ⟨j, hj, e⟩ := List.getElem_of_mem hc
    have := h j (by rw [mk_size]; exact hj)
    rw [mk_get, e] at this; exact this
   have HNX : Hid (((i + 1 < n ∨ i = 0) → P[i] ≠ []) → (∀ c ∈ P[i], nmB c = true) → GoodTo P (i + 1)) := fun a b => good_next hiP HA.out (by rw [← HN.out]; exact a) b
   have HZL : Hid (P[i] = [] → (i + 1 < n ∨ i = 0) → nameL s.data.toList = false) := fun a b => HBAD.out i hiP a (by rw [← HN.out]; exact b)
   have hzs : (mk P[i]).size = P[i].length := mk_size _
   have HZE : Hid ((mk P[i]).toList = P[i]) := by show _ = _; rw [ByteArray.toList_eq, mk_data]
   obtain ⟨q, hq⟩ : ∃ q, q = P[i] := ⟨_, rfl⟩
   rw [← hq] at hc0 HQ hq9 HBY HALL HNX HZL hzs HZE
   clear hq
   obtain ⟨z, hz⟩ : ∃ z, z = mk q := ⟨_, rfl⟩
   rw [← hz] at hc0 HQ HALL hzs HZE
   have HZ1 : Hid (q = [] → z = ⟨#[]⟩) := by intro h; rw [hz, h]; rfl
   clear hz
   have hz9 : z.size ≤ 1048576 := by omega
   have HIN : Hid (((i + 1 < n ∨ i = 0) → q ≠ []) → ∀ (W : World), True) := fun _ _ => trivial
   by_cases hbad : q = [] ∧ (i + 1 < n ∨ i = 0)
   ·have HF : Hid (nameL s.data.toList = false) := HZL.out hbad.1 hbad.2
    have he := HZ1.out hbad.1
    subst he
    rcases (show i + 1 < n ∨ (¬ i + 1 < n ∧ i = 0) from by omega) with h1 | ⟨h1, h0⟩
    ·have h1i : (i : Int) < (n : Int) - 1 := by omega
     clear hbad
     go_wp2
     go_ret
     exact ⟨by rw [HF.out]; rfl, HB.out⟩
    ·have h1i : ¬ ((i : Int) < (n : Int) - 1) := by omega
     have h0e : ((i : Int) == 0) = true := by simp [h0]
     clear hbad h0
     go_wp2
     go_ret
     exact ⟨by rw [HF.out]; rfl, HB.out⟩
   ·have hnb : (i + 1 < n ∨ i = 0) → q ≠ [] := fun a b => hbad ⟨b, a⟩
    have HNX2 : Hid ((∀ k (hk : k < z.size), nmB z[k] = true) → GoodTo P (i + 1)) := fun h => HNX.out hnb (HALL.out h)
    have HFALSE : Hid (∀ k (hk : k < z.size), nmB z[k] = false → nameL s.data.toList = false) := fun k hk h => HBY.out _ (HQ.out k hk) h
    have LOOP : True := trivial
    by_cases hz0 : z.size = 0
    ·have hq0 : q = [] := List.length_eq_zero_iff.1 (by omega)
     have he := HZ1.out hq0
     have h1 : ¬ (i + 1 < n ∨ i = 0) := fun h => hnb h hq0
     have h1i : ¬ ((i : Int) < (n : Int) - 1) := by omega
     have h0e : ((i : Int) == 0) = false := by rw [beq_eq_false_iff_ne]; omega
     have HG : Hid (GoodTo P (i + 1)) := HNX2.out (fun k hk => absurd hk (by omega))
     subst he
     clear hbad hnb h1 hq0
     go_wp2
     go_loop [5] (fun j => j = .int .i64 0) (fun j => 1)
     case atStart => rfl
     case round =>
      obtain rfl := hrel
      go_wp2
      go_round
      case rel => exact ⟨i + 1, by omega, by go_num, HG⟩
      case measure => simp [intOf]; omega
    ·have hzn : z.toList ≠ [] := by rw [ByteArray.toList_eq]; exact list_ne z hz0
     have hne1 : (z.toList == []) = false := beq_eq_false_iff_ne.2 hzn
     have hne2 : z.toList.isEmpty = false := List.isEmpty_eq_false_iff.2 hzn
     clear hbad hnb
     go_wp2
     go_loop [5] (fun j => ∃ k : Nat, k ≤ z.size ∧ j = .int .i64 k ∧ Hid (∀ k' (hk : k' < z.size), k' < k → nmB z[k'] = true)) (fun j => z.size - (intOf j).toNat)
     case atStart => exact ⟨0, Nat.zero_le _, rfl, fun j hj h => absurd h (by omega)⟩
     case round =>
      obtain ⟨k, hk, rfl, HK⟩ := hrel
      by_cases hkz : k < z.size
      ·have hkzi : (k : Int) < (z.size : Int) := by omega
       have hb := u8_lt z[k]
       rcases nm_cases z[k] with ⟨a1, a2, a3⟩ | ⟨a1, a2, a3⟩ | ⟨a1, a3⟩ | ⟨a1, a3⟩ | ⟨⟨a1, a2⟩, a3⟩ | ⟨⟨a1, a2, a4⟩, a3⟩ | ⟨a1, a3⟩
       rotate_left
       ·have b1 : ((z[k]).toNat : Int) < 97 := by omega
        have HK2 : Hid (∀ k' (hk : k' < z.size), k' < k + 1 → nmB z[k'] = true) := by
         intro j hj h
         by_cases hjk : j = k
         ·subst hjk; exact a3
         ·exact HK.out j hj (by omega)
        clear a3
        go_wp2
        all_goals go_round
        case rel => exact ⟨k + 1, by omega, by go_num, HK2⟩
        case measure => simp [intOf]; omega
       ·have b1 : ((z[k]).toNat : Int) < 97 := by omega
        have b2 : ((z[k]).toNat : Int) < 48 := by omega
        have b3 : (((z[k]).toNat : Int) == 45) = true := by simp [a1]
        have b4 : (((z[k]).toNat : Int) != 45) = false := by simp [a1]
        have HK2 : Hid (∀ k' (hk : k' < z.size), k' < k + 1 → nmB z[k'] = true) := by
         intro j hj h
         by_cases hjk : j = k
         ·subst hjk; exact a3
         ·exact HK.out j hj (by omega)
        clear a3
        go_wp2
        all_goals go_round
        case rel => exact ⟨k + 1, by omega, by go_num, HK2⟩
        case measure => simp [intOf]; omega
       ·have b1 : ((z[k]).toNat : Int) < 97 := by omega
        have b2 : ¬ ((z[k]).toNat : Int) < 48 := by omega
        have b5 : (57 : Int) < ((z[k]).toNat : Int) := by omega
        have b3 : (((z[k]).toNat : Int) == 95) = true := by simp [a1]
        have b4 : (((z[k]).toNat : Int) != 95) = false := by simp [a1]
        have b6 : (((z[k]).toNat : Int) == 45) = false := by simp [a1]
        have b7 : (((z[k]).toNat : Int) != 45) = true := by simp [a1]
        have HK2 : Hid (∀ k' (hk : k' < z.size), k' < k + 1 → nmB z[k'] = true) := by
         intro j hj h
         by_cases hjk : j = k
         ·subst hjk; exact a3
         ·exact HK.out j hj (by omega)
        clear a3
        go_wp2
        all_goals go_round
        case rel => exact ⟨k + 1, by omega, by go_num, HK2⟩
        case measure => simp [intOf]; omega
       rotate_right
       iterate 1
        ·have HK2 : Hid (∀ k' (hk : k' < z.size), k' < k + 1 → nmB z[k'] = true) := by
          intro j hj h
          by_cases hjk : j = k
          ·subst hjk; exact a3
          ·exact HK.out j hj (by omega)
         clear a3
         go_wp2
         go_round
         case rel => exact ⟨k + 1, by omega, by go_num, HK2⟩
         case measure => simp [intOf]; omega
       iterate 3
        ·have HF : Hid (nameL s.data.toList = false) := HFALSE.out k hkz a3
         have b4 : (((z[k]).toNat : Int) != 95) = true := by rw [bne_iff_ne]; omega
         have b7 : (((z[k]).toNat : Int) != 45) = true := by rw [bne_iff_ne]; omega
         clear a3
         go_wp2
         go_ret
         exact ⟨by rw [HF.out]; rfl, HB.out⟩
      ·have hkk : k = z.size := by omega
       have hkzi : ¬ ((k : Int) < (z.size : Int)) := by omega
       have HG : Hid (GoodTo P (i + 1)) := HNX2.out (fun j hj => HK.out j hj (by omega))
       go_wp2
       go_round
       case rel => exact ⟨i + 1, by omega, by go_num, HG⟩
       case measure => simp [intOf]; omega
  ·have hkk : i = n := by omega
   have hni : ¬ ((i : Int) < (n : Int)) := by omega
   have HF : Hid (nameL s.data.toList = decide (1 ≤ s.size ∧ s.size ≤ 60)) := HGOOD.out (by rw [← hkk]; exact HA.out)
   by_cases h6 : 1 ≤ s.size ∧ s.size ≤ 60
   ·go_wp2_with (go_at_call 77; refine (l1In_yes _ _ _ _ (by omega)).mono ?_; rintro e W1 ⟨rfl, hW⟩; have hW2 := hW.symm; subst hW2)
    go_ret
    exact ⟨by rw [HF.out, decide_eq_true h6]; rfl, HB.out⟩
   ·go_wp2_with (go_at_call 77; refine (l1In_no _ _ _ _ (by omega)).mono ?_; rintro e W1 ⟨rfl, hW⟩; have hW2 := hW.symm; subst hW2)
    go_ret
    exact ⟨by rw [HF.out, decide_eq_false h6]; rfl, HB.out⟩
end Go.Proofs.YtnfhajhdpdidlaaGreatDoor
end
section
namespace Go.Proofs.YtnfhajhdpdidlaaGreatDoor
open Go.RowKit Go.Shelf
theorem figs_next (s : ByteArray) (k : Nat) (h : k < s.size) : figsL (s.data.toList.take (k + 1)) = (figsL (s.data.toList.take k) && figB s[k]) := by
 unfold figsL; rw [take_snoc s k h]; simp
theorem fig_dec (c : UInt8) : figB c = (decide ((48 : Int) ≤ (c.toNat : Int)) && decide ((c.toNat : Int) ≤ 57)) := by
 unfold figB; rw [← Bool.decide_and]; exact decide_eq_decide.2 (by omega)
theorem l2Ends (s : ByteArray) (w : World) (hs : s.size ≤ 1000000) :
  Calls Tryz.prog 108 #[.string s] w fun e w' => e = .returned (.bool (endsL s.data.toList)) ∧ Below w.heap.size w w' := by
 have hl : s.data.toList.length = s.size := by simp
 have CP : Hid (Calls Tryz.prog 134 #[.string s] w fun e w' => ∃ g c, e = .returned (.slice (some ⟨g, 0, none⟩) (partsL s.data.toList).length c) ∧ w.heap.size ≤ g ∧ StrsAt g (partsL s.data.toList) w' ∧ Below w.heap.size w w') := l2Parts s w (by omega)
 have h1 := partsL_ne s.data.toList
 have hll := partsL_len_le s.data.toList
 have hq9 := lastP_le s.data.toList
 have HQ : Hid (∀ g W, StrsAt g (partsL s.data.toList) W → W.cell? ⟨g, (partsL s.data.toList).length - 1, none⟩ = some (.string (mk (lastP s.data.toList)))) := fun g W h => h.cell _ (by omega)
 have H0 : Hid (lastP s.data.toList = [] → endsL s.data.toList = false) := ends_empty _
 have HH : Hid (hexA (lastP s.data.toList) = true → endsL s.data.toList = partOk (lastP s.data.toList)) := ends_hex _
 have HX : Hid (hexA (lastP s.data.toList) = true → figsL (lastP s.data.toList) = false) := hexA_figs _
 have HV : Hid (decide (0 ≤ partV (lastP s.data.toList)) = partOk (lastP s.data.toList)) := partV_ok _
 have HF : Hid (lastP s.data.toList ≠ [] → hexA (lastP s.data.toList) = false → endsL s.data.toList = figsL (lastP s.data.toList)) := ends_figs _
 obtain ⟨n, hn⟩ : ∃ n, (partsL s.data.toList).length = n + 1 := ⟨(partsL s.data.toList).length - 1, by omega⟩
 obtain ⟨q, hq⟩ : ∃ q, q = lastP s.data.toList := ⟨_, rfl⟩
 rw [← hq] at HQ H0 HH HF hq9 HX HV
 rw [hn] at CP HQ hll
 have hn9 : n ≤ 1000001 := by omega
 have hn1 : (n : Int) + 1 - 1 = (n : Int) := by omega
 obtain ⟨z, hz⟩ : ∃ z, z = mk q := ⟨_, rfl⟩
 have hzq : z.data.toList = q := by rw [hz, mk_data]
 rw [← hz] at HQ
 rw [← hzq] at H0 HH HF hq9 HX HV
 have hz9 : z.size ≤ 1000000 := by
  have : z.data.toList.length = z.size := by simp
  omega
 clear hn hq hz hzq hll hq9 hl h1 q
 go_enter Tryz.func108, Tryz.ntmps108
 go_wp2_with fail
 refine CP.out.mono ?_
 rintro e w1 ⟨g, c, rfl, hg, hS, hB⟩
 have hc : w1.cell? ⟨g, n, none⟩ = some (.string z) := HQ.out _ _ hS
 have HB : Hid (Below w.heap.size w w1) := hB
 clear hS hB HQ hg
 by_cases hz0 : z.data.toList = []
 ·have HZ : Hid (endsL s.data.toList = false) := H0.out hz0
  have he : z = ⟨#[]⟩ := by
   have := mk_list z
   rw [hz0] at this
   exact this.symm
  subst he
  clear hz0
  go_wp2
  go_ret
  exact ⟨by rw [HZ.out]; rfl, HB.out⟩
 ·have HF2 : Hid (hexA z.data.toList = false → endsL s.data.toList = figsL z.data.toList) := HF.out hz0
  have hzn : z.toList ≠ [] := by rw [ByteArray.toList_eq]; exact hz0
  have hne1 : (z.toList == []) = false := beq_eq_false_iff_ne.2 hzn
  have hne2 : z.toList.isEmpty = false := List.isEmpty_eq_false_iff.2 hzn
  clear hz0
  go_wp2
  go_loop [5, 6] (fun a i => ∃ k : Nat, k ≤ z.size ∧ i = .int .i64 k ∧ a = .bool (figsL (z.data.toList.take k))) (fun a i => z.size - (intOf i).toNat)
  case atStart => exact ⟨0, Nat.zero_le _, rfl, rfl⟩
  case round =>
   obtain ⟨k, hk, rfl, rfl⟩ := hrel
   by_cases hp : k < z.size
   ·have hki : (k : Int) < (z.size : Int) := by omega
    have HT : Hid (figsL (z.data.toList.take (k + 1)) = (figsL (z.data.toList.take k) && figB z[k])) := figs_next z k hp
    have HD : Hid (figB z[k] = (decide ((48 : Int) ≤ (z[k].toNat : Int)) && decide ((z[k].toNat : Int) ≤ 57))) := fig_dec _
    have hb := u8_lt z[k]
    cases ha : figsL (z.data.toList.take k) with
    | false =>
     have HT2 : Hid (figsL (z.data.toList.take (k + 1)) = false) := by show _ = _; rw [HT.out, ha]; rfl
     go_wp2
     go_round
     case rel => exact ⟨k + 1, by omega, by go_num, by rw [HT2.out]⟩
     case measure => simp [intOf]; omega
    | true =>
     rcases (show (z[k].toNat : Int) < 48 ∨ ((48 : Int) ≤ (z[k].toNat : Int) ∧ (z[k].toNat : Int) ≤ 57) ∨ ((48 : Int) ≤ (z[k].toNat : Int) ∧ (57 : Int) < (z[k].toNat : Int)) from by omega) with a1 | ⟨a1, a2⟩ | ⟨a1, a2⟩
     ·have HT2 : Hid (figsL (z.data.toList.take (k + 1)) = false) := by show _ = _; rw [HT.out, ha, HD.out, decide_eq_false (by omega)]; rfl
      go_wp2
      go_round
      case rel => exact ⟨k + 1, by omega, by go_num, by rw [HT2.out]⟩
      case measure => simp [intOf]; omega
     ·have HT2 : Hid (figsL (z.data.toList.take (k + 1)) = true) := by show _ = _; rw [HT.out, ha, HD.out, decide_eq_true a1, decide_eq_true a2]; rfl
      go_wp2
      go_round
      case rel => exact ⟨k + 1, by omega, by go_num, by rw [HT2.out]⟩
      case measure => simp [intOf]; omega
     ·have HT2 : Hid (figsL (z.data.toList.take (k + 1)) = false) := by show _ = _; rw [HT.out, ha, HD.out, decide_eq_true a1, decide_eq_false (by omega)]; rfl
      go_wp2
      go_round
      case rel => exact ⟨k + 1, by omega, by go_num, by rw [HT2.out, decide_eq_false (by omega)]⟩
      case measure => simp [intOf]; omega
   ·have hkk : k = z.size := by omega
    subst hkk
    have hfull : z.data.toList.take z.size = z.data.toList := List.take_of_length_le (by simp)
    rw [hfull]
    cases ha : figsL z.data.toList with
    | true =>
     have HZ : Hid (endsL s.data.toList = true) := by
      cases hx : hexA z.data.toList with
      | true => rw [HX.out hx] at ha; cases ha
      | false => show _ = _; rw [HF2.out hx]; exact ha
     go_wp2
     go_ret
     exact ⟨by rw [HZ.out]; rfl, HB.out⟩
    | false =>
     by_cases h2 : z.size < 2
     ·have HZ : Hid (endsL s.data.toList = false) := by show _ = _; rw [HF2.out (hexA_short z h2)]; exact ha
      have h2i : (z.size : Int) < 2 := by omega
      go_wp2
      go_ret
      exact ⟨by rw [HZ.out]; rfl, HB.out⟩
     ·have h2' : 2 ≤ z.size := by omega
      have h2i : (2 : Int) ≤ (z.size : Int) := by omega
      by_cases h0 : z[0] = 48
      ·have e0 : ((z[0].toNat : Int) == 48) = true := u8_beq z[0] 48 (by omega) h0
       by_cases h3 : z[1] = 120
       ·have e1 : ((z[1].toNat : Int) == 120) = true := u8_beq z[1] 120 (by omega) h3
        have HZ : Hid (endsL s.data.toList = decide (0 ≤ partV z.data.toList)) := by show _ = _; rw [HV.out]; exact HH.out (hexA_yes z h2' h0 (.inl h3))
        clear h0 h3
        go_wp2_with (go_at_call 135; refine (l2Part z _ hz9).mono ?_; rintro e W1 ⟨rfl, hW⟩; have hW2 := hW.symm; subst hW2)
        go_ret
        exact ⟨by rw [HZ.out]; rfl, HB.out⟩
       ·have e1 : ((z[1].toNat : Int) == 120) = false := u8_bne z[1] 120 (by omega) h3
        by_cases h4 : z[1] = 88
        ·have e2 : ((z[1].toNat : Int) == 88) = true := u8_beq z[1] 88 (by omega) h4
         have HZ : Hid (endsL s.data.toList = decide (0 ≤ partV z.data.toList)) := by show _ = _; rw [HV.out]; exact HH.out (hexA_yes z h2' h0 (.inr h4))
         clear h0 h3 h4
         go_wp2_with (go_at_call 135; refine (l2Part z _ hz9).mono ?_; rintro e W1 ⟨rfl, hW⟩; have hW2 := hW.symm; subst hW2)
         go_ret
         exact ⟨by rw [HZ.out]; rfl, HB.out⟩
        ·have e2 : ((z[1].toNat : Int) == 88) = false := u8_bne z[1] 88 (by omega) h4
         have HZ : Hid (endsL s.data.toList = false) := by show _ = _; rw [HF2.out (hexA_no1 z h2' h3 h4)]; exact ha
         clear h0 h3 h4
         go_wp2
         go_ret
         exact ⟨by rw [HZ.out]; rfl, HB.out⟩
      ·have e0 : ((z[0].toNat : Int) == 48) = false := u8_bne z[0] 48 (by omega) h0
       have HZ : Hid (endsL s.data.toList = false) := by show _ = _; rw [HF2.out (hexA_no0 z h2' h0)]; exact ha
       clear h0
       go_wp2
       go_ret
       exact ⟨by rw [HZ.out]; rfl, HB.out⟩
end Go.Proofs.YtnfhajhdpdidlaaGreatDoor
end

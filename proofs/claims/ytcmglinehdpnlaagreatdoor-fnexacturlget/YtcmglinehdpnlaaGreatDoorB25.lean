/- spec.l1Cut and l2Parts: the pieces of a text, the parts of a host's text. spec.l1In: whether a number lies between two. spec.l3Port. -/
import Derived.Test.YtcmglinehdpnlaaGreatDoorB07
import Derived.Test.YtcmglinehdpnlaaGreatDoorB05
import Derived.Test.YtcmglinehdpnlaaGreatDoorB24
section
set_option linter.unusedVariables false
namespace Go.Proofs.YtcmglinehdpnlaaGreatDoor
open Go.RowKit Go.Shelf

set_option maxHeartbeats 2000000 in
set_option maxRecDepth 100000 in
theorem l2Parts (s : ByteArray) (w : World) (hs : s.size ≤ 1048576) :
    Calls Tryz.prog 145 #[.string s] w fun e w' => ∃ g c, e = .returned (.slice (some ⟨g, 0, none⟩) (partsL s.data.toList).length c) ∧ w.heap.size ≤ g ∧ StrsAt g (partsL s.data.toList) w' ∧ Below w.heap.size w w' := by
  obtain ⟨P, hP⟩ : ∃ P, P = cutL 46 s.data.toList := ⟨_, rfl⟩
  have hPne : P ≠ [] := by rw [hP]; exact cutL_ne _ _
  obtain ⟨k, hk⟩ : ∃ k, P.length = k + 1 := ⟨P.length - 1, by have := List.length_pos_iff.2 hPne; omega⟩
  have hk600 : k ≤ 1048577 := by
    have := cutL_len_le 46 s.data.toList
    have hl : s.data.toList.length = s.size := by simp
    rw [← hP] at this; omega
  have CS : Hid (Calls Tryz.prog 125 #[.string s, .int .u8 46] w fun e w' => ∃ g c, e = .returned (.slice (some ⟨g, 0, none⟩) (k + 1) c) ∧ w.heap.size ≤ g ∧ k + 1 ≤ c ∧ StrsAt g P w' ∧ Below w.heap.size w w') := by
    refine (l1Cut s 46 w hs).mono ?_
    rintro e w' ⟨v, rfl, hO, hB⟩
    rw [← hP] at hO
    obtain ⟨g, c, rfl, hg, hc, hS⟩ := ownS_strs hO hPne
    exact ⟨g, c, by rw [hk], hg, by omega, hS, hB⟩
  have HK : Hid (k = 0 ∨ P[k]? ≠ some [] → partsL s.data.toList = P) := by
    intro h
    rw [hP]
    refine partsL_keep _ ?_
    rw [← hP, hk]
    rcases h with h | h
    · left; omega
    · right; simpa using h
  have HD : Hid (1 ≤ k → P[k]? = some [] → partsL s.data.toList = P.dropLast) := by
    intro h1 h2
    rw [hP]
    refine partsL_drop _ ?_ ?_
    · rw [← hP, hk]; omega
    · rw [← hP, hk]; simpa using h2
  have HL : Hid (P.length = k + 1) := hk
  clear hP hk hPne
  have hk1 : (k : Int) + 1 - 1 = (k : Int) := by omega
  by_cases h0 : k = 0
  · have HP : Hid (partsL s.data.toList = P) := HK.out (.inl h0)
    subst h0
    go_enter Tryz.func145, Tryz.ntmps145
    go_wp2_with fail
    refine CS.out.mono ?_
    rintro e w1 ⟨g, c, rfl, hg, hc, hS, hB⟩
    go_wp2
    go_ret
    exact ⟨g, c, by rw [HP.out, HL.out]; rfl, hg, by rw [HP.out]; exact hS, hB⟩
  · have h0i : (1 : Int) < (k : Int) + 1 := by omega
    go_enter Tryz.func145, Tryz.ntmps145
    go_wp2_with fail
    refine CS.out.mono ?_
    rintro e w1 ⟨g, c, rfl, hg, hgc, hS, hB⟩
    have hgci : (k : Int) + 1 ≤ (c : Int) := by omega
    have hgci2 : (k : Int) ≤ (c : Int) := by omega
    have hc := hS.cell k (by rw [HL.out]; omega)
    by_cases hz : P[k]? = some []
    · have HP : Hid (partsL s.data.toList = P.dropLast) := HD.out (by omega) hz
      have hz2 : P[k]'(by rw [HL.out]; omega) = [] := by
        rw [List.getElem?_eq_getElem (by rw [HL.out]; omega)] at hz; exact Option.some.inj hz
      rw [hz2] at hc
      have hc2 : w1.cell? ⟨g, k, none⟩ = some (.string ⟨#[]⟩) := hc
      clear hc
      go_wp2
      go_ret
      exact ⟨g, c, by rw [HP.out, List.length_dropLast, HL.out]; rfl, hg, by rw [HP.out]; exact hS.less, hB⟩
    · have HP : Hid (partsL s.data.toList = P) := HK.out (.inr hz)
      obtain ⟨z, hzz, hzn⟩ : ∃ z : ByteArray, w1.cell? ⟨g, k, none⟩ = some (.string z) ∧ z.toList ≠ [] := by
        refine ⟨_, hc, ?_⟩
        rw [ByteArray.toList_eq, mk_data]
        intro e
        apply hz
        rw [List.getElem?_eq_getElem (by rw [HL.out]; omega), e]
      have hne1 : (z.toList == []) = false := beq_eq_false_iff_ne.2 hzn
      have hne2 : z.toList.isEmpty = false := List.isEmpty_eq_false_iff.2 hzn
      clear hc hz
      go_wp2
      go_ret
      exact ⟨g, c, by rw [HP.out, HL.out]; rfl, hg, by rw [HP.out]; exact hS, hB⟩
end Go.Proofs.YtcmglinehdpnlaaGreatDoor
end

section
set_option linter.unusedVariables false
namespace Go.Proofs.YtcmglinehdpnlaaGreatDoor
open Go.RowKit Go.Shelf

set_option maxHeartbeats 1000000 in
theorem l1In_yes (n lo hi : Int) (w : World) (h : lo ≤ n ∧ n ≤ hi) : Calls Tryz.prog 120 #[.int .i64 n, .int .i64 lo, .int .i64 hi] w fun e w' => e = .returned (.bool true) ∧ w' = w := by
  obtain ⟨h1, h2⟩ := h
  go_enter Tryz.func120, Tryz.ntmps120
  go_wp2
  go_ret
  exact ⟨rfl, rfl⟩
set_option maxHeartbeats 1000000 in
theorem l1In_no (n lo hi : Int) (w : World) (h : ¬ (lo ≤ n ∧ n ≤ hi)) : Calls Tryz.prog 120 #[.int .i64 n, .int .i64 lo, .int .i64 hi] w fun e w' => e = .returned (.bool false) ∧ w' = w := by
  rcases (show n < lo ∨ (lo ≤ n ∧ hi < n) from by omega) with h1 | ⟨h1, h2⟩
  all_goals
    clear h
    go_enter Tryz.func120, Tryz.ntmps120
    go_wp2
    go_ret
    exact ⟨by first | rfl | exact ret_bool (decide_eq_false (by omega)), rfl⟩
end Go.Proofs.YtcmglinehdpnlaaGreatDoor
end

section
set_option linter.unusedVariables false
set_option linter.unusedSimpArgs false
namespace Go.Proofs.YtcmglinehdpnlaaGreatDoor
open Go.RowKit Go.Shelf

/-- What l3Port answers. -/
def portS (l : List UInt8) (own : Int) : Int := if l = [] then -1 else if 0 ≤ digsV 10 l ∧ digsV 10 l ≤ 65535 then (if digsV 10 l = own then -1 else digsV 10 l) else -2
set_option maxRecDepth 100000 in
theorem hex_fig (c : UInt8) (h : figB c = true) : hexV c = (c.toNat : Int) - 48 := by
  have key : ∀ n : _root_.Fin 256, figB (UInt8.ofNat n.val) = true → hexV (UInt8.ofNat n.val) = ((UInt8.ofNat n.val).toNat : Int) - 48 := by decide
  have := key ⟨c.toNat, c.toNat_lt⟩
  simp at this
  exact this h
set_option maxRecDepth 100000 in
theorem hex_nofig (c : UInt8) (h : figB c = false) : hexV c < 0 ∨ 10 ≤ hexV c := by
  have key : ∀ n : _root_.Fin 256, figB (UInt8.ofNat n.val) = false → (hexV (UInt8.ofNat n.val) < 0 ∨ 10 ≤ hexV (UInt8.ofNat n.val)) := by decide
  have := key ⟨c.toNat, c.toNat_lt⟩
  simp at this
  exact this h
theorem digs_mono (l : List UInt8) : ∀ (m k : Int), 0 ≤ m → figsL l = true → digs 10 m l = some k → m ≤ k := by
  induction l with
  | nil => intro m k h0 _ h; simp [digs] at h; omega
  | cons c r ih =>
    intro m k h0 hf h
    have hc : figB c = true := by unfold figsL at hf; simp at hf; exact hf.1
    have hr : figsL r = true := by unfold figsL at hf ⊢; simp at hf ⊢; exact hf.2
    have hx := hex_fig c hc
    have hb : 48 ≤ c.toNat := by unfold figB at hc; exact (of_decide_eq_true hc).1
    by_cases hd : hexV c < 0 ∨ 10 ≤ hexV c ∨ 4294967295 < m
    · rw [digs_no _ _ _ _ hd] at h; cases h
    · rw [digs_yes _ _ _ _ hd] at h
      have := ih (m * 10 + hexV c) k (by omega) hr h
      omega
theorem port_digs (l : List UInt8) : ∀ (m : Int), 0 ≤ m → m ≤ 65535 → figsL l = true → (∀ n, portN m l = some n → digs 10 m l = some n) ∧ (portN m l = none → ∀ k, digs 10 m l = some k → 65535 < k) := by
  induction l with
  | nil => intro m h0 h1 _; simp [portN, digs]
  | cons c r ih =>
    intro m h0 h1 hf
    have hc : figB c = true := by unfold figsL at hf; simp at hf; exact hf.1
    have hr : figsL r = true := by unfold figsL at hf ⊢; simp at hf ⊢; exact hf.2
    have hx := hex_fig c hc
    have hb : 48 ≤ c.toNat ∧ c.toNat ≤ 57 := by unfold figB at hc; exact of_decide_eq_true hc
    have hd : ¬ (hexV c < 0 ∨ 10 ≤ hexV c ∨ 4294967295 < m) := by omega
    rw [digs_yes _ _ _ _ hd, hx]
    unfold portN
    by_cases hbig : 65535 < m * 10 + ((c.toNat : Int) - 48)
    · rw [if_pos hbig]
      refine ⟨(fun n h => absurd h (by simp)), (fun _ k hk => ?_)⟩
      have := digs_mono r _ k (by omega) hr hk
      omega
    · rw [if_neg hbig]
      exact ih _ (by omega) (by omega) hr
theorem digs_nofig (l : List UInt8) : ∀ (m : Int), figsL l = false → digs 10 m l = none := by
  induction l with
  | nil => intro m h; cases h
  | cons c r ih =>
    intro m hf
    by_cases hd : hexV c < 0 ∨ 10 ≤ hexV c ∨ 4294967295 < m
    · exact digs_no _ _ _ _ hd
    · rw [digs_yes _ _ _ _ hd]
      apply ih
      have hc : figB c = true := by
        cases h : figB c with
        | true => rfl
        | false => exfalso; have := hex_nofig c h; omega
      unfold figsL at hf ⊢
      rw [List.all_cons, hc, Bool.true_and] at hf
      exact hf
theorem port_both (l : List UInt8) (own : Int) (hown : own ≤ 65535) : (portB l own = true ∧ portV l own = portS l own ∧ portS l own ≠ -2) ∨ (portB l own = false ∧ portS l own = -2) := by
  by_cases he : l = []
  · subst he
    obtain ⟨e1, e2⟩ := portL_empty own
    left
    refine ⟨e2, ?_, ?_⟩
    · rw [e1]; rfl
    · show (-1 : Int) ≠ -2; decide
  · cases hf : figsL l with
    | false =>
      right
      refine ⟨(portL_nofig l own hf).2, ?_⟩
      have : digsV 10 l = -1 := by unfold digsV; rw [digs_nofig l 0 hf]; rfl
      unfold portS
      rw [if_neg he, this, if_neg (by omega)]
    | true =>
      obtain ⟨p1, p2⟩ := port_digs l 0 (by decide) (by decide) hf
      cases hp : portN 0 l with
      | none =>
        right
        refine ⟨(portL_none l own hf he hp).2, ?_⟩
        unfold portS
        rw [if_neg he, if_neg]
        rintro ⟨h1, h2⟩
        unfold digsV at h1 h2
        cases hd : digs 10 0 l with
        | none => rw [hd] at h1; revert h1; decide
        | some k =>
          rw [hd] at h2
          have := p2 hp k hd
          have h3 : k ≤ 65535 := h2
          omega
      | some n =>
        have hr := portN_le l 0 n (by decide) (by decide) (figs_low l hf) hp
        have hd : digsV 10 l = n := by unfold digsV; rw [p1 n hp]; rfl
        left
        by_cases ho : n = own
        · subst ho
          obtain ⟨e1, e2⟩ := portL_own l n hf he hp
          refine ⟨e2, ?_, ?_⟩
          · rw [e1]; unfold portS; rw [if_neg he, hd, if_pos hr, if_pos rfl]
          · unfold portS; rw [if_neg he, hd, if_pos hr, if_pos rfl]; decide
        · obtain ⟨e1, e2⟩ := portL_some l own n hf he hp ho
          have e3 : portS l own = n := by unfold portS; rw [if_neg he, hd, if_pos hr, if_neg ho]
          refine ⟨e2, by rw [e1, e3], ?_⟩
          rw [e3]; omega
set_option maxHeartbeats 2000000 in
set_option maxRecDepth 100000 in
theorem l3Port (l : List UInt8) (own : Int) (w : World) (hl : l.length ≤ 1000) :
    Calls Tryz.prog 99 #[.string (mk l), .int .i64 own] w fun e w' => e = .returned (.int .i64 (portS l own)) ∧ w' = w := by
  by_cases he : l = []
  · subst he
    have HE : Hid (portS [] own = -1) := rfl
    have hmk : mk [] = ⟨#[]⟩ := rfl
    rw [hmk]
    go_enter Tryz.func99, Tryz.ntmps99
    go_wp2
    go_ret
    rw [HE.out]
    exact ⟨rfl, rfl⟩
  · obtain ⟨s, hs⟩ : ∃ s, s = mk l := ⟨_, rfl⟩
    obtain ⟨hb1, hb2⟩ := text_full s (by rw [hs, mk_data]; exact he)
    obtain ⟨n, hn⟩ : ∃ n, n = digsV 10 l := ⟨_, rfl⟩
    have CD : Hid (∀ W, Calls Tryz.prog 123 #[.string s, .int .i64 10] W fun e w' => e = .returned (.int .i64 n) ∧ w' = W) := fun W => by rw [hn, hs]; exact l2Digits (mk l) 10 W (by rw [mk_size]; omega) (by omega)
    have HP : Hid (portS l own = if 0 ≤ n ∧ n ≤ 65535 then (if n = own then -1 else n) else -2) := by show _ = _; unfold portS; rw [if_neg he, hn]
    rw [← hs]
    clear hs hn he
    by_cases hin : 0 ≤ n ∧ n ≤ 65535
    · have CI : Hid (∀ W, Calls Tryz.prog 120 #[.int .i64 n, .int .i64 0, .int .i64 65535] W fun e w' => e = .returned (.bool true) ∧ w' = W) := fun W => l1In_yes n 0 65535 W hin
      rw [if_pos hin] at HP
      clear hin
      by_cases ho : n = own
      · subst ho
        have HR : Hid (portS l n = -1) := by show _ = _; rw [HP.out, if_pos rfl]
        clear HP
        go_enter Tryz.func99, Tryz.ntmps99
        go_wp2_with fail
        refine (CD.out _).mono ?_
        rintro e W1 ⟨rfl, hW1⟩
        have hW1' := hW1.symm
        subst hW1'
        go_wp2_with fail
        refine (CI.out _).mono ?_
        rintro e W2 ⟨rfl, hW2⟩
        have hW2' := hW2.symm
        subst hW2'
        go_wp2
        go_ret
        rw [HR.out]
        exact ⟨rfl, rfl⟩
      · have ho' : (n == own) = false := beq_eq_false_iff_ne.2 ho
        have HR : Hid (portS l own = n) := by show _ = _; rw [HP.out, if_neg ho]
        clear HP ho
        go_enter Tryz.func99, Tryz.ntmps99
        go_wp2_with fail
        refine (CD.out _).mono ?_
        rintro e W1 ⟨rfl, hW1⟩
        have hW1' := hW1.symm
        subst hW1'
        go_wp2_with fail
        refine (CI.out _).mono ?_
        rintro e W2 ⟨rfl, hW2⟩
        have hW2' := hW2.symm
        subst hW2'
        go_wp2
        go_ret
        rw [HR.out]
        exact ⟨rfl, rfl⟩
    · have CI : Hid (∀ W, Calls Tryz.prog 120 #[.int .i64 n, .int .i64 0, .int .i64 65535] W fun e w' => e = .returned (.bool false) ∧ w' = W) := fun W => l1In_no n 0 65535 W hin
      have HR : Hid (portS l own = -2) := by show _ = _; rw [HP.out, if_neg hin]
      clear HP hin
      go_enter Tryz.func99, Tryz.ntmps99
      go_wp2_with fail
      refine (CD.out _).mono ?_
      rintro e W1 ⟨rfl, hW1⟩
      have hW1' := hW1.symm
      subst hW1'
      go_wp2_with fail
      refine (CI.out _).mono ?_
      rintro e W2 ⟨rfl, hW2⟩
      have hW2' := hW2.symm
      subst hW2'
      go_wp2
      go_ret
      rw [HR.out]
      exact ⟨rfl, rfl⟩
end Go.Proofs.YtcmglinehdpnlaaGreatDoor
end

/- spec.PathIn: whether a path is below another one. -/
import Derived.Test.YteapapcedkpkmaaPinI
set_option linter.unusedVariables false
set_option linter.unusedSimpArgs false
namespace Go.Proofs.Yteapapcedkpkmaa
open Go.RowKit Go.Shelf

theorem pre_raw (p b : ByteArray) (h : b.size ≤ p.size) : ((p.extract 0 b.size).toList == b.toList) = Lib.hasPrefix p.data.toList b.data.toList := by
  have := Lib.hasPrefix_raw p b
  rw [decide_eq_true h] at this
  simpa using this

set_option maxHeartbeats 2000000 in
set_option maxRecDepth 100000 in
theorem specPathIn (p b : ByteArray) (w : World) (hs : p.size ≤ 1048600) (ds : b.size ≤ 1048600) :
    Calls Try.prog 7 #[.string p, .string b] w fun e w' => e = .returned (.bool (pinL p.data.toList b.data.toList)) ∧ w' = w := by
  rcases pinCase p b with he | ⟨h0, hn⟩ | ⟨h0, he⟩ | ⟨k, hk, hl, hp, h⟩ | ⟨k, hk, hl, hp, h, h2⟩ | ⟨k, hk, hl, hp, h, h2⟩
  · subst he
    have HO : Hid (pinL p.data.toList (⟨#[]⟩ : ByteArray).data.toList = false) := pinL_nil _
    go_enter Try.func7, Try.ntmps7
    go_wp2
    go_ret
    exact ⟨by rw [HO.out]; rfl, rfl⟩
  · have HO : Hid (pinL p.data.toList b.data.toList = false) := pinL_no _ _ hn
    have h0b : ((b.size : Int) == 0) = false := by rw [beq_eq_false_iff_ne]; omega
    have h0n : ¬ ((b.size : Int) = 0) := by omega
    by_cases hlt : p.size < b.size
    · have hlti : (p.size : Int) < (b.size : Int) := by omega
      clear hn
      go_enter Try.func7, Try.ntmps7
      go_wp2
      go_ret
      exact ⟨by rw [HO.out]; rfl, rfl⟩
    · have hlti : (b.size : Int) ≤ (p.size : Int) := by omega
      have hE : ((p.extract 0 b.size).toList == b.toList) = false := by rw [pre_raw p b (by omega), hn]
      have hE2 : ¬ (p.extract 0 b.size).toList = b.toList := by rw [beq_eq_false_iff_ne] at hE; exact hE
      clear hn
      go_enter Try.func7, Try.ntmps7
      go_wp2
      go_ret
      exact ⟨by rw [HO.out]; rfl, rfl⟩
  all_goals
    have hb0 : b.size ≠ 0 := by omega
    have h0b : ((b.size : Int) == 0) = false := by rw [beq_eq_false_iff_ne]; omega
    have h0n : ¬ ((b.size : Int) = 0) := by omega
  · subst he
    have HO : Hid (pinL p.data.toList p.data.toList = true) := by
      show _ = _
      rw [pin_self, show p.data.toList.isEmpty = false from by rw [← ByteArray.toList_eq]; exact (ne_full p h0).2]; rfl
    have hE : (p.extract 0 p.size).toList = p.toList := by
      simp
    go_enter Try.func7, Try.ntmps7
    go_wp2
    go_ret
    exact ⟨by rw [HO.out]; rfl, rfl⟩
  all_goals
    have hE0 : (p.extract 0 b.size).toList = b.toList := by
      have := pre_raw p b (by omega)
      rw [hp] at this
      simpa using this
    have hE : ((p.extract 0 b.size).toList == b.toList) = true := by rw [hE0]; simp
    have hlti : (b.size : Int) ≤ (p.size : Int) := by omega
    have hk1 : (b.size : Int) - 1 = (k : Int) := by omega
    have hki : (k : Int) < (b.size : Int) := by omega
    have hkl : k < b.size := by omega
    have hli : (b.size : Int) < (p.size : Int) := by omega
    have hne : ((p.size : Int) == (b.size : Int)) = false := by rw [beq_eq_false_iff_ne]; omega
    have hne2 : ¬ (p.size : Int) = (b.size : Int) := by omega
  · have HO : Hid (pinL p.data.toList b.data.toList = true) := pin_last p b k hk hp h
    have e1 : (((b[k]'hkl).toNat : Int) == 47) = true := by rw [h]; rfl
    clear hp h hk
    go_enter Try.func7, Try.ntmps7
    go_wp2
    go_ret
    exact ⟨by rw [HO.out]; rfl, rfl⟩
  · have HO : Hid (pinL p.data.toList b.data.toList = true) := pin_here p b k hk hl hp h2
    have e1 : (((b[k]'hkl).toNat : Int) == 47) = false := byte47 _ h
    have e2 : (((p[b.size]'hl).toNat : Int) == 47) = true := by rw [h2]; rfl
    clear hp h h2 hk
    go_enter Try.func7, Try.ntmps7
    go_wp2
    go_ret
    exact ⟨by rw [HO.out]; rfl, rfl⟩
  · have HO : Hid (pinL p.data.toList b.data.toList = false) := pin_none p b k hk hl hp h h2
    have e1 : (((b[k]'hkl).toNat : Int) == 47) = false := byte47 _ h
    have e2 : (((p[b.size]'hl).toNat : Int) == 47) = false := byte47 _ h2
    clear hp h h2 hk
    go_enter Try.func7, Try.ntmps7
    go_wp2
    go_ret
    exact ⟨by rw [HO.out]; rfl, rfl⟩
end Go.Proofs.Yteapapcedkpkmaa

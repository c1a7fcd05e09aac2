/- impl.PathIn: whether a path is below another one. -/
import Derived.Test.YteapapcedkpkmaaPinP
import Derived.Test.YteapapcedkpkmaaShelf
set_option linter.unusedVariables false
set_option linter.unusedSimpArgs false
namespace Go.Proofs.Yteapapcedkpkmaa
open Go.RowKit Go.Shelf

theorem ne_full (s : ByteArray) (h : s.size ≠ 0) : (s.toList == []) = false ∧ s.toList.isEmpty = false := by
  have hl : s.data.toList.length = s.size := by simp
  have hzn : s.toList ≠ [] := by rw [ByteArray.toList_eq]; intro e; rw [e] at hl; simp at hl; omega
  exact ⟨beq_eq_false_iff_ne.2 hzn, List.isEmpty_eq_false_iff.2 hzn⟩
theorem ne_size (p b : ByteArray) (h : b.size < p.size) : (p.toList == b.toList) = false ∧ ¬ p.toList = b.toList := by
  have e : ¬ p.toList = b.toList := by
    intro e
    have := congrArg List.length e
    rw [ByteArray.toList_eq, ByteArray.toList_eq] at this
    simp at this; omega
  exact ⟨beq_eq_false_iff_ne.2 e, e⟩

set_option maxHeartbeats 2000000 in
set_option maxRecDepth 100000 in
theorem implPathIn (p b : ByteArray) (w : World) (hs : p.size ≤ 1048600) (ds : b.size ≤ 1048600) :
    Calls Try.prog 6 #[.string p, .string b] w fun e w' => e = .returned (.bool (pinL p.data.toList b.data.toList)) ∧ w' = w := by
  have CP : Hid (∀ W, Calls Try.prog 10 #[.string p, .string b] W fun e w' => e = .returned (.bool (Lib.hasPrefix p.data.toList b.data.toList)) ∧ w' = W) := fun W => Try.strings_HasPrefix p b W
  rcases pinCase p b with he | ⟨h0, hn⟩ | ⟨h0, he⟩ | ⟨k, hk, hl, hp, h⟩ | ⟨k, hk, hl, hp, h, h2⟩ | ⟨k, hk, hl, hp, h, h2⟩
  · subst he
    clear CP
    have HO : Hid (pinL p.data.toList (⟨#[]⟩ : ByteArray).data.toList = false) := pinL_nil _
    go_enter Try.func6, Try.ntmps6
    go_wp2
    go_ret
    exact ⟨by rw [HO.out]; rfl, rfl⟩
  · obtain ⟨f1, f2⟩ := ne_full b h0
    have HO : Hid (pinL p.data.toList b.data.toList = false) := pinL_no _ _ hn
    rw [hn] at CP
    go_enter Try.func6, Try.ntmps6
    go_wp2_with fail
    refine (CP.out _).mono ?_
    rintro e w1 ⟨rfl, rfl⟩
    go_wp2
    go_ret
    exact ⟨by rw [HO.out]; rfl, rfl⟩
  · subst he
    obtain ⟨f1, f2⟩ := ne_full p h0
    have HO : Hid (pinL p.data.toList p.data.toList = true) := by
      show _ = _
      rw [pin_self, show p.data.toList.isEmpty = false from by rw [← ByteArray.toList_eq]; exact f2]; rfl
    rw [pre_self] at CP
    go_enter Try.func6, Try.ntmps6
    go_wp2_with fail
    refine (CP.out _).mono ?_
    rintro e w1 ⟨rfl, rfl⟩
    go_wp2
    go_ret
    exact ⟨by rw [HO.out]; rfl, rfl⟩
  all_goals
    obtain ⟨f1, f2⟩ := ne_full b (by omega)
    obtain ⟨n1, n2⟩ := ne_size p b hl
    rw [hp] at CP
    have hk1 : (b.size : Int) - 1 = (k : Int) := by omega
    have hki : (k : Int) < (b.size : Int) := by omega
    have hkl : k < b.size := by omega
    have hli : (b.size : Int) < (p.size : Int) := by omega
  · have HO : Hid (pinL p.data.toList b.data.toList = true) := pin_last p b k hk hp h
    have e1 : (((b[k]'hkl).toNat : Int) == 47) = true := by rw [h]; rfl
    clear hp h hk
    go_enter Try.func6, Try.ntmps6
    go_wp2_with fail
    refine (CP.out _).mono ?_
    rintro e w1 ⟨rfl, rfl⟩
    go_wp2
    go_ret
    exact ⟨by rw [HO.out]; rfl, rfl⟩
  · have HO : Hid (pinL p.data.toList b.data.toList = true) := pin_here p b k hk hl hp h2
    have e1 : (((b[k]'hkl).toNat : Int) == 47) = false := byte47 _ h
    have e2 : (((p[b.size]'hl).toNat : Int) == 47) = true := by rw [h2]; rfl
    clear hp h h2 hk
    go_enter Try.func6, Try.ntmps6
    go_wp2_with fail
    refine (CP.out _).mono ?_
    rintro e w1 ⟨rfl, rfl⟩
    go_wp2
    go_ret
    exact ⟨by rw [HO.out]; rfl, rfl⟩
  · have HO : Hid (pinL p.data.toList b.data.toList = false) := pin_none p b k hk hl hp h h2
    have e1 : (((b[k]'hkl).toNat : Int) == 47) = false := byte47 _ h
    have e2 : (((p[b.size]'hl).toNat : Int) == 47) = false := byte47 _ h2
    clear hp h h2 hk
    go_enter Try.func6, Try.ntmps6
    go_wp2_with fail
    refine (CP.out _).mono ?_
    rintro e w1 ⟨rfl, rfl⟩
    go_wp2
    go_ret
    exact ⟨by rw [HO.out]; rfl, rfl⟩
end Go.Proofs.Yteapapcedkpkmaa

/- impl.DomainIn: whether a host is within a domain. -/
import Derived.Test.YteapapcedkpkmaaDoorOkI
import Derived.Test.YteapapcedkpkmaaDoorDomP
set_option linter.unusedVariables false
set_option linter.unusedSimpArgs false
namespace Go.Proofs.YteapapcedkpkmaaDoor
open Go.RowKit Go.Shelf

set_option maxHeartbeats 2000000 in
set_option maxRecDepth 100000 in
theorem isNamedHost (s : ByteArray) (w : World) (hm : ∃ m, w.cell? ⟨0, 0, none⟩ = some (.int .i64 m)) (hs : s.size ≤ 1048576) :
    Calls Tryd.prog 11 #[.string s] w fun e w' => e = .returned (.bool (okH 1 s 0)) ∧ Below w.heap.size w w' := by
  go_enter Tryd.func11, Tryd.ntmps11
  go_wp2_with fail
  refine (implOk 1 s 0 _ hm hs).mono ?_
  rintro e w1 ⟨rfl, b1⟩
  go_wp2
  go_ret
  exact ⟨rfl, b1⟩

set_option maxHeartbeats 2000000 in
set_option maxRecDepth 100000 in
theorem implDomainIn (h d : ByteArray) (w : World) (hm : ∃ m, w.cell? ⟨0, 0, none⟩ = some (.int .i64 m)) (hs : h.size ≤ 1048576) (ds : d.size ≤ 1048576) :
    Calls Tryd.prog 6 #[.string h, .string d] w fun e w' => e = .returned (.bool (domB h d)) ∧ Below w.heap.size w w' := by
  by_cases h0 : h.size = 0
  · have he := zero_text h h0
    subst he
    have HO : Hid (domB ⟨#[]⟩ d = false) := domB_h d
    go_enter Tryd.func6, Tryd.ntmps6
    go_wp2
    go_ret
    exact ⟨by rw [HO.out]; rfl, Below.refl _ w⟩
  by_cases d0 : d.size = 0
  · obtain ⟨f1, f2, f3⟩ := full_text h h0
    have he := zero_text d d0
    subst he
    have HO : Hid (domB h ⟨#[]⟩ = false) := domB_d h
    clear f3
    go_enter Tryd.func6, Tryd.ntmps6
    go_wp2
    go_ret
    exact ⟨by rw [HO.out]; rfl, Below.refl _ w⟩
  obtain ⟨f1, f2, f3⟩ := full_text h h0
  by_cases hd : h = d
  · subst hd
    have HO : Hid (domB h h = true) := domB_same h h0
    clear f3
    go_enter Tryd.func6, Tryd.ntmps6
    go_wp2
    go_ret
    exact ⟨by rw [HO.out]; rfl, Below.refl _ w⟩
  obtain ⟨g1, g2, g3⟩ := full_text d d0
  obtain ⟨n1, n2⟩ := txt_ne h d hd
  have HO : Hid (domB h d = (Lib.hasSuffix h.data.toList (46 :: d.data.toList) && okH 1 h 0)) := domB_else h d h0 d0 hd
  have CH : Hid (∀ W, Calls Tryd.prog 12 #[.string h, .string ((⟨#[46]⟩ : ByteArray) ++ d)] W fun e w' => e = .returned (.bool (Lib.hasSuffix h.data.toList (46 :: d.data.toList))) ∧ w' = W) := by
    intro W
    have := Tryd.strings_HasSuffix h ((⟨#[46]⟩ : ByteArray) ++ d) W (by omega)
    rw [dot_list] at this
    exact this
  have hz := dot_size d
  clear f3 g3
  generalize Lib.hasSuffix h.data.toList (46 :: d.data.toList) = b at HO CH
  cases hk : okH 1 h 0 with
  | true =>
    rw [hk] at HO
    go_enter Tryd.func6, Tryd.ntmps6
    go_wp2_with fail
    refine (isNamedHost h _ hm hs).mono ?_
    rintro e w1 ⟨rfl, b1⟩
    rw [hk]
    go_wp2_with fail
    refine (CH.out _).mono ?_
    rintro e w2 ⟨rfl, rfl⟩
    go_wp2
    go_ret
    exact ⟨by rw [HO.out]; cases b <;> rfl, b1⟩
  | false =>
    rw [hk] at HO
    go_enter Tryd.func6, Tryd.ntmps6
    go_wp2_with fail
    refine (isNamedHost h _ hm hs).mono ?_
    rintro e w1 ⟨rfl, b1⟩
    rw [hk]
    go_wp2
    go_ret
    exact ⟨by rw [HO.out]; cases b <;> rfl, b1⟩
end Go.Proofs.YteapapcedkpkmaaDoor

/- spec.DomainIn: whether a host is within a domain. -/
import Derived.Test.YteapapcedkpkmaaDoorDomP
set_option linter.unusedVariables false
set_option linter.unusedSimpArgs false
namespace Go.Proofs.YteapapcedkpkmaaDoor
open Go.RowKit Go.Shelf

set_option maxHeartbeats 2000000 in
set_option maxRecDepth 100000 in
theorem l7Name (s : ByteArray) (w : World) (hs : s.size ≤ 1048576) :
    Calls Tryd.prog 14 #[.string s] w fun e w' => e = .returned (.bool (okH 1 s 0)) ∧ Below w.heap.size w w' := by
  go_enter Tryd.func14, Tryd.ntmps14
  go_wp2_with fail
  refine (specOk 1 s 0 _ hs).mono ?_
  rintro e w1 ⟨rfl, b1⟩
  go_wp2
  go_ret
  exact ⟨rfl, b1⟩

set_option maxHeartbeats 2000000 in
set_option maxRecDepth 100000 in
theorem l7Ends (s p : ByteArray) (w : World) (hs : s.size ≤ 1048577) (hp : p.size ≤ 1048577) :
    Calls Tryd.prog 13 #[.string s, .string p] w fun e w' => e = .returned (.bool (Lib.hasSuffix s.data.toList p.data.toList)) ∧ w' = w := by
  rw [← Lib.hasSuffix_raw]
  have hlo : p.size ≤ s.size → ((s.size : Int) - (p.size : Int) + 9223372036854775808) % 18446744073709551616 - 9223372036854775808 = ((s.size - p.size : Nat) : Int) := fun _ => by omega
  by_cases h : p.size ≤ s.size
  · have hi : (p.size : Int) ≤ (s.size : Int) := by omega
    have e := hlo h
    go_enter Tryd.func13, Tryd.ntmps13
    go_wp2
    go_ret
    refine ⟨?_, rfl⟩
    show Ending.returned (Value.bool ((s.extract (s.size - p.size) s.size).toList == p.toList)) = _
    simp [h]
  · have hi : ¬ ((p.size : Int) ≤ (s.size : Int)) := by omega
    go_enter Tryd.func13, Tryd.ntmps13
    go_wp2
    go_ret
    refine ⟨?_, rfl⟩
    simp [h]

set_option maxHeartbeats 2000000 in
set_option maxRecDepth 100000 in
theorem specDomainIn (h d : ByteArray) (w : World) (hs : h.size ≤ 1048576) (ds : d.size ≤ 1048576) :
    Calls Tryd.prog 7 #[.string h, .string d] w fun e w' => e = .returned (.bool (domB h d)) ∧ Below w.heap.size w w' := by
  by_cases h0 : h.size = 0
  · have he := zero_text h h0
    subst he
    have HO : Hid (domB ⟨#[]⟩ d = false) := domB_h d
    go_enter Tryd.func7, Tryd.ntmps7
    go_wp2
    go_ret
    exact ⟨by rw [HO.out]; rfl, Below.refl _ w⟩
  by_cases d0 : d.size = 0
  · obtain ⟨f1, f2, f3⟩ := full_text h h0
    have he := zero_text d d0
    subst he
    have HO : Hid (domB h ⟨#[]⟩ = false) := domB_d h
    clear f3
    go_enter Tryd.func7, Tryd.ntmps7
    go_wp2
    go_ret
    exact ⟨by rw [HO.out]; rfl, Below.refl _ w⟩
  obtain ⟨f1, f2, f3⟩ := full_text h h0
  by_cases hd : h = d
  · subst hd
    have HO : Hid (domB h h = true) := domB_same h h0
    clear f3
    go_enter Tryd.func7, Tryd.ntmps7
    go_wp2
    go_ret
    exact ⟨by rw [HO.out]; rfl, Below.refl _ w⟩
  obtain ⟨g1, g2, g3⟩ := full_text d d0
  obtain ⟨n1, n2⟩ := txt_ne h d hd
  have HO : Hid (domB h d = (Lib.hasSuffix h.data.toList (46 :: d.data.toList) && okH 1 h 0)) := domB_else h d h0 d0 hd
  have hz := dot_size d
  have CH : Hid (∀ W, Calls Tryd.prog 13 #[.string h, .string ((⟨#[46]⟩ : ByteArray) ++ d)] W fun e w' => e = .returned (.bool (Lib.hasSuffix h.data.toList (46 :: d.data.toList))) ∧ w' = W) := by
    intro W
    have := l7Ends h ((⟨#[46]⟩ : ByteArray) ++ d) W (by omega) (by omega)
    rw [dot_list] at this
    exact this
  clear f3 g3
  generalize Lib.hasSuffix h.data.toList (46 :: d.data.toList) = b at HO CH
  cases b with
  | true =>
    go_enter Tryd.func7, Tryd.ntmps7
    go_wp2_with fail
    refine (CH.out _).mono ?_
    rintro e w2 ⟨rfl, rfl⟩
    go_wp2_with fail
    refine (l7Name h _ hs).mono ?_
    rintro e w1 ⟨rfl, b1⟩
    go_wp2
    go_ret
    exact ⟨by rw [HO.out]; simp, b1⟩
  | false =>
    go_enter Tryd.func7, Tryd.ntmps7
    go_wp2_with fail
    refine (CH.out _).mono ?_
    rintro e w2 ⟨rfl, rfl⟩
    go_wp2
    go_ret
    exact ⟨by rw [HO.out]; rfl, Below.refl _ _⟩
end Go.Proofs.YteapapcedkpkmaaDoor

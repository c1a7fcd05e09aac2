/- The law FnPathOf answers true, whatever the code. -/
import Derived.Test.YtnfhajhdpdidlaaGreatDoorCFnPathOf01
import Derived.Test.YtnfhajhdpdidlaaGreatDoorCFnPathOf03
import Derived.Test.YtnfhajhdpdidlaaGreatDoorCFnPathOf04
import Derived.Test.YtnfhajhdpdidlaaGreatDoorB42
import Derived.Test.YtnfhajhdpdidlaaGreatDoorCFnPathOf09
import Derived.Deep.Cut
set_option linter.unusedVariables false
set_option linter.unusedSimpArgs false
set_option maxHeartbeats 8000000
set_option maxRecDepth 100000
section
namespace Go.Proofs.YtnfhajhdpdidlaaGreatDoor
open Go.RowKit Go.Shelf
theorem fnPathOf_walk (w : World) (hL : Lean1 w) (a0 : Option Addr) (len0 cap0 : Nat) (z0 : List Int) (h0 : IsRow .u8 w a0 len0 cap0 z0) :
  Calls Tryz.prog 4 #[.slice a0 len0 cap0] w fun e w' => e = .returned (.bool true) ∧ Below w.heap.size w w' := by
 have hC := code_of_row h0
 by_cases hbig : (1048576 : Int) < (len0 : Int)
 ·go_enter Tryz.func4, Tryz.ntmps4
  go_wp2
  go_ret
  exact ⟨rfl, Below.refl _ _⟩
 have hbig2 : (len0 : Int) ≤ 1048576 := by omega
 have A0 : Hid (Wat w w) := Wat.start hL
 clear hbig hL h0
 go_enter Tryz.func4, Tryz.ntmps4
 go_wp2_with fail
 refine (drawPathOf w.heap.size a0 len0 cap0 _ (Nat.le_refl _) hC).mono ?_
 rintro e w1 ⟨q, a, n, c, rfl, s1, hF, b1⟩
 obtain ⟨V1, hV1⟩ : ∃ V, V = w1.alloc (.cells #[(.string q.sc), (.string q.us), (.string q.pw), (.int .i64 q.hk), (.string q.hn), (.int .i64 q.ha), (.int .i64 q.po), (.slice a n c), (.string q.op), (.bool q.hq), (.string q.qu), (.bool q.hf), (.string q.fr)] 31) := ⟨_, rfl⟩
 have U1 : Hid (Va w1.heap.size q a n c V1) := by show Va _ _ _ _ _ _; rw [hV1]; exact Va.new _ s1
 have A1 : Hid (Wat w V1) := A0.out.step (by rw [hV1]; exact b1.trans ((below_new _ _).mono b1.size))
 clear s1 b1 A0 hC
 obtain ⟨b, hb⟩ : ∃ b : Bool, b = true ↔ (okP q ∧ 0 ≤ ownZ q.sc) := by
  by_cases h : okP q ∧ 0 ≤ ownZ q.sc
  ·exact ⟨true, iff_of_true rfl h⟩
  ·exact ⟨false, iff_of_false (by decide) h⟩
 obtain ⟨y, hy⟩ : ∃ b : Bool, b = true ↔ okP q := by
  by_cases h : okP q
  ·exact ⟨true, by simp [h]⟩
  ·exact ⟨false, by simp [h]⟩
 obtain ⟨N, hN⟩ : ∃ N : Int, N = (if y = true then (if q.po < 0 then ownZ q.sc else q.po) else -1) := ⟨_, rfl⟩
 obtain ⟨t, ht⟩ : ∃ t : ByteArray, t = pofT b (putL q.ps) := ⟨_, rfl⟩
 have hto : q.tot ≤ 1048576 := by have := hF.out.1.tot; omega
 have htl : q.ps.length + tot q.ps ≤ 1048576 := by unfold P.tot at hto; omega
 have hpo : q.po ≤ 9223372036854775807 := by have := hF.out.1.po; omega
 have CI : Hid (∀ W, Lean1 W → StrsOf a n q.ps W → Calls Tryz.prog 12 #[.agg #[(.string q.sc), (.string q.us), (.string q.pw), (.int .i64 q.hk), (.string q.hn), (.int .i64 q.ha), (.int .i64 q.po), (.slice a n c), (.string q.op), (.bool q.hq), (.string q.qu), (.bool q.hf), (.string q.fr)]] W fun e w' => e = .returned (.string t) ∧ Below W.heap.size W w') := fun W hW s => by rw [ht]; exact implPathOf q a n c W hW s hto hpo b hb
 have CS : Hid (∀ W, StrsOf a n q.ps W → Calls Tryz.prog 10 #[.agg #[(.string q.sc), (.string q.us), (.string q.pw), (.int .i64 q.hk), (.string q.hn), (.int .i64 q.ha), (.int .i64 q.po), (.slice a n c), (.string q.op), (.bool q.hq), (.string q.qu), (.bool q.hf), (.string q.fr)]] W fun e w' => e = .returned (.string t) ∧ Below W.heap.size W w') := fun W s => by rw [ht]; exact specPathOf q a n c W s hto hpo b hb
 have CN : Hid (∀ W, Lean1 W → StrsOf a n q.ps W → Calls Tryz.prog 15 #[.agg #[(.string q.sc), (.string q.us), (.string q.pw), (.int .i64 q.hk), (.string q.hn), (.int .i64 q.ha), (.int .i64 q.po), (.slice a n c), (.string q.op), (.bool q.hq), (.string q.qu), (.bool q.hf), (.string q.fr)]] W fun e w' => e = .returned (.int .i64 N) ∧ Below W.heap.size W w') := fun W hW s => by rw [hN]; exact implPortOf q a n c W hW s hto hpo y hy
 have KF : Hid (b = false → N = -1 ∧ t = ⟨#[47]⟩) := fun h => by
  refine ⟨?_, by rw [ht, h]; rfl⟩
  cases hyy : y with
  | false => rw [hN, hyy]; rfl
  | true =>
   have hok := hy.1 hyy
   have ho : ¬ 0 ≤ ownZ q.sc := fun ho => by have := hb.2 ⟨hok, ho⟩; rw [h] at this; cases this
   rw [hN, hyy, if_pos rfl]
   rcases ok_prt q hok with hp | ⟨p0, p1, p2, p3⟩
   ·rw [if_pos (by omega)]
    rcases own_cases q.sc with e | e
    ·exact e
    ·omega
   ·omega
 obtain ⟨p, hp⟩ : ∃ p, p = mk (putL q.ps) := ⟨_, rfl⟩
 have hps : p.size ≤ 1048576 := by rw [hp, mk_size, putL_len]; omega
 have KT : Hid (b = true → ¬ N < 0 ∧ p.size ≠ 0 ∧ (∃ h0 : 0 < t.size, t[0] = 47) ∧ t.size ≤ p.size ∧ pinL p.data.toList t.data.toList = true) := fun h => by
  obtain ⟨hok, ho⟩ := hb.1 h
  have hyt : y = true := hy.2 hok
  obtain ⟨r, hr⟩ := put_first q.ps ((ok_host q hok).2 ho)
  obtain ⟨k, k1, k2, k3, k4⟩ := pof_facts (putL q.ps) r hr
  have hpt := ok_pt q hok ho
  unfold ptP at hpt
  rw [ht, h, k1, hp, mk_data, mk_data]
  have h3 : ((putL q.ps).take k) = 47 :: r.take (k - 1) := by rw [hr]; obtain ⟨m, rfl⟩ : ∃ m, k = m + 1 := ⟨k - 1, by omega⟩; rfl
  refine ⟨by rw [hN, hyt, if_pos rfl]; omega, by rw [mk_size, hr]; simp, mk_first _ _ h3, by rw [mk_size, mk_size, List.length_take]; omega, k4⟩
 have CP : Hid (∀ W, StrsOf a n q.ps W → Calls Tryz.prog 16 #[.slice a n c] W fun e w' => e = .returned (.string p) ∧ Below W.heap.size W w') := fun W s => by rw [hp]; exact implPathPut a n c q.ps W s (by omega)
 have CX : Hid (t.size ≤ 1048600 → ∀ W, Calls Tryz.prog 17 #[.string p, .string t] W fun e w' => e = .returned (.bool (pinL p.data.toList t.data.toList)) ∧ w' = W) := fun h W => implPathIn p t W (by omega) h
 clear hN hb hy ht hp hto hpo htl
 go_upto_region 4 with fail
 rw [← hV1]
 clear hV1
 generalize w1.heap.size = g1 at *
 obtain ⟨k0, k1, k2, k3, k4, k5, k6, k7, k8, k9, k10, k11, k12⟩ := Blk.cells13a U1.out.bk
 go_wp2_with fail
 refine (CI.out _ A1.out.le U1.out.st).mono ?_
 rintro e w2 ⟨rfl, d2⟩
 have A2 : Hid (Wat w w2) := A1.out.step d2
 have U2 : Hid (Va g1 q a n c w2) := U1.out.later d2
 clear d2 A1 U1 k0 k1 k2 k3 k4 k5 k6 k7 k8 k9 k10 k11 k12
 obtain ⟨k0, k1, k2, k3, k4, k5, k6, k7, k8, k9, k10, k11, k12⟩ := Blk.cells13a U2.out.bk
 clear CI
 go_wp2_with fail
 refine (CS.out _ U2.out.st).mono ?_
 rintro e w3 ⟨rfl, d3⟩
 have A3 : Hid (Wat w w3) := A2.out.step d3
 have U3 : Hid (Va g1 q a n c w3) := U2.out.later d3
 clear d3 A2 U2 k0 k1 k2 k3 k4 k5 k6 k7 k8 k9 k10 k11 k12
 obtain ⟨k0, k1, k2, k3, k4, k5, k6, k7, k8, k9, k10, k11, k12⟩ := Blk.cells13a U3.out.bk
 go_wp2_with fail
 refine (CN.out _ A3.out.le U3.out.st).mono ?_
 rintro e w4 ⟨rfl, d4⟩
 have A4 : Hid (Wat w w4) := A3.out.step d4
 have U4 : Hid (Va g1 q a n c w4) := U3.out.later d4
 clear d4 A3 U3 k0 k1 k2 k3 k4 k5 k6 k7 k8 k9 k10 k11 k12
 obtain ⟨k0, k1, k2, k3, k4, k5, k6, k7, k8, k9, k10, k11, k12⟩ := Blk.cells13a U4.out.bk
 cases hbb : b with
 | false =>
  obtain ⟨hn, ht⟩ := KF.out hbb
  subst hn
  subst ht
  clear KF KT CP CX hbb
  go_wp2_with fail
  refine (CS.out _ U4.out.st).mono ?_
  rintro e w5 ⟨rfl, d5⟩
  have A5 : Hid (Wat w w5) := A4.out.step d5
  have U5 : Hid (Va g1 q a n c w5) := U4.out.later d5
  clear d5 A4 U4 k0 k1 k2 k3 k4 k5 k6 k7 k8 k9 k10 k11 k12
  obtain ⟨k0, k1, k2, k3, k4, k5, k6, k7, k8, k9, k10, k11, k12⟩ := Blk.cells13a U5.out.bk
  go_wp2_with fail
  refine (CN.out _ A5.out.le U5.out.st).mono ?_
  rintro e w6 ⟨rfl, d6⟩
  have A6 : Hid (Wat w w6) := A5.out.step d6
  have U6 : Hid (Va g1 q a n c w6) := U5.out.later d6
  clear d6 A5 U5 k0 k1 k2 k3 k4 k5 k6 k7 k8 k9 k10 k11 k12
  obtain ⟨k0, k1, k2, k3, k4, k5, k6, k7, k8, k9, k10, k11, k12⟩ := Blk.cells13a U6.out.bk
  clear k0 k1 k2 k3 k4 k5 k6 k7 k8 k9 k10 k11 k12
  go_wp2
  go_ret
  exact ⟨rfl, A6.out.bw⟩
 | true =>
  obtain ⟨hneg, hp0, ⟨h0, h47⟩, hle, hpin⟩ := KT.out hbb
  clear KF KT CS CN hbb
  have CX2 := CX.out (by omega)
  rw [hpin] at CX2
  have CX3 : Hid (∀ W, Calls Tryz.prog 17 #[.string p, .string t] W fun e w' => e = .returned (.bool true) ∧ w' = W) := CX2
  have hpf : (p.toList == []) = false ∧ p.toList.isEmpty = false := by
   have hl : p.data.toList.length = p.size := by simp
   have hzn : p.toList ≠ [] := by rw [ByteArray.toList_eq]; intro e; rw [e] at hl; simp at hl; omega
   exact ⟨beq_eq_false_iff_ne.2 hzn, List.isEmpty_eq_false_iff.2 hzn⟩
  obtain ⟨f1, f2⟩ := hpf
  have e47 : ((t[0].toNat : Int) == 47) = true := by rw [h47]; rfl
  have hlei : (t.size : Int) ≤ (p.size : Int) := by omega
  clear CX CX2 hpin h47
  go_wp2_with fail
  refine (CP.out _ U4.out.st).mono ?_
  rintro e w5 ⟨rfl, d5⟩
  have A5 : Hid (Wat w w5) := A4.out.step d5
  have U5 : Hid (Va g1 q a n c w5) := U4.out.later d5
  clear d5 A4 U4 k0 k1 k2 k3 k4 k5 k6 k7 k8 k9 k10 k11 k12
  obtain ⟨k0, k1, k2, k3, k4, k5, k6, k7, k8, k9, k10, k11, k12⟩ := Blk.cells13a U5.out.bk
  clear CP
  go_wp2_with fail
  refine (CX3.out _).mono ?_
  rintro e w6 ⟨rfl, hW⟩
  have hW2 := hW.symm
  subst hW2
  clear k0 k1 k2 k3 k4 k5 k6 k7 k8 k9 k10 k11 k12
  go_wp2
  go_ret
  exact ⟨rfl, A5.out.bw⟩
end Go.Proofs.YtnfhajhdpdidlaaGreatDoor
end

/- The law FnUrlSlash answers true, whatever the code. -/
import Derived.Test.YticbekooadnnlabGreatDoorCFnUrlSlash02
import Derived.Test.YticbekooadnnlabGreatDoorCFnUrlSlash04
import Derived.Test.YticbekooadnnlabGreatDoorB05
import Derived.Test.YticbekooadnnlabGreatDoorCFnUrlSlash08
import Derived.Deep.Cut
section
set_option linter.unusedVariables false
set_option linter.unusedSimpArgs false
namespace Go.Proofs.YticbekooadnnlabGreatDoor
open Go.RowKit Go.Shelf

set_option maxHeartbeats 8000000 in
set_option maxRecDepth 100000 in
theorem fnUrlSlash_walk (w : World) (hL : Lean1 w) (a0 : Option Addr) (len0 cap0 : Nat) (z0 : List Int) (h0 : IsRow .u8 w a0 len0 cap0 z0) :
    Calls Tryz.prog 3 #[.slice a0 len0 cap0] w fun e w' => e = .returned (.bool true) ∧ Below w.heap.size w w' := by
  have hC := code_of_row h0
  by_cases hbig : (1048576 : Int) < (len0 : Int)
  · go_enter Tryz.func3, Tryz.ntmps3
    go_wp2
    go_ret
    exact ⟨rfl, Below.refl _ _⟩
  have hbig2 : (len0 : Int) ≤ 1048576 := by omega
  have A0 : Hid (Wat w w) := Wat.start hL
  clear hbig hL h0
  go_enter Tryz.func3, Tryz.ntmps3
  go_wp2_with fail
  refine (drawUrlPut w.heap.size a0 len0 cap0 _ (Nat.le_refl _) hC).mono ?_
  rintro e w1 ⟨q, a, n, c, rfl, s1, hF, b1⟩
  obtain ⟨V1, hV1⟩ : ∃ V, V = w1.alloc (.cells #[(.string q.sc), (.string q.us), (.string q.pw), (.int .i64 q.hk), (.string q.hn), (.int .i64 q.ha), (.int .i64 q.po), (.slice a n c), (.string q.op), (.bool q.hq), (.string q.qu), (.bool q.hf), (.string q.fr)] 27) := ⟨_, rfl⟩
  have U1 : Hid (Va w1.heap.size q a n c V1) := by show Va _ _ _ _ _ _; rw [hV1]; exact Va.new _ s1
  have A1 : Hid (Wat w V1) := A0.out.step (by rw [hV1]; exact b1.trans ((below_new _ _).mono b1.size))
  clear s1 b1 A0 hC
  obtain ⟨b, hb⟩ : ∃ b : Bool, b = true ↔ okP q := by
    by_cases h : okP q
    · exact ⟨true, by simp [h]⟩
    · exact ⟨false, by simp [h]⟩
  obtain ⟨t, ht⟩ : ∃ t : ByteArray, t = if b = true then mk (writL q) else ⟨#[]⟩ := ⟨_, rfl⟩
  have hto : q.tot ≤ 1048576 := by have := hF.out.1.tot; omega
  have hpo : q.po ≤ 9223372036854775807 := by have := hF.out.1.po; omega
  have CP : Hid (∀ W, Lean1 W → StrsOf a n q.ps W → Calls Tryz.prog 6 #[.agg #[(.string q.sc), (.string q.us), (.string q.pw), (.int .i64 q.hk), (.string q.hn), (.int .i64 q.ha), (.int .i64 q.po), (.slice a n c), (.string q.op), (.bool q.hq), (.string q.qu), (.bool q.hf), (.string q.fr)]] W fun e w' => e = .returned (.string t) ∧ Below W.heap.size W w') := fun W hW s => by rw [ht]; exact implUrlPut q a n c W hW s hto hpo b hb
  have CQ : Hid (∀ W, StrsOf a n q.ps W → Calls Tryz.prog 7 #[.agg #[(.string q.sc), (.string q.us), (.string q.pw), (.int .i64 q.hk), (.string q.hn), (.int .i64 q.ha), (.int .i64 q.po), (.slice a n c), (.string q.op), (.bool q.hq), (.string q.qu), (.bool q.hf), (.string q.fr)]] W fun e w' => e = .returned (.string t) ∧ Below W.heap.size W w') := fun W s => by rw [ht]; exact specUrlPut q a n c W s hto hpo b hb
  obtain ⟨N, hN⟩ : ∃ N : Int, N = (if b = true then (if q.po < 0 then ownZ q.sc else q.po) else -1) := ⟨_, rfl⟩
  have CN : Hid (∀ W, Lean1 W → StrsOf a n q.ps W → Calls Tryz.prog 8 #[.agg #[(.string q.sc), (.string q.us), (.string q.pw), (.int .i64 q.hk), (.string q.hn), (.int .i64 q.ha), (.int .i64 q.po), (.slice a n c), (.string q.op), (.bool q.hq), (.string q.qu), (.bool q.hf), (.string q.fr)]] W fun e w' => e = .returned (.int .i64 N) ∧ Below W.heap.size W w') := fun W hW s => by rw [hN]; exact implPortOf q a n c W hW s hto hpo b hb
  have KN : Hid (¬ N < 0 → okP q ∧ 0 ≤ ownZ q.sc) := fun h => by
    cases hbb : b with
    | false => rw [hbb] at hN; simp at hN; omega
    | true =>
      have ho := hb.1 hbb
      rw [hbb, if_pos rfl] at hN
      refine ⟨ho, ?_⟩
      rcases ok_port q ho with hp | ⟨p0, p1, p2, p3⟩
      · rw [if_pos (by omega)] at hN; omega
      · exact p3
  have KT : Hid (okP q → t = mk (writL q)) := fun h => by rw [ht, if_pos (hb.2 h)]
  have KL : Hid (okP q → (writL q).length ≤ 200) := fun h => ((ok_iff q).1 h).2.1
  have hpl : q.ps.length ≤ 1100000 := by have : q.ps.length ≤ q.tot := (by unfold P.tot; omega); omega
  have HN : Hid (n = q.ps.length) := hF.out.2
  have CG : Hid (∀ a a' c c' W, StrsOf a n q.ps W → StrsOf a' n q.ps W → Calls Tryz.prog 10 #[.agg #[(.string q.sc), (.string q.us), (.string q.pw), (.int .i64 q.hk), (.string q.hn), (.int .i64 q.ha), (.int .i64 q.po), (.slice a n c), (.string q.op), (.bool q.hq), (.string q.qu), (.bool q.hf), (.string q.fr)], .agg #[(.string q.sc), (.string q.us), (.string q.pw), (.int .i64 q.hk), (.string q.hn), (.int .i64 q.ha), (.int .i64 q.po), (.slice a' n c'), (.string q.op), (.bool q.hq), (.string q.qu), (.bool q.hf), (.string q.fr)]] W fun e w' => e = .returned (.bool true) ∧ Below W.heap.size W w') := fun a a' c c' W h h' => guU3 q a a' n c n c' hpl W h h'
  clear hN hb ht hto hpo
  go_upto_region 4 with fail
  rw [← hV1]
  clear hV1
  generalize w1.heap.size = g1 at *
  obtain ⟨k0, k1, k2, k3, k4, k5, k6, k7, k8, k9, k10, k11, k12⟩ := Blk.cells13a U1.out.bk
  go_wp2_with fail
  refine (CP.out _ A1.out.le U1.out.st).mono ?_
  rintro e w2 ⟨rfl, d2⟩
  have A2 : Hid (Wat w w2) := A1.out.step d2
  have U2 : Hid (Va g1 q a n c w2) := U1.out.later d2
  clear d2 A1 U1 k0 k1 k2 k3 k4 k5 k6 k7 k8 k9 k10 k11 k12
  obtain ⟨k0, k1, k2, k3, k4, k5, k6, k7, k8, k9, k10, k11, k12⟩ := Blk.cells13a U2.out.bk
  clear CP
  go_wp2_with fail
  refine (CQ.out _ U2.out.st).mono ?_
  rintro e w3 ⟨rfl, d3⟩
  have A3 : Hid (Wat w w3) := A2.out.step d3
  have U3 : Hid (Va g1 q a n c w3) := U2.out.later d3
  clear d3 A2 U2 k0 k1 k2 k3 k4 k5 k6 k7 k8 k9 k10 k11 k12
  obtain ⟨k0, k1, k2, k3, k4, k5, k6, k7, k8, k9, k10, k11, k12⟩ := Blk.cells13a U3.out.bk
  go_wp2_with fail
  refine (CN.out _ A3.out.le U3.out.st).mono ?_
  rintro e w4 ⟨rfl, d4⟩
  have A4 : Hid (Wat w w4) := A3.out.step d4
  have U4 : Hid (Va g1 q a n c w4) := U3.out.later d4
  clear d4 A3 U3 k0 k1 k2 k3 k4 k5 k6 k7 k8 k9 k10 k11 k12
  obtain ⟨k0, k1, k2, k3, k4, k5, k6, k7, k8, k9, k10, k11, k12⟩ := Blk.cells13a U4.out.bk
  clear CN
  by_cases hneg : N < 0
  · clear KN KT KL CG
    go_wp2_with fail
    refine (CQ.out _ U4.out.st).mono ?_
    rintro e w5 ⟨rfl, d5⟩
    have A5 : Hid (Wat w w5) := A4.out.step d5
    have U5 : Hid (Va g1 q a n c w5) := U4.out.later d5
    clear d5 A4 U4 k0 k1 k2 k3 k4 k5 k6 k7 k8 k9 k10 k11 k12
    obtain ⟨k0, k1, k2, k3, k4, k5, k6, k7, k8, k9, k10, k11, k12⟩ := Blk.cells13a U5.out.bk
    go_wp2
    go_ret
    exact ⟨rfl, A5.out.bw⟩
  obtain ⟨hok, how⟩ := KN.out (by omega)
  have htw := KT.out hok
  have hL200 := KL.out hok
  clear KN KT KL CQ
  obtain ⟨L, hL⟩ : ∃ L, L = writL q := ⟨_, rfl⟩
  have hread0 := slash_read q hok how
  rw [← hL] at htw hL200 hread0
  obtain ⟨m, hm⟩ : ∃ m, m = (upL [63, 35] L).length := ⟨_, rfl⟩
  have hupt : L.take m = upL [63, 35] L := by rw [hm]; exact up_take _ _
  have hml : m ≤ L.length := by rw [hm]; exact upL_le _ _
  obtain ⟨Y, hY⟩ : ∃ Y, Y = (L.take m).map (fun x => if x = 47 then 92 else x) ++ L.drop m := ⟨_, rfl⟩
  have hread : getO Y = some q := by
    rw [hY, hupt, hm]
    exact hread0
  have hYl : Y.length = L.length := by rw [hY, List.length_append, List.length_map, List.length_take, List.length_drop]; omega
  have HLK : Hid (∀ k (hk : k < L.length), k < m → L[k] ≠ 63 ∧ L[k] ≠ 35) := fun k hk hks => by
    have h2 : L[k] ∈ upL [63, 35] L := by
      rw [← hupt]
      have h3 : k < (L.take m).length := by rw [List.length_take]; omega
      have h4 : (L.take m)[k] = L[k] := List.getElem_take
      rw [← h4]
      exact List.getElem_mem h3
    have h5 : among [63, 35] L[k] = false := by
      rcases up_cases [63, 35] L with ⟨_, h⟩ | ⟨a, c, r, e, e2, h3, h4⟩
      · exact h _ (List.getElem_mem hk)
      · rw [e2] at h2; exact h4 _ h2
    unfold among at h5
    simp at h5
    exact h5
  have HLE : Hid (∀ (hk : m < L.length), L[m] = 63 ∨ L[m] = 35) := fun hk => by
    rcases up_cases [63, 35] L with ⟨e, _⟩ | ⟨a, c, r, e, e2, h3, _⟩
    · rw [e] at hm; omega
    · rw [e2] at hm
      have h4 : L[m] = c := by
        have h6 : L[m]? = some c := by rw [e, hm, List.getElem?_append_right (Nat.le_refl _)]; simp
        rw [List.getElem?_eq_getElem hk] at h6
        exact Option.some.inj h6
      rw [h4]
      unfold among at h3
      simpa using h3
  have CC : Hid (∀ W, Lean1 W → Calls Tryz.prog 9 #[.string (mk Y)] W fun e w' => ∃ a c, e = .returned (.tuple #[.agg #[(.string q.sc), (.string q.us), (.string q.pw), (.int .i64 q.hk), (.string q.hn), (.int .i64 q.ha), (.int .i64 q.po), (.slice a n c), (.string q.op), (.bool q.hq), (.string q.qu), (.bool q.hf), (.string q.fr)], .bool true]) ∧ StrsOf a n q.ps w' ∧ Below W.heap.size W w') := fun W hW => getI3 (mk Y) q true n (by rw [mk_data]; unfold getP; rw [hread]; rfl) (by rw [mk_data]; unfold getB; rw [hread]; rfl) HN.out (by rw [mk_size]; omega) W hW
  have hts : t.size = L.length := by rw [htw, mk_size]
  have htl : t.data.toList = L := by rw [htw, mk_data]
  obtain ⟨c6, W6, hrun, hR, hB6⟩ := bytes_run t w4
  rw [htl] at hR
  have HLL : Hid (t.size = L.length) := hts
  have HYL : Hid (Y.length = L.length) := hYl
  have HYY : Hid (Y = (L.take m).map (fun x => if x = 47 then 92 else x) ++ L.drop m) := hY
  have HSL : Hid (m ≤ L.length ∧ L.length ≤ 200) := ⟨hml, hL200⟩
  clear hread hread0 hL hok how htw htl hts hYl hY hpl HN hL200 hm hupt hml
  go_wp2
  go_loopw [6] (fun i wr => ∃ k : Nat, k ≤ m ∧ i = .int .i64 k ∧ RowB w4.heap.size ((L.take k).map (fun x => if x = 47 then 92 else x) ++ L.drop k) wr ∧ Below w4.heap.size W6 wr) (fun i wr => m - (intOf i).toNat)
  case atStart => exact ⟨0, Nat.zero_le _, rfl, by simpa using hR, Below.refl _ _⟩
  case round =>
    clear hrun hR k0 k1 k2 k3 k4 k5 k6 k7 k8 k9 k10 k11 k12
    obtain ⟨k, hk, rfl, hI, hbw⟩ := hrel
    have hk200 : (k : Int) ≤ 200 := by have := HSL.out; omega
    by_cases hp : k < m
    · have hpl : k < L.length := by have := HSL.out; omega
      have hkt : (k : Int) < (t.size : Int) := by have := HLL.out; omega
      obtain ⟨hc, hf⟩ := hI.atMap hpl
      obtain ⟨hx1, hx2⟩ := HLK.out k hpl hp
      have e1 : ((L[k].toNat : Int) != 63) = true := by rw [bne_iff_ne]; intro e; exact hx1 (UInt8.toNat_inj.1 (by show _ = 63; omega))
      have e2 : ((L[k].toNat : Int) != 35) = true := by rw [bne_iff_ne]; intro e; exact hx2 (UInt8.toNat_inj.1 (by show _ = 35; omega))
      clear hx1 hx2
      by_cases h47 : L[k] = 47
      · have e3 : ((L[k].toNat : Int) == 47) = true := by rw [h47]; rfl
        have HP : Hid (RowB w4.heap.size ((L.take (k + 1)).map (fun x => if x = 47 then 92 else x) ++ L.drop (k + 1)) (wr.setCell ⟨w4.heap.size, k, none⟩ (.int .u8 92))) := hI.putMap hpl _ (by rw [h47]; rfl)
        clear hI h47
        go_wp2
        go_roundw
        case rel => exact ⟨k + 1, by omega, by go_num, HP.out, hbw.setCell (p := ⟨w4.heap.size, k, none⟩) (Nat.le_refl _) _⟩
        case measure => simp [intOf]; omega
      · have e3 : ((L[k].toNat : Int) == 47) = false := by rw [beq_eq_false_iff_ne]; intro e; exact h47 (UInt8.toNat_inj.1 (by show _ = 47; omega))
        have HP : Hid (RowB w4.heap.size ((L.take (k + 1)).map (fun x => if x = 47 then 92 else x) ++ L.drop (k + 1)) wr) := hI.same hpl (by rw [if_neg h47])
        clear hI h47
        go_wp2
        go_roundw
        case rel => exact ⟨k + 1, by omega, by go_num, HP.out, hbw⟩
        case measure => simp [intOf]; omega
    · have hkk : k = m := by omega
      have D6 : Hid (Below w4.heap.size w4 wr) := hB6.trans hbw
      have A6 : Hid (Wat w wr) := A4.out.step D6.out
      have U6 : Hid (Va g1 q a n c wr) := U4.out.later D6.out
      have HEND : (m = L.length ∧ ¬ ((m : Int) < (t.size : Int))) ∨ (∃ x : Int, (m : Int) < (t.size : Int) ∧ wr.cell? ⟨w4.heap.size, m, none⟩ = some (.int .u8 x) ∧ wr.frozen? ⟨w4.heap.size, m, none⟩ = false ∧ ((x = 63) ∨ (x = 35))) := by
        by_cases he : m = L.length
        · exact .inl ⟨he, by have := HLL.out; omega⟩
        · have hlt : m < L.length := by have := HSL.out; omega
          rw [hkk] at hI
          obtain ⟨hc, hf⟩ := hI.atMap hlt
          refine .inr ⟨(L[m].toNat : Int), by have := HLL.out; omega, hc, hf, ?_⟩
          rcases HLE.out hlt with h | h
          · left; rw [h]; rfl
          · right; rw [h]; rfl
      rw [hkk, ← HYY.out] at hI
      have htx := hI.text (cap := c6)
      rw [HYL.out, ← HLL.out] at htx
      clear hI HYY HYL HLL HSL HLK HLE hB6 hbw D6 A4 U4 hp hk
      subst hkk
      rcases HEND with ⟨_, hno⟩ | ⟨x, hlt, hc, hf, hx⟩
      · clear hk200
        go_wp2_with fail
        refine (CC.out _ A6.out.le).mono ?_
        rintro e w7 ⟨a2, c2, rfl, s7, b7⟩
        obtain ⟨V8, hV8⟩ : ∃ V, V = w7.alloc (.cells #[(.string q.sc), (.string q.us), (.string q.pw), (.int .i64 q.hk), (.string q.hn), (.int .i64 q.ha), (.int .i64 q.po), (.slice a2 n c2), (.string q.op), (.bool q.hq), (.string q.qu), (.bool q.hf), (.string q.fr)] 27) := ⟨_, rfl⟩
        have D8 : Hid (Below wr.heap.size wr V8) := by show Below _ _ _; rw [hV8]; exact b7.trans ((below_new _ _).mono b7.size)
        have U8 : Hid (Va w7.heap.size q a2 n c2 V8) := by show Va _ _ _ _ _ _; rw [hV8]; exact Va.new _ s7
        have A8 : Hid (Wat w V8) := A6.out.step D8.out
        have U18 : Hid (Va g1 q a n c V8) := U6.out.later D8.out
        clear s7 b7 D8 A6 U6
        go_upto_region 14 with fail
        rw [← hV8]
        clear hV8
        generalize w7.heap.size = g8 at *
        obtain ⟨k0, k1, k2, k3, k4, k5, k6, k7, k8, k9, k10, k11, k12⟩ := Blk.cells13a U18.out.bk
        obtain ⟨j0, j1, j2, j3, j4, j5, j6, j7, j8, j9, j10, j11, j12⟩ := Blk.cells13a U8.out.bk
        go_wp2_with fail
        refine (CG.out _ _ _ _ _ U8.out.st U18.out.st).mono ?_
        rintro e w9 ⟨rfl, d9⟩
        have A9 : Hid (Wat w w9) := A8.out.step d9
        clear d9 A8 U8 U18 CG k0 k1 k2 k3 k4 k5 k6 k7 k8 k9 k10 k11 k12 j0 j1 j2 j3 j4 j5 j6 j7 j8 j9 j10 j11 j12
        go_wp2
        go_ret
        exact ⟨rfl, A9.out.bw⟩
      · rcases hx with hx | hx
        · subst hx
          go_wp2_with fail
          refine (CC.out _ A6.out.le).mono ?_
          rintro e w7 ⟨a2, c2, rfl, s7, b7⟩
          obtain ⟨V8, hV8⟩ : ∃ V, V = w7.alloc (.cells #[(.string q.sc), (.string q.us), (.string q.pw), (.int .i64 q.hk), (.string q.hn), (.int .i64 q.ha), (.int .i64 q.po), (.slice a2 n c2), (.string q.op), (.bool q.hq), (.string q.qu), (.bool q.hf), (.string q.fr)] 27) := ⟨_, rfl⟩
          have D8 : Hid (Below wr.heap.size wr V8) := by show Below _ _ _; rw [hV8]; exact b7.trans ((below_new _ _).mono b7.size)
          have U8 : Hid (Va w7.heap.size q a2 n c2 V8) := by show Va _ _ _ _ _ _; rw [hV8]; exact Va.new _ s7
          have A8 : Hid (Wat w V8) := A6.out.step D8.out
          have U18 : Hid (Va g1 q a n c V8) := U6.out.later D8.out
          clear s7 b7 D8 A6 U6
          go_upto_region 14 with fail
          rw [← hV8]
          clear hV8
          generalize w7.heap.size = g8 at *
          obtain ⟨k0, k1, k2, k3, k4, k5, k6, k7, k8, k9, k10, k11, k12⟩ := Blk.cells13a U18.out.bk
          obtain ⟨j0, j1, j2, j3, j4, j5, j6, j7, j8, j9, j10, j11, j12⟩ := Blk.cells13a U8.out.bk
          go_wp2_with fail
          refine (CG.out _ _ _ _ _ U8.out.st U18.out.st).mono ?_
          rintro e w9 ⟨rfl, d9⟩
          have A9 : Hid (Wat w w9) := A8.out.step d9
          clear d9 A8 U8 U18 CG k0 k1 k2 k3 k4 k5 k6 k7 k8 k9 k10 k11 k12 j0 j1 j2 j3 j4 j5 j6 j7 j8 j9 j10 j11 j12
          go_wp2
          go_ret
          exact ⟨rfl, A9.out.bw⟩
        · subst hx
          go_wp2_with fail
          refine (CC.out _ A6.out.le).mono ?_
          rintro e w7 ⟨a2, c2, rfl, s7, b7⟩
          obtain ⟨V8, hV8⟩ : ∃ V, V = w7.alloc (.cells #[(.string q.sc), (.string q.us), (.string q.pw), (.int .i64 q.hk), (.string q.hn), (.int .i64 q.ha), (.int .i64 q.po), (.slice a2 n c2), (.string q.op), (.bool q.hq), (.string q.qu), (.bool q.hf), (.string q.fr)] 27) := ⟨_, rfl⟩
          have D8 : Hid (Below wr.heap.size wr V8) := by show Below _ _ _; rw [hV8]; exact b7.trans ((below_new _ _).mono b7.size)
          have U8 : Hid (Va w7.heap.size q a2 n c2 V8) := by show Va _ _ _ _ _ _; rw [hV8]; exact Va.new _ s7
          have A8 : Hid (Wat w V8) := A6.out.step D8.out
          have U18 : Hid (Va g1 q a n c V8) := U6.out.later D8.out
          clear s7 b7 D8 A6 U6
          go_upto_region 14 with fail
          rw [← hV8]
          clear hV8
          generalize w7.heap.size = g8 at *
          obtain ⟨k0, k1, k2, k3, k4, k5, k6, k7, k8, k9, k10, k11, k12⟩ := Blk.cells13a U18.out.bk
          obtain ⟨j0, j1, j2, j3, j4, j5, j6, j7, j8, j9, j10, j11, j12⟩ := Blk.cells13a U8.out.bk
          go_wp2_with fail
          refine (CG.out _ _ _ _ _ U8.out.st U18.out.st).mono ?_
          rintro e w9 ⟨rfl, d9⟩
          have A9 : Hid (Wat w w9) := A8.out.step d9
          clear d9 A8 U8 U18 CG k0 k1 k2 k3 k4 k5 k6 k7 k8 k9 k10 k11 k12 j0 j1 j2 j3 j4 j5 j6 j7 j8 j9 j10 j11 j12
          go_wp2
          go_ret
          exact ⟨rfl, A9.out.bw⟩
end Go.Proofs.YticbekooadnnlabGreatDoor
end

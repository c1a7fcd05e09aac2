/- The law FnUrlText answers true, whatever the codes. -/
import Derived.Test.YticbekooadnnlaaGreatDoorCFnUrlText02
import Derived.Test.YticbekooadnnlaaGreatDoorCFnUrlText03
import Derived.Test.YticbekooadnnlaaGreatDoorCFnUrlText04
import Derived.Test.YticbekooadnnlaaGreatDoorCFnUrlText08
import Derived.Deep.Cut
import Derived.Deep.RegionHeld3
import Derived.Deep.RegionWith
section
set_option linter.unusedVariables false
set_option linter.unusedSimpArgs false
namespace Go.Proofs.YticbekooadnnlaaGreatDoor
open Go.RowKit Go.Shelf

theorem code_below {B : Nat} {w w' : World} {a : Option Addr} {len cap : Nat} (h : Code B w a len cap) (hb : Below B w w') : Code B w' a len cap := by
  obtain ⟨h1, h2, h3⟩ := h
  refine ⟨h1, h2, ?_⟩
  rcases h3 with h | ⟨b, off, ha, hbB, z, hc⟩
  · exact .inl h
  · exact .inr ⟨b, off, ha, hbB, z, fun i hi => ⟨(hb.cell (p := ⟨b, off + i, none⟩) hbB).trans (hc i hi).1, (hc i hi).2⟩⟩

set_option maxHeartbeats 8000000 in
set_option maxRecDepth 100000 in
theorem fnUrlText_walk (w : World) (hL : Lean1 w) (a0 : Option Addr) (len0 cap0 : Nat) (z0 : List Int) (h0 : IsRow .u8 w a0 len0 cap0 z0) (a1 : Option Addr) (len1 cap1 : Nat) (z1 : List Int) (h1 : IsRow .u8 w a1 len1 cap1 z1) :
    Calls Tryz.prog 3 #[.slice a0 len0 cap0, .slice a1 len1 cap1] w fun e w' => e = .returned (.bool true) ∧ Below w.heap.size w w' := by
  have hC := code_of_row h0
  have hC1 := code_of_row h1
  by_cases hbig : (1048576 : Int) < (len0 : Int)
  · go_enter Tryz.func3, Tryz.ntmps3
    go_wp2
    go_ret
    exact ⟨rfl, Below.refl _ _⟩
  have hbig2 : (len0 : Int) ≤ 1048576 := by omega
  by_cases hbig3 : (1048576 : Int) < (len1 : Int)
  · go_enter Tryz.func3, Tryz.ntmps3
    go_wp2
    go_ret
    exact ⟨rfl, Below.refl _ _⟩
  have hbig4 : (len1 : Int) ≤ 1048576 := by omega
  have HC1 : Hid (Code w.heap.size w a1 len1 cap1) := hC1
  have A0 : Hid (Wat w w) := Wat.start hL
  clear hbig hbig3 hL h0 h1 hC1
  go_enter Tryz.func3, Tryz.ntmps3
  go_wp2_with fail
  refine (drawUrlPut w.heap.size a0 len0 cap0 _ (Nat.le_refl _) hC).mono ?_
  rintro e w1 ⟨q, a, n, c, rfl, s1, hF, b1⟩
  obtain ⟨V1, hV1⟩ : ∃ V, V = w1.alloc (.cells #[(.string q.sc), (.string q.us), (.string q.pw), (.int .i64 q.hk), (.string q.hn), (.int .i64 q.ha), (.int .i64 q.po), (.slice a n c), (.string q.op), (.bool q.hq), (.string q.qu), (.bool q.hf), (.string q.fr)] 27) := ⟨_, rfl⟩
  have U1 : Hid (Va w1.heap.size q a n c V1) := by show Va _ _ _ _ _ _; rw [hV1]; exact Va.new _ s1
  have A1 : Hid (Wat w V1) := A0.out.step (by rw [hV1]; exact b1.trans ((below_new _ _).mono b1.size))
  clear s1 b1 A0 hC
  obtain ⟨b, hb⟩ : ∃ b : Bool, b = true ↔ okP q := by
    by_cases h : okP q
    · exact ⟨true, by simp [h]⟩
    · exact ⟨false, by simp [h]⟩
  obtain ⟨t, ht⟩ : ∃ t : ByteArray, t = if b = true then mk (writL q) else ⟨#[]⟩ := ⟨_, rfl⟩
  have hto : q.tot ≤ 1048576 := by have := hF.out.1.tot; omega
  have hpo : q.po ≤ 9223372036854775807 := by have := hF.out.1.po; omega
  have CP : Hid (∀ W, Lean1 W → StrsOf a n q.ps W → Calls Tryz.prog 10 #[.agg #[(.string q.sc), (.string q.us), (.string q.pw), (.int .i64 q.hk), (.string q.hn), (.int .i64 q.ha), (.int .i64 q.po), (.slice a n c), (.string q.op), (.bool q.hq), (.string q.qu), (.bool q.hf), (.string q.fr)]] W fun e w' => e = .returned (.string t) ∧ Below W.heap.size W w') := fun W hW s => by rw [ht]; exact implUrlPut q a n c W hW s hto hpo b hb
  have CQ : Hid (∀ W, StrsOf a n q.ps W → Calls Tryz.prog 12 #[.agg #[(.string q.sc), (.string q.us), (.string q.pw), (.int .i64 q.hk), (.string q.hn), (.int .i64 q.ha), (.int .i64 q.po), (.slice a n c), (.string q.op), (.bool q.hq), (.string q.qu), (.bool q.hf), (.string q.fr)]] W fun e w' => e = .returned (.string t) ∧ Below W.heap.size W w') := fun W s => by rw [ht]; exact specUrlPut q a n c W s hto hpo b hb
  obtain ⟨z, hz⟩ : ∃ z : P, z = getP t.data.toList := ⟨_, rfl⟩
  obtain ⟨m, hm⟩ : ∃ m, m = z.ps.length := ⟨_, rfl⟩
  have htsz : t.size ≤ 200 := by
    rw [ht]
    split
    · rename_i h; rw [mk_size]; exact ((ok_iff q).1 (hb.1 h)).2.1
    · decide
  have hgb : getB t.data.toList = b := by
    cases hbb : b with
    | true => rw [ht, if_pos hbb, mk_data]; unfold getB; rw [(ok_getO q).1 (hb.1 hbb)]; rfl
    | false => rw [ht, hbb]; rfl
  have KZ : Hid (b = true → z = q) := fun h => by rw [hz, ht, if_pos h, mk_data]; unfold getP; rw [(ok_getO q).1 (hb.1 h)]; rfl
  have HN : Hid (n = q.ps.length) := hF.out.2
  have KN : Hid (b = true → m = n) := fun h => by rw [hm, KZ.out h]; exact HN.out.symm
  have KT : Hid ((b = true → (t.toList == []) = false ∧ t.toList.isEmpty = false) ∧ (b = false → t = ⟨#[]⟩)) := ⟨fun h => by
    have h5 : t.size ≠ 0 := by rw [ht, if_pos h, mk_size]; unfold writL; simp
    exact ⟨(full_text t h5).1, (full_text t h5).2.1⟩, fun h => by rw [ht, h]; rfl⟩
  have hpl : q.ps.length ≤ 1100000 := by have : q.ps.length ≤ q.tot := (by unfold P.tot; omega); omega
  have CX : Hid (∀ W, Lean1 W → Calls Tryz.prog 11 #[.string t] W fun e w' => ∃ a2 c2, e = .returned (.tuple #[.agg #[(.string z.sc), (.string z.us), (.string z.pw), (.int .i64 z.hk), (.string z.hn), (.int .i64 z.ha), (.int .i64 z.po), (.slice a2 m c2), (.string z.op), (.bool z.hq), (.string z.qu), (.bool z.hf), (.string z.fr)], .bool b]) ∧ StrsOf a2 m z.ps w' ∧ Below W.heap.size W w') := fun W hW => getI3 t z b m hz hgb.symm hm (by omega) W hW
  have CO : Hid (∀ W, Lean1 W → StrsOf a n q.ps W → Calls Tryz.prog 13 #[.agg #[(.string q.sc), (.string q.us), (.string q.pw), (.int .i64 q.hk), (.string q.hn), (.int .i64 q.ha), (.int .i64 q.po), (.slice a n c), (.string q.op), (.bool q.hq), (.string q.qu), (.bool q.hf), (.string q.fr)]] W fun e w' => e = .returned (.bool b) ∧ Below W.heap.size W w') := fun W hW s => implUrlOk q a n c W hW s hto hpo b hb
  have CR : Hid (∀ W, StrsOf a n q.ps W → Calls Tryz.prog 14 #[.agg #[(.string q.sc), (.string q.us), (.string q.pw), (.int .i64 q.hk), (.string q.hn), (.int .i64 q.ha), (.int .i64 q.po), (.slice a n c), (.string q.op), (.bool q.hq), (.string q.qu), (.bool q.hf), (.string q.fr)]] W fun e w' => e = .returned (.bool b) ∧ Below W.heap.size W w') := fun W s => specUrlOk q a n c W s hto hpo b hb
  have CG : Hid (∀ a2 c2 W, StrsOf a2 n q.ps W → StrsOf a n q.ps W → Calls Tryz.prog 15 #[.agg #[(.string q.sc), (.string q.us), (.string q.pw), (.int .i64 q.hk), (.string q.hn), (.int .i64 q.ha), (.int .i64 q.po), (.slice a2 n c2), (.string q.op), (.bool q.hq), (.string q.qu), (.bool q.hf), (.string q.fr)], .agg #[(.string q.sc), (.string q.us), (.string q.pw), (.int .i64 q.hk), (.string q.hn), (.int .i64 q.ha), (.int .i64 q.po), (.slice a n c), (.string q.op), (.bool q.hq), (.string q.qu), (.bool q.hf), (.string q.fr)]] W fun e w' => e = .returned (.bool true) ∧ Below W.heap.size W w') := fun a2 c2 W h h' => guU3 q a2 a n c2 n c hpl W h h'
  clear hb ht hto hpo hz hm htsz hgb hpl HN
  go_upto_region 4 with fail
  rw [← hV1]
  clear hV1
  generalize w1.heap.size = g1 at *
  obtain ⟨k0, k1, k2, k3, k4, k5, k6, k7, k8, k9, k10, k11, k12⟩ := Blk.cells13a U1.out.bk
  go_wp2_with fail
  refine (CP.out _ A1.out.le U1.out.st).mono ?_
  rintro e w2 ⟨rfl, d2⟩
  have A2 : Hid (Wat w w2) := A1.out.step d2
  have U2 : Hid (Va g1 q a n c w2) := U1.out.later d2
  clear d2 A1 U1 k0 k1 k2 k3 k4 k5 k6 k7 k8 k9 k10 k11 k12
  obtain ⟨k0, k1, k2, k3, k4, k5, k6, k7, k8, k9, k10, k11, k12⟩ := Blk.cells13a U2.out.bk
  clear CP
  go_wp2_with fail
  refine (CX.out _ A2.out.le).mono ?_
  rintro e w3 ⟨a2, c2, rfl, s3, b3⟩
  obtain ⟨V4, hV4⟩ : ∃ V, V = w3.alloc (.cells #[(.string z.sc), (.string z.us), (.string z.pw), (.int .i64 z.hk), (.string z.hn), (.int .i64 z.ha), (.int .i64 z.po), (.slice a2 m c2), (.string z.op), (.bool z.hq), (.string z.qu), (.bool z.hf), (.string z.fr)] 27) := ⟨_, rfl⟩
  have D4 : Hid (Below w2.heap.size w2 V4) := by show Below _ _ _; rw [hV4]; exact b3.trans ((below_new _ _).mono b3.size)
  have X4 : Hid (Va w3.heap.size z a2 m c2 V4) := by show Va _ _ _ _ _ _; rw [hV4]; exact Va.new _ s3
  have A4 : Hid (Wat w V4) := A2.out.step D4.out
  have U4 : Hid (Va g1 q a n c V4) := U2.out.later D4.out
  clear s3 b3 D4 A2 U2 CX k0 k1 k2 k3 k4 k5 k6 k7 k8 k9 k10 k11 k12
  go_upto_region 6 with fail
  rw [← hV4]
  clear hV4
  generalize w3.heap.size = g2 at *
  go_cut [58] from 59 (fun s wx => s = .bool false ∧ Hid (Below V4.heap.size V4 wx))
  case first =>
    have FQ : Hid (∀ W, Below V4.heap.size V4 W → Calls Tryz.prog 12 #[.agg #[(.string q.sc), (.string q.us), (.string q.pw), (.int .i64 q.hk), (.string q.hn), (.int .i64 q.ha), (.int .i64 q.po), (.slice a n c), (.string q.op), (.bool q.hq), (.string q.qu), (.bool q.hf), (.string q.fr)]] W fun e w' => e = .returned (.string t) ∧ Below W.heap.size W w') := fun W d => CQ.out W (U4.out.later d).st
    have FO : Hid (∀ W, Below V4.heap.size V4 W → Calls Tryz.prog 13 #[.agg #[(.string q.sc), (.string q.us), (.string q.pw), (.int .i64 q.hk), (.string q.hn), (.int .i64 q.ha), (.int .i64 q.po), (.slice a n c), (.string q.op), (.bool q.hq), (.string q.qu), (.bool q.hf), (.string q.fr)]] W fun e w' => e = .returned (.bool b) ∧ Below W.heap.size W w') := fun W d => CO.out W (A4.out.step d).le (U4.out.later d).st
    have FR : Hid (∀ W, Below V4.heap.size V4 W → Calls Tryz.prog 14 #[.agg #[(.string q.sc), (.string q.us), (.string q.pw), (.int .i64 q.hk), (.string q.hn), (.int .i64 q.ha), (.int .i64 q.po), (.slice a n c), (.string q.op), (.bool q.hq), (.string q.qu), (.bool q.hf), (.string q.fr)]] W fun e w' => e = .returned (.bool b) ∧ Below W.heap.size W w') := fun W d => CR.out W (U4.out.later d).st
    have HK : Hid (∀ W, Below V4.heap.size V4 W → Blk g1 #[(.string q.sc), (.string q.us), (.string q.pw), (.int .i64 q.hk), (.string q.hn), (.int .i64 q.ha), (.int .i64 q.po), (.slice a n c), (.string q.op), (.bool q.hq), (.string q.qu), (.bool q.hf), (.string q.fr)] 27 W) := fun W d => (U4.out.later d).bk
    rcases Bool.eq_false_or_eq_true b with hbb | hbb
    · subst hbb
      have hzq := KZ.out rfl
      have hmn := KN.out rfl
      obtain ⟨f1, f2⟩ := KT.out.1 rfl
      subst hzq hmn
      have FG : Hid (∀ W, Below V4.heap.size V4 W → Calls Tryz.prog 15 #[.agg #[(.string z.sc), (.string z.us), (.string z.pw), (.int .i64 z.hk), (.string z.hn), (.int .i64 z.ha), (.int .i64 z.po), (.slice a2 m c2), (.string z.op), (.bool z.hq), (.string z.qu), (.bool z.hf), (.string z.fr)], .agg #[(.string z.sc), (.string z.us), (.string z.pw), (.int .i64 z.hk), (.string z.hn), (.int .i64 z.ha), (.int .i64 z.po), (.slice a m c), (.string z.op), (.bool z.hq), (.string z.qu), (.bool z.hf), (.string z.fr)]] W fun e w' => e = .returned (.bool true) ∧ Below W.heap.size W w') := fun W d => CG.out a2 c2 W (X4.out.later d).st (U4.out.later d).st
      have HS : Hid (∀ W, Below V4.heap.size V4 W → (fun W => Below V4.heap.size V4 W ∧ W.cell? ⟨g1, 0, none⟩ = some (.string z.sc) ∧ W.cell? ⟨g1, 1, none⟩ = some (.string z.us) ∧ W.cell? ⟨g1, 2, none⟩ = some (.string z.pw) ∧ W.cell? ⟨g1, 3, none⟩ = some (.int .i64 z.hk) ∧ W.cell? ⟨g1, 4, none⟩ = some (.string z.hn) ∧ W.cell? ⟨g1, 5, none⟩ = some (.int .i64 z.ha) ∧ W.cell? ⟨g1, 6, none⟩ = some (.int .i64 z.po) ∧ W.cell? ⟨g1, 7, none⟩ = some (.slice a m c) ∧ W.cell? ⟨g1, 8, none⟩ = some (.string z.op) ∧ W.cell? ⟨g1, 9, none⟩ = some (.bool z.hq) ∧ W.cell? ⟨g1, 10, none⟩ = some (.string z.qu) ∧ W.cell? ⟨g1, 11, none⟩ = some (.bool z.hf) ∧ W.cell? ⟨g1, 12, none⟩ = some (.string z.fr) ∧ W.cell? ⟨g2, 0, none⟩ = some (.string z.sc) ∧ W.cell? ⟨g2, 1, none⟩ = some (.string z.us) ∧ W.cell? ⟨g2, 2, none⟩ = some (.string z.pw) ∧ W.cell? ⟨g2, 3, none⟩ = some (.int .i64 z.hk) ∧ W.cell? ⟨g2, 4, none⟩ = some (.string z.hn) ∧ W.cell? ⟨g2, 5, none⟩ = some (.int .i64 z.ha) ∧ W.cell? ⟨g2, 6, none⟩ = some (.int .i64 z.po) ∧ W.cell? ⟨g2, 7, none⟩ = some (.slice a2 m c2) ∧ W.cell? ⟨g2, 8, none⟩ = some (.string z.op) ∧ W.cell? ⟨g2, 9, none⟩ = some (.bool z.hq) ∧ W.cell? ⟨g2, 10, none⟩ = some (.string z.qu) ∧ W.cell? ⟨g2, 11, none⟩ = some (.bool z.hf) ∧ W.cell? ⟨g2, 12, none⟩ = some (.string z.fr)) W) := fun W d => by
        obtain ⟨k0, k1, k2, k3, k4, k5, k6, k7, k8, k9, k10, k11, k12⟩ := Blk.cells13a (U4.out.later d).bk
        obtain ⟨x0, x1, x2, x3, x4, x5, x6, x7, x8, x9, x10, x11, x12⟩ := Blk.cells13a (X4.out.later d).bk
        exact ⟨d, k0, k1, k2, k3, k4, k5, k6, k7, k8, k9, k10, k11, k12, x0, x1, x2, x3, x4, x5, x6, x7, x8, x9, x10, x11, x12⟩
      clear KZ KN KT CQ CO CR CG HK A4 U4 X4 HC1
      go_region_held3 (fun W => Below V4.heap.size V4 W ∧ W.cell? ⟨g1, 0, none⟩ = some (.string z.sc) ∧ W.cell? ⟨g1, 1, none⟩ = some (.string z.us) ∧ W.cell? ⟨g1, 2, none⟩ = some (.string z.pw) ∧ W.cell? ⟨g1, 3, none⟩ = some (.int .i64 z.hk) ∧ W.cell? ⟨g1, 4, none⟩ = some (.string z.hn) ∧ W.cell? ⟨g1, 5, none⟩ = some (.int .i64 z.ha) ∧ W.cell? ⟨g1, 6, none⟩ = some (.int .i64 z.po) ∧ W.cell? ⟨g1, 7, none⟩ = some (.slice a m c) ∧ W.cell? ⟨g1, 8, none⟩ = some (.string z.op) ∧ W.cell? ⟨g1, 9, none⟩ = some (.bool z.hq) ∧ W.cell? ⟨g1, 10, none⟩ = some (.string z.qu) ∧ W.cell? ⟨g1, 11, none⟩ = some (.bool z.hf) ∧ W.cell? ⟨g1, 12, none⟩ = some (.string z.fr) ∧ W.cell? ⟨g2, 0, none⟩ = some (.string z.sc) ∧ W.cell? ⟨g2, 1, none⟩ = some (.string z.us) ∧ W.cell? ⟨g2, 2, none⟩ = some (.string z.pw) ∧ W.cell? ⟨g2, 3, none⟩ = some (.int .i64 z.hk) ∧ W.cell? ⟨g2, 4, none⟩ = some (.string z.hn) ∧ W.cell? ⟨g2, 5, none⟩ = some (.int .i64 z.ha) ∧ W.cell? ⟨g2, 6, none⟩ = some (.int .i64 z.po) ∧ W.cell? ⟨g2, 7, none⟩ = some (.slice a2 m c2) ∧ W.cell? ⟨g2, 8, none⟩ = some (.string z.op) ∧ W.cell? ⟨g2, 9, none⟩ = some (.bool z.hq) ∧ W.cell? ⟨g2, 10, none⟩ = some (.string z.qu) ∧ W.cell? ⟨g2, 11, none⟩ = some (.bool z.hf) ∧ W.cell? ⟨g2, 12, none⟩ = some (.string z.fr)) (first | exact HS.out _ HD8.out | exact HS.out _ HD7.out | exact HS.out _ HD6.out | exact HS.out _ HD5.out | exact HS.out _ ((Below.refl _ _).drew) | exact HS.out _ (Below.refl _ _) | assumption) (first | (go_at_call 12; refine (FQ.out _ ?hd).mono ?_; (case hd => first | exact Below.refl _ _ | exact (Below.refl _ _).drew); rintro e w5 ⟨rfl, d5⟩; have HD5 : Hid (Below V4.heap.size V4 w5) := (by first | exact d5 | exact ((Below.refl _ V4).drew).trans d5); clear d5) | (go_at_call 13; refine (FO.out _ ?hd).mono ?_; (case hd => exact HD5.out); rintro e w6 ⟨rfl, d6⟩; have HD6 : Hid (Below V4.heap.size V4 w6) := (by exact HD5.out.trans (d6.mono HD5.out.size)); clear d6) | (go_at_call 14; refine (FR.out _ ?hd).mono ?_; (case hd => exact HD6.out); rintro e w7 ⟨rfl, d7⟩; have HD7 : Hid (Below V4.heap.size V4 w7) := (by exact HD6.out.trans (d7.mono HD6.out.size)); clear d7) | (go_at_call 15; refine (FG.out _ ?hd).mono ?_; (case hd => exact HD7.out); rintro e w8 ⟨rfl, d8⟩; have HD8 : Hid (Below V4.heap.size V4 w8) := (by exact HD7.out.trans (d8.mono HD7.out.size)); clear d8) | fail)
      all_goals
        go_wp2_with fail
        go_meet
        exact ⟨rfl, HD8⟩
    · subst hbb
      have ht := KT.out.2 rfl
      subst ht
      clear KZ KN KT CQ CO CR CG
      have HS : Hid (∀ W, Below V4.heap.size V4 W → (fun W => Below V4.heap.size V4 W ∧ W.cell? ⟨g1, 0, none⟩ = some (.string q.sc) ∧ W.cell? ⟨g1, 1, none⟩ = some (.string q.us) ∧ W.cell? ⟨g1, 2, none⟩ = some (.string q.pw) ∧ W.cell? ⟨g1, 3, none⟩ = some (.int .i64 q.hk) ∧ W.cell? ⟨g1, 4, none⟩ = some (.string q.hn) ∧ W.cell? ⟨g1, 5, none⟩ = some (.int .i64 q.ha) ∧ W.cell? ⟨g1, 6, none⟩ = some (.int .i64 q.po) ∧ W.cell? ⟨g1, 7, none⟩ = some (.slice a n c) ∧ W.cell? ⟨g1, 8, none⟩ = some (.string q.op) ∧ W.cell? ⟨g1, 9, none⟩ = some (.bool q.hq) ∧ W.cell? ⟨g1, 10, none⟩ = some (.string q.qu) ∧ W.cell? ⟨g1, 11, none⟩ = some (.bool q.hf) ∧ W.cell? ⟨g1, 12, none⟩ = some (.string q.fr)) W) := fun W d => by
        obtain ⟨k0, k1, k2, k3, k4, k5, k6, k7, k8, k9, k10, k11, k12⟩ := Blk.cells13a (HK.out _ d)
        exact ⟨d, k0, k1, k2, k3, k4, k5, k6, k7, k8, k9, k10, k11, k12⟩
      clear A4 U4 X4 HC1 HK
      refine wp_region_held_drew (S := (fun W => Below V4.heap.size V4 W ∧ W.cell? ⟨g1, 0, none⟩ = some (.string q.sc) ∧ W.cell? ⟨g1, 1, none⟩ = some (.string q.us) ∧ W.cell? ⟨g1, 2, none⟩ = some (.string q.pw) ∧ W.cell? ⟨g1, 3, none⟩ = some (.int .i64 q.hk) ∧ W.cell? ⟨g1, 4, none⟩ = some (.string q.hn) ∧ W.cell? ⟨g1, 5, none⟩ = some (.int .i64 q.ha) ∧ W.cell? ⟨g1, 6, none⟩ = some (.int .i64 q.po) ∧ W.cell? ⟨g1, 7, none⟩ = some (.slice a n c) ∧ W.cell? ⟨g1, 8, none⟩ = some (.string q.op) ∧ W.cell? ⟨g1, 9, none⟩ = some (.bool q.hq) ∧ W.cell? ⟨g1, 10, none⟩ = some (.string q.qu) ∧ W.cell? ⟨g1, 11, none⟩ = some (.bool q.hf) ∧ W.cell? ⟨g1, 12, none⟩ = some (.string q.fr))) (by kernel_rfl) (HS.out _ ((Below.refl _ _).drew)) (fun hHeld => ?_)
      refine wpAnyH_take (i := 0) (oi := _) (v := _) rfl (by kernel_rfl) (by kernel_rfl) (by kernel_rfl) (fun _ _ _ h => h) (Or.inl ⟨by rfl, by (intro w hSw; (try dsimp only at hSw); go_simp; try (with_reducible rfl))⟩) (by assumption) ?_
      simp only [Act.put, List.getElem_toArray, List.getElem_cons_zero, List.getElem_cons_succ, List.setIfInBounds_toArray, List.set_cons_zero, List.set_cons_succ]
      refine wpAnyH_take (i := 1) (oi := _) (v := _) rfl (by kernel_rfl) (by kernel_rfl) (by kernel_rfl) (fun _ _ _ h => h) (Or.inl ⟨by rfl, by (intro w hSw; (try dsimp only at hSw); go_simp; try (with_reducible rfl))⟩) (by assumption) ?_
      simp only [Act.put, List.getElem_toArray, List.getElem_cons_zero, List.getElem_cons_succ, List.setIfInBounds_toArray, List.set_cons_zero, List.set_cons_succ]
      refine wpAnyH_ready (rs := [2]) (by kernel_rfl) (by simp) ?_
      refine AllReadyH.cons (o := _) rfl (fun K hK => ?_) AllReadyH.nil
      go_simp
      refine (FQ.out _ hHeld.1).mono ?_
      rintro e w5 ⟨rfl, d5⟩
      refine hK.out _ _ (HS.out _ (hHeld.1.trans (d5.mono hHeld.1.size))) (fun hHeld => ?_)
      clear hK K
      try simp only [Act.put, List.getElem_toArray, List.getElem_cons_zero, List.getElem_cons_succ, List.setIfInBounds_toArray, List.set_cons_zero, List.set_cons_succ]
      refine wpAnyH_take (i := 3) (oi := _) (v := _) rfl (by kernel_rfl) (by kernel_rfl) (by kernel_rfl) (fun _ _ _ h => h) (Or.inl ⟨by rfl, by (intro w hSw; (try dsimp only at hSw); go_simp; try (with_reducible rfl))⟩) (by assumption) ?_
      simp only [Act.put, List.getElem_toArray, List.getElem_cons_zero, List.getElem_cons_succ, List.setIfInBounds_toArray, List.set_cons_zero, List.set_cons_succ]
      refine wpAnyH_take (i := 4) (oi := _) (v := _) rfl (by kernel_rfl) (by kernel_rfl) (by kernel_rfl) (fun _ _ _ h => h) (Or.inl ⟨by rfl, by (intro w hSw; (try dsimp only at hSw); go_simp; try (with_reducible rfl))⟩) (by assumption) ?_
      simp only [Act.put, List.getElem_toArray, List.getElem_cons_zero, List.getElem_cons_succ, List.setIfInBounds_toArray, List.set_cons_zero, List.set_cons_succ]
      refine wpAnyH_take (i := 5) (oi := _) (v := _) rfl (by kernel_rfl) (by kernel_rfl) (by kernel_rfl) (fun _ _ _ h => h) (Or.inl ⟨by rfl, by (intro w hSw; (try dsimp only at hSw); go_simp; try (with_reducible rfl))⟩) (by assumption) ?_
      simp only [Act.put, List.getElem_toArray, List.getElem_cons_zero, List.getElem_cons_succ, List.setIfInBounds_toArray, List.set_cons_zero, List.set_cons_succ]
      refine wpAnyH_take (i := 7) (oi := _) (v := _) rfl (by kernel_rfl) (by kernel_rfl) (by kernel_rfl) (fun _ _ _ h => h) (Or.inl ⟨by rfl, by (intro w hSw; (try dsimp only at hSw); go_simp; try (with_reducible rfl))⟩) (by assumption) ?_
      simp only [Act.put, List.getElem_toArray, List.getElem_cons_zero, List.getElem_cons_succ, List.setIfInBounds_toArray, List.set_cons_zero, List.set_cons_succ]
      refine wpAnyH_ready (rs := [6]) (by kernel_rfl) (by simp) ?_
      refine AllReadyH.cons (o := _) rfl (fun K hK => ?_) AllReadyH.nil
      go_simp
      refine (FO.out _ hHeld.1).mono ?_
      rintro e w6 ⟨rfl, d6⟩
      refine hK.out _ _ (HS.out _ (hHeld.1.trans (d6.mono hHeld.1.size))) (fun hHeld => ?_)
      clear hK K
      try simp only [Act.put, List.getElem_toArray, List.getElem_cons_zero, List.getElem_cons_succ, List.setIfInBounds_toArray, List.set_cons_zero, List.set_cons_succ]
      refine wpAnyH_ready (rs := [8]) (by kernel_rfl) (by simp) ?_
      refine AllReadyH.cons (o := _) rfl (fun K hK => ?_) AllReadyH.nil
      go_simp
      refine (FR.out _ hHeld.1).mono ?_
      rintro e w7 ⟨rfl, d7⟩
      refine hK.out _ _ (HS.out _ (hHeld.1.trans (d7.mono hHeld.1.size))) (fun hHeld => ?_)
      clear hK K
      try simp only [Act.put, List.getElem_toArray, List.getElem_cons_zero, List.getElem_cons_succ, List.setIfInBounds_toArray, List.set_cons_zero, List.set_cons_succ]
      refine wpAnyH_take (i := 9) (oi := _) (v := _) rfl (by kernel_rfl) (by kernel_rfl) (by kernel_rfl) (fun _ _ _ h => h) (Or.inl ⟨by rfl, by (intro w hSw; (try dsimp only at hSw); go_simp; try (with_reducible rfl))⟩) (by assumption) ?_
      simp only [Act.put, List.getElem_toArray, List.getElem_cons_zero, List.getElem_cons_succ, List.setIfInBounds_toArray, List.set_cons_zero, List.set_cons_succ]
      refine wpAnyH_take (i := 10) (oi := _) (v := _) rfl (by kernel_rfl) (by kernel_rfl) (by kernel_rfl) (fun _ _ _ h => h) (Or.inl ⟨by rfl, by (intro w hSw; (try dsimp only at hSw); go_simp; try (with_reducible rfl))⟩) (by assumption) ?_
      simp only [Act.put, List.getElem_toArray, List.getElem_cons_zero, List.getElem_cons_succ, List.setIfInBounds_toArray, List.set_cons_zero, List.set_cons_succ]
      refine wpAnyH_take (i := 11) (oi := _) (v := _) rfl (by kernel_rfl) (by kernel_rfl) (by kernel_rfl) (fun _ _ _ h => h) (Or.inl ⟨by rfl, by (intro w hSw; (try dsimp only at hSw); go_simp; try (with_reducible rfl))⟩) (by assumption) ?_
      simp only [Act.put, List.getElem_toArray, List.getElem_cons_zero, List.getElem_cons_succ, List.setIfInBounds_toArray, List.set_cons_zero, List.set_cons_succ]
      refine wpAnyH_take (i := 12) (oi := _) (v := _) rfl (by kernel_rfl) (by kernel_rfl) (by kernel_rfl) (fun _ _ _ h => h) (Or.inl ⟨by rfl, by (intro w hSw; (try dsimp only at hSw); go_simp; try (with_reducible rfl))⟩) (by assumption) ?_
      simp only [Act.put, List.getElem_toArray, List.getElem_cons_zero, List.getElem_cons_succ, List.setIfInBounds_toArray, List.set_cons_zero, List.set_cons_succ]
      refine wpAnyH_take (i := 13) (oi := _) (v := _) rfl (by kernel_rfl) (by kernel_rfl) (by kernel_rfl) (fun _ _ _ h => h) (Or.inl ⟨by rfl, by (intro w hSw; (try dsimp only at hSw); go_simp; try (with_reducible rfl))⟩) (by assumption) ?_
      simp only [Act.put, List.getElem_toArray, List.getElem_cons_zero, List.getElem_cons_succ, List.setIfInBounds_toArray, List.set_cons_zero, List.set_cons_succ]
      refine wpAnyH_take (i := 14) (oi := _) (v := _) rfl (by kernel_rfl) (by kernel_rfl) (by kernel_rfl) (fun _ _ _ h => h) (Or.inl ⟨by rfl, by (intro w hSw; (try dsimp only at hSw); go_simp; try (with_reducible rfl))⟩) (by assumption) ?_
      simp only [Act.put, List.getElem_toArray, List.getElem_cons_zero, List.getElem_cons_succ, List.setIfInBounds_toArray, List.set_cons_zero, List.set_cons_succ]
      refine wpAnyH_take (i := 15) (oi := _) (v := _) rfl (by kernel_rfl) (by kernel_rfl) (by kernel_rfl) (fun _ _ _ h => h) (Or.inl ⟨by rfl, by (intro w hSw; (try dsimp only at hSw); go_simp; try (with_reducible rfl))⟩) (by assumption) ?_
      simp only [Act.put, List.getElem_toArray, List.getElem_cons_zero, List.getElem_cons_succ, List.setIfInBounds_toArray, List.set_cons_zero, List.set_cons_succ]
      refine wpAnyH_take (i := 16) (oi := _) (v := _) rfl (by kernel_rfl) (by kernel_rfl) (by kernel_rfl) (fun _ _ _ h => h) (Or.inl ⟨by rfl, by (intro w hSw; (try dsimp only at hSw); go_simp; try (with_reducible rfl))⟩) (by assumption) ?_
      simp only [Act.put, List.getElem_toArray, List.getElem_cons_zero, List.getElem_cons_succ, List.setIfInBounds_toArray, List.set_cons_zero, List.set_cons_succ]
      refine wpAnyH_take (i := 17) (oi := _) (v := _) rfl (by kernel_rfl) (by kernel_rfl) (by kernel_rfl) (fun _ _ _ h => h) (Or.inl ⟨by rfl, by (intro w hSw; (try dsimp only at hSw); go_simp; try (with_reducible rfl))⟩) (by assumption) ?_
      simp only [Act.put, List.getElem_toArray, List.getElem_cons_zero, List.getElem_cons_succ, List.setIfInBounds_toArray, List.set_cons_zero, List.set_cons_succ]
      refine wpAnyH_take (i := 18) (oi := _) (v := _) rfl (by kernel_rfl) (by kernel_rfl) (by kernel_rfl) (fun _ _ _ h => h) (Or.inl ⟨by rfl, by (intro w hSw; (try dsimp only at hSw); go_simp; try (with_reducible rfl))⟩) (by assumption) ?_
      simp only [Act.put, List.getElem_toArray, List.getElem_cons_zero, List.getElem_cons_succ, List.setIfInBounds_toArray, List.set_cons_zero, List.set_cons_succ]
      refine wpAnyH_take (i := 19) (oi := _) (v := _) rfl (by kernel_rfl) (by kernel_rfl) (by kernel_rfl) (fun _ _ _ h => h) (Or.inl ⟨by rfl, by (intro w hSw; (try dsimp only at hSw); go_simp; try (with_reducible rfl))⟩) (by assumption) ?_
      simp only [Act.put, List.getElem_toArray, List.getElem_cons_zero, List.getElem_cons_succ, List.setIfInBounds_toArray, List.set_cons_zero, List.set_cons_succ]
      refine wpAnyH_take (i := 20) (oi := _) (v := undef) rfl (by kernel_rfl) (by kernel_rfl) (by kernel_rfl) (fun _ _ _ h => h) (Or.inr ⟨by simp [Region.wanted, yielded, undef], rfl⟩) (by assumption) ?_
      simp only [Act.put, List.getElem_toArray, List.getElem_cons_zero, List.getElem_cons_succ, List.setIfInBounds_toArray, List.set_cons_zero, List.set_cons_succ]
      refine wpAnyH_take (i := 21) (oi := _) (v := undef) rfl (by kernel_rfl) (by kernel_rfl) (by kernel_rfl) (fun _ _ _ h => h) (Or.inr ⟨by simp [Region.wanted, yielded, undef], rfl⟩) (by assumption) ?_
      simp only [Act.put, List.getElem_toArray, List.getElem_cons_zero, List.getElem_cons_succ, List.setIfInBounds_toArray, List.set_cons_zero, List.set_cons_succ]
      refine wpAnyH_take (i := 22) (oi := _) (v := undef) rfl (by kernel_rfl) (by kernel_rfl) (by kernel_rfl) (fun _ _ _ h => h) (Or.inr ⟨by simp [Region.wanted, yielded, undef], rfl⟩) (by assumption) ?_
      simp only [Act.put, List.getElem_toArray, List.getElem_cons_zero, List.getElem_cons_succ, List.setIfInBounds_toArray, List.set_cons_zero, List.set_cons_succ]
      refine wpAnyH_take (i := 23) (oi := _) (v := undef) rfl (by kernel_rfl) (by kernel_rfl) (by kernel_rfl) (fun _ _ _ h => h) (Or.inr ⟨by simp [Region.wanted, yielded, undef], rfl⟩) (by assumption) ?_
      simp only [Act.put, List.getElem_toArray, List.getElem_cons_zero, List.getElem_cons_succ, List.setIfInBounds_toArray, List.set_cons_zero, List.set_cons_succ]
      refine wpAnyH_take (i := 24) (oi := _) (v := _) rfl (by kernel_rfl) (by kernel_rfl) (by kernel_rfl) (fun _ _ _ h => h) (Or.inl ⟨by rfl, by (intro w hSw; (try dsimp only at hSw); go_simp; try (with_reducible rfl))⟩) (by assumption) ?_
      simp only [Act.put, List.getElem_toArray, List.getElem_cons_zero, List.getElem_cons_succ, List.setIfInBounds_toArray, List.set_cons_zero, List.set_cons_succ]
      refine wpAnyH_take (i := 25) (oi := _) (v := _) rfl (by kernel_rfl) (by kernel_rfl) (by kernel_rfl) (fun _ _ _ h => h) (Or.inl ⟨by rfl, by (intro w hSw; (try dsimp only at hSw); go_simp; try (with_reducible rfl))⟩) (by assumption) ?_
      simp only [Act.put, List.getElem_toArray, List.getElem_cons_zero, List.getElem_cons_succ, List.setIfInBounds_toArray, List.set_cons_zero, List.set_cons_succ]
      refine wpAnyH_done (by kernel_rfl) ?_ _
      go_wp2_with fail
      go_meet
      exact ⟨rfl, hHeld.1⟩
  case rest =>
  obtain ⟨rfl, HDC⟩ := hcut
  have A5 : Hid (Wat w wc) := A4.out.step HDC.out
  have HC5 : Hid (Code w.heap.size wc a1 len1 cap1) := code_below HC1.out A5.out.bw
  clear A4 U4 X4 HDC HC1 KZ KN KT CQ CO CR CG hF
  go_wp2_with fail
  refine (drawUrlGet w.heap.size a1 len1 cap1 _ A5.out.bw.size HC5.out).mono ?_
  rintro e w6 ⟨s, rfl, hs, b6⟩
  have A6 : Hid (Wat w w6) := A5.out.step b6
  clear b6 A5 HC5
  obtain ⟨y, hy⟩ : ∃ y, y = getP s.data.toList := ⟨_, rfl⟩
  obtain ⟨ok, hok⟩ : ∃ ok, ok = getB s.data.toList := ⟨_, rfl⟩
  obtain ⟨r, hr⟩ : ∃ r, r = y.ps.length := ⟨_, rfl⟩
  have hpl : y.ps.length ≤ 1100000 := by rw [hy]; exact getP_short _
  have hyf : Fit y := by rw [hy]; exact fit_get _
  have hyt : y.tot ≤ 1048576 := by have := hyf.tot; omega
  have hyp : y.po ≤ 9223372036854775807 := by have := hyf.p1; omega
  have EI : Hid (∀ W, Lean1 W → Calls Tryz.prog 11 #[.string s] W fun e w' => ∃ a3 c3, e = .returned (.tuple #[.agg #[(.string y.sc), (.string y.us), (.string y.pw), (.int .i64 y.hk), (.string y.hn), (.int .i64 y.ha), (.int .i64 y.po), (.slice a3 r c3), (.string y.op), (.bool y.hq), (.string y.qu), (.bool y.hf), (.string y.fr)], .bool ok]) ∧ StrsOf a3 r y.ps w' ∧ Below W.heap.size W w') := fun W hW => getI3 s y ok r hy hok hr (by omega) W hW
  have ES : Hid (∀ W, Calls Tryz.prog 17 #[.string s] W fun e w' => ∃ a3 c3, e = .returned (.tuple #[.agg #[(.string y.sc), (.string y.us), (.string y.pw), (.int .i64 y.hk), (.string y.hn), (.int .i64 y.ha), (.int .i64 y.po), (.slice a3 r c3), (.string y.op), (.bool y.hq), (.string y.qu), (.bool y.hf), (.string y.fr)], .bool ok]) ∧ StrsOf a3 r y.ps w' ∧ Below W.heap.size W w') := fun W => getS3 s y ok r hy hok hr (by omega) W
  have EG : Hid (∀ a3 c3 a4 c4 W, StrsOf a3 r y.ps W → StrsOf a4 r y.ps W → Calls Tryz.prog 15 #[.agg #[(.string y.sc), (.string y.us), (.string y.pw), (.int .i64 y.hk), (.string y.hn), (.int .i64 y.ha), (.int .i64 y.po), (.slice a3 r c3), (.string y.op), (.bool y.hq), (.string y.qu), (.bool y.hf), (.string y.fr)], .agg #[(.string y.sc), (.string y.us), (.string y.pw), (.int .i64 y.hk), (.string y.hn), (.int .i64 y.ha), (.int .i64 y.po), (.slice a4 r c4), (.string y.op), (.bool y.hq), (.string y.qu), (.bool y.hf), (.string y.fr)]] W fun e w' => e = .returned (.bool true) ∧ Below W.heap.size W w') := fun a3 c3 a4 c4 W h h' => guU3 y a3 a4 r c3 r c4 hpl W h h'
  have KO : Hid (ok = true → s.size ≤ 60 → okP y) := fun h h60 => by
    rw [hok] at h
    unfold getB at h
    obtain ⟨y2, hy2⟩ := Option.isSome_iff_exists.1 h
    have e2 : y = y2 := by rw [hy]; unfold getP; rw [hy2]; rfl
    rw [e2]
    exact read60 _ _ hy2 (by simpa using h60)
  have EP : Hid (okP y → ∀ a3 c3 W, Lean1 W → StrsOf a3 r y.ps W → Calls Tryz.prog 10 #[.agg #[(.string y.sc), (.string y.us), (.string y.pw), (.int .i64 y.hk), (.string y.hn), (.int .i64 y.ha), (.int .i64 y.po), (.slice a3 r c3), (.string y.op), (.bool y.hq), (.string y.qu), (.bool y.hf), (.string y.fr)]] W fun e w' => e = .returned (.string (mk (writL y))) ∧ Below W.heap.size W w') := fun h a3 c3 W hW st => implUrlPut y a3 r c3 W hW st hyt hyp true (by simp [h])
  have EO : Hid (okP y → ∀ a3 c3 W, Lean1 W → StrsOf a3 r y.ps W → Calls Tryz.prog 13 #[.agg #[(.string y.sc), (.string y.us), (.string y.pw), (.int .i64 y.hk), (.string y.hn), (.int .i64 y.ha), (.int .i64 y.po), (.slice a3 r c3), (.string y.op), (.bool y.hq), (.string y.qu), (.bool y.hf), (.string y.fr)]] W fun e w' => e = .returned (.bool true) ∧ Below W.heap.size W w') := fun h a3 c3 W hW st => implUrlOk y a3 r c3 W hW st hyt hyp true (by simp [h])
  have EX : Hid (okP y → ∀ W, Lean1 W → Calls Tryz.prog 11 #[.string (mk (writL y))] W fun e w' => ∃ a3 c3, e = .returned (.tuple #[.agg #[(.string y.sc), (.string y.us), (.string y.pw), (.int .i64 y.hk), (.string y.hn), (.int .i64 y.ha), (.int .i64 y.po), (.slice a3 r c3), (.string y.op), (.bool y.hq), (.string y.qu), (.bool y.hf), (.string y.fr)], .bool true]) ∧ StrsOf a3 r y.ps w' ∧ Below W.heap.size W w') := fun h W hW => by
    have hg := (ok_getO _).1 h
    have hl : (writL y).length ≤ 200 := ((ok_iff _).1 h).2.1
    exact getI3 (mk (writL y)) y true r (by rw [mk_data]; unfold getP; rw [hg]; rfl) (by rw [mk_data]; unfold getB; rw [hg]; rfl) hr (by rw [mk_size]; omega) W hW
  clear hy hok hr hpl hyf hyt hyp
  go_wp2_with fail
  refine (EI.out _ A6.out.le).mono ?_
  rintro e w7 ⟨a3, c3, rfl, s7, b7⟩
  obtain ⟨V8, hV8⟩ : ∃ V, V = w7.alloc (.cells #[(.string y.sc), (.string y.us), (.string y.pw), (.int .i64 y.hk), (.string y.hn), (.int .i64 y.ha), (.int .i64 y.po), (.slice a3 r c3), (.string y.op), (.bool y.hq), (.string y.qu), (.bool y.hf), (.string y.fr)] 27) := ⟨_, rfl⟩
  have D8 : Hid (Below w6.heap.size w6 V8) := by show Below _ _ _; rw [hV8]; exact b7.trans ((below_new _ _).mono b7.size)
  have Y8 : Hid (Va w7.heap.size y a3 r c3 V8) := by show Va _ _ _ _ _ _; rw [hV8]; exact Va.new _ s7
  have A8 : Hid (Wat w V8) := A6.out.step D8.out
  clear s7 b7 D8 A6 EI
  go_upto_region 10 with fail
  rw [← hV8]
  clear hV8
  generalize w7.heap.size = g3 at *
  go_wp2_with fail
  refine (ES.out _).mono ?_
  rintro e w9 ⟨a4, c4, rfl, s9, b9⟩
  obtain ⟨V10, hV10⟩ : ∃ V, V = w9.alloc (.cells #[(.string y.sc), (.string y.us), (.string y.pw), (.int .i64 y.hk), (.string y.hn), (.int .i64 y.ha), (.int .i64 y.po), (.slice a4 r c4), (.string y.op), (.bool y.hq), (.string y.qu), (.bool y.hf), (.string y.fr)] 27) := ⟨_, rfl⟩
  have D10 : Hid (Below V8.heap.size V8 V10) := by show Below _ _ _; rw [hV10]; exact b9.trans ((below_new _ _).mono b9.size)
  have Y10 : Hid (Va w9.heap.size y a4 r c4 V10) := by show Va _ _ _ _ _ _; rw [hV10]; exact Va.new _ s9
  have A10 : Hid (Wat w V10) := A8.out.step D10.out
  have Z10 : Hid (Va g3 y a3 r c3 V10) := Y8.out.later D10.out
  clear s9 b9 D10 A8 Y8 ES
  go_upto_region 11 with fail
  rw [← hV10]
  clear hV10
  generalize w9.heap.size = g4 at *
  obtain ⟨k0, k1, k2, k3, k4, k5, k6, k7, k8, k9, k10, k11, k12⟩ := Blk.cells13a Z10.out.bk
  obtain ⟨x0, x1, x2, x3, x4, x5, x6, x7, x8, x9, x10, x11, x12⟩ := Blk.cells13a Y10.out.bk
  go_wp2_with fail
  refine (EG.out _ _ _ _ _ Z10.out.st Y10.out.st).mono ?_
  rintro e w11 ⟨rfl, d11⟩
  have A11 : Hid (Wat w w11) := A10.out.step d11
  have Z11 : Hid (Va g3 y a3 r c3 w11) := Z10.out.later d11
  have Y11 : Hid (Va g4 y a4 r c4 w11) := Y10.out.later d11
  clear d11 A10 Z10 Y10 k0 k1 k2 k3 k4 k5 k6 k7 k8 k9 k10 k11 k12 x0 x1 x2 x3 x4 x5 x6 x7 x8 x9 x10 x11 x12
  obtain ⟨k0, k1, k2, k3, k4, k5, k6, k7, k8, k9, k10, k11, k12⟩ := Blk.cells13a Z11.out.bk
  obtain ⟨x0, x1, x2, x3, x4, x5, x6, x7, x8, x9, x10, x11, x12⟩ := Blk.cells13a Y11.out.bk
  cases hokb : ok with
  | false =>
    subst hokb
    clear KO EP EO EX
    go_wp2_with fail
    refine (EG.out _ _ _ _ _ Z11.out.st Y11.out.st).mono ?_
    rintro e w12 ⟨rfl, d12⟩
    have A12 : Hid (Wat w w12) := A11.out.step d12
    clear d12 A11 Z11 Y11 k0 k1 k2 k3 k4 k5 k6 k7 k8 k9 k10 k11 k12 x0 x1 x2 x3 x4 x5 x6 x7 x8 x9 x10 x11 x12
    go_wp2
    go_ret
    exact ⟨rfl, A12.out.bw⟩
  | true =>
    have KO2 : Hid (s.size ≤ 60 → okP y) := KO.out hokb
    subst hokb
    clear KO
    by_cases h60 : (60 : Int) < (s.size : Int)
    · clear KO2 EP EO EX
      go_wp2_with fail
      refine (EG.out _ _ _ _ _ Z11.out.st Y11.out.st).mono ?_
      rintro e w12 ⟨rfl, d12⟩
      have A12 : Hid (Wat w w12) := A11.out.step d12
      clear d12 A11 Z11 Y11 k0 k1 k2 k3 k4 k5 k6 k7 k8 k9 k10 k11 k12 x0 x1 x2 x3 x4 x5 x6 x7 x8 x9 x10 x11 x12
      go_wp2
      go_ret
      exact ⟨rfl, A12.out.bw⟩
    have hoy := KO2.out (by omega)
    obtain ⟨tx, htx⟩ : ∃ tx, tx = mk (writL y) := ⟨_, rfl⟩
    have EP2 := EP.out hoy
    have EO2 := EO.out hoy
    have EX2 := EX.out hoy
    rw [← htx] at EP2 EX2
    have EP3 : Hid (∀ a3 c3 W, Lean1 W → StrsOf a3 r y.ps W → Calls Tryz.prog 10 #[.agg #[(.string y.sc), (.string y.us), (.string y.pw), (.int .i64 y.hk), (.string y.hn), (.int .i64 y.ha), (.int .i64 y.po), (.slice a3 r c3), (.string y.op), (.bool y.hq), (.string y.qu), (.bool y.hf), (.string y.fr)]] W fun e w' => e = .returned (.string tx) ∧ Below W.heap.size W w') := EP2
    have EO3 : Hid (∀ a3 c3 W, Lean1 W → StrsOf a3 r y.ps W → Calls Tryz.prog 13 #[.agg #[(.string y.sc), (.string y.us), (.string y.pw), (.int .i64 y.hk), (.string y.hn), (.int .i64 y.ha), (.int .i64 y.po), (.slice a3 r c3), (.string y.op), (.bool y.hq), (.string y.qu), (.bool y.hf), (.string y.fr)]] W fun e w' => e = .returned (.bool true) ∧ Below W.heap.size W w') := EO2
    have EX3 : Hid (∀ W, Lean1 W → Calls Tryz.prog 11 #[.string tx] W fun e w' => ∃ a3 c3, e = .returned (.tuple #[.agg #[(.string y.sc), (.string y.us), (.string y.pw), (.int .i64 y.hk), (.string y.hn), (.int .i64 y.ha), (.int .i64 y.po), (.slice a3 r c3), (.string y.op), (.bool y.hq), (.string y.qu), (.bool y.hf), (.string y.fr)], .bool true]) ∧ StrsOf a3 r y.ps w' ∧ Below W.heap.size W w') := EX2
    clear KO2 EP EO EX EP2 EO2 EX2 htx hoy Y11 x0 x1 x2 x3 x4 x5 x6 x7 x8 x9 x10 x11 x12
    go_wp2_with fail
    refine (EP3.out _ _ _ A11.out.le Z11.out.st).mono ?_
    rintro e w12 ⟨rfl, d12⟩
    have A12 : Hid (Wat w w12) := A11.out.step d12
    have Z12 : Hid (Va g3 y a3 r c3 w12) := Z11.out.later d12
    clear d12 A11 Z11 EP3 k0 k1 k2 k3 k4 k5 k6 k7 k8 k9 k10 k11 k12
    go_wp2_with fail
    refine (EX3.out _ A12.out.le).mono ?_
    rintro e w13 ⟨a5, c5, rfl, s13, b13⟩
    obtain ⟨V14, hV14⟩ : ∃ V, V = w13.alloc (.cells #[(.string y.sc), (.string y.us), (.string y.pw), (.int .i64 y.hk), (.string y.hn), (.int .i64 y.ha), (.int .i64 y.po), (.slice a5 r c5), (.string y.op), (.bool y.hq), (.string y.qu), (.bool y.hf), (.string y.fr)] 27) := ⟨_, rfl⟩
    have D14 : Hid (Below w12.heap.size w12 V14) := by show Below _ _ _; rw [hV14]; exact b13.trans ((below_new _ _).mono b13.size)
    have Y14 : Hid (Va w13.heap.size y a5 r c5 V14) := by show Va _ _ _ _ _ _; rw [hV14]; exact Va.new _ s13
    have A14 : Hid (Wat w V14) := A12.out.step D14.out
    have Z14 : Hid (Va g3 y a3 r c3 V14) := Z12.out.later D14.out
    clear s13 b13 D14 A12 Z12 EX3
    go_upto_region 14 with fail
    rw [← hV14]
    clear hV14
    generalize w13.heap.size = g5 at *
    obtain ⟨k0, k1, k2, k3, k4, k5, k6, k7, k8, k9, k10, k11, k12⟩ := Blk.cells13a Z14.out.bk
    obtain ⟨x0, x1, x2, x3, x4, x5, x6, x7, x8, x9, x10, x11, x12⟩ := Blk.cells13a Y14.out.bk
    go_wp2_with fail
    refine (EO3.out _ _ _ A14.out.le Z14.out.st).mono ?_
    rintro e w15 ⟨rfl, d15⟩
    have A15 : Hid (Wat w w15) := A14.out.step d15
    have Z15 : Hid (Va g3 y a3 r c3 w15) := Z14.out.later d15
    have Y15 : Hid (Va g5 y a5 r c5 w15) := Y14.out.later d15
    clear d15 A14 Z14 Y14 EO3 k0 k1 k2 k3 k4 k5 k6 k7 k8 k9 k10 k11 k12 x0 x1 x2 x3 x4 x5 x6 x7 x8 x9 x10 x11 x12
    obtain ⟨k0, k1, k2, k3, k4, k5, k6, k7, k8, k9, k10, k11, k12⟩ := Blk.cells13a Z15.out.bk
    obtain ⟨x0, x1, x2, x3, x4, x5, x6, x7, x8, x9, x10, x11, x12⟩ := Blk.cells13a Y15.out.bk
    go_wp2_with fail
    refine (EG.out _ _ _ _ _ Y15.out.st Z15.out.st).mono ?_
    rintro e w16 ⟨rfl, d16⟩
    have A16 : Hid (Wat w w16) := A15.out.step d16
    clear d16 A15 Z15 Y15 k0 k1 k2 k3 k4 k5 k6 k7 k8 k9 k10 k11 k12 x0 x1 x2 x3 x4 x5 x6 x7 x8 x9 x10 x11 x12
    go_wp2
    go_ret
    exact ⟨rfl, A16.out.bw⟩
end Go.Proofs.YticbekooadnnlaaGreatDoor
end

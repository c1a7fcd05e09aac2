/- The law FnUrlBase answers true, whatever the code. -/
import Derived.Test.YticbekooadnnlaaGreatDoorCFnUrlBase02
import Derived.Test.YticbekooadnnlaaGreatDoorCFnUrlBase03
import Derived.Test.YticbekooadnnlaaGreatDoorCFnUrlBase04
import Derived.Test.YticbekooadnnlaaGreatDoorCFnUrlBase08
import Derived.Deep.Cut
import Derived.Deep.RegionHeld3
section
set_option linter.unusedVariables false
set_option linter.unusedSimpArgs false
namespace Go.Proofs.YticbekooadnnlaaGreatDoor
open Go.RowKit Go.Shelf

/-- The cells of an address in a variable. -/
def Su (g : Nat) (q : P) (a : Option Addr) (n c : Nat) (W : World) : Prop := W.cell? ⟨g, 0, none⟩ = some (.string q.sc) ∧ W.cell? ⟨g, 1, none⟩ = some (.string q.us) ∧ W.cell? ⟨g, 2, none⟩ = some (.string q.pw) ∧ W.cell? ⟨g, 3, none⟩ = some (.int .i64 q.hk) ∧ W.cell? ⟨g, 4, none⟩ = some (.string q.hn) ∧ W.cell? ⟨g, 5, none⟩ = some (.int .i64 q.ha) ∧ W.cell? ⟨g, 6, none⟩ = some (.int .i64 q.po) ∧ W.cell? ⟨g, 7, none⟩ = some (.slice a n c) ∧ W.cell? ⟨g, 8, none⟩ = some (.string q.op) ∧ W.cell? ⟨g, 9, none⟩ = some (.bool q.hq) ∧ W.cell? ⟨g, 10, none⟩ = some (.string q.qu) ∧ W.cell? ⟨g, 11, none⟩ = some (.bool q.hf) ∧ W.cell? ⟨g, 12, none⟩ = some (.string q.fr)
theorem Su.of {g n c : Nat} {q : P} {a : Option Addr} {W : World} (h : Va g q a n c W) : Su g q a n c W := Blk.cells13a h.bk
/-- A step taken first; the three facts that the kernel reckons together. -/
theorem tk {P : Program} {ops : Array Oper} {Q : Exit → Act → World → Prop} {md : Region.Mode} {S : World → Prop} (i : Nat) {oi : Oper} {v : Value} {fuel : Nat} {listed : Array Bool} {a : Act} {w : World} (hi : ops[i]? = some oi) (h3 : (Region.noSelect ops && Region.free md ops listed i && (Region.ready md ops listed).contains i) = true) (hQ : ∀ c a w, Q (.panic c) (a.put oi.dst v) w → Q (.panic c) a w) (hw : Region.wanted oi (yielded ops a.tmps) = true) (hy : ∀ w, S w → (execOp a.eval oi).run P w = .ok (.value v) w) (hS : S w) (h : wpAnyH P md ops Q S fuel (listed.setIfInBounds i true) (a.put oi.dst v) w) : wpAnyH P md ops Q S (fuel + 1) listed a w := by
  rw [Bool.and_eq_true, Bool.and_eq_true] at h3
  exact wpAnyH_take hi h3.1.1 h3.1.2 h3.2 hQ (Or.inl ⟨hw, hy⟩) hS h
set_option maxHeartbeats 8000000 in
set_option maxRecDepth 100000 in
theorem fnUrlBase_walk (w : World) (hL : Lean1 w) (a0 : Option Addr) (len0 cap0 : Nat) (z0 : List Int) (h0 : IsRow .u8 w a0 len0 cap0 z0) :
    Calls Tryz.prog 5 #[.slice a0 len0 cap0] w fun e w' => e = .returned (.bool true) ∧ Below w.heap.size w w' := by
  have hC := code_of_row h0
  by_cases hbig : (1048576 : Int) < (len0 : Int)
  · go_enter Tryz.func5, Tryz.ntmps5
    go_wp2
    go_ret
    exact ⟨rfl, Below.refl _ _⟩
  have hbig2 : (len0 : Int) ≤ 1048576 := by omega
  have A0 : Hid (Wat w w) := Wat.start hL
  clear hbig hL h0
  go_enter Tryz.func5, Tryz.ntmps5
  go_wp2_with fail
  refine (drawUrlBase w.heap.size a0 len0 cap0 _ (Nat.le_refl _) hC).mono ?_
  rintro e w1 ⟨q, a, n, c, rfl, s1, hF, b1⟩
  obtain ⟨V1, hV1⟩ : ∃ V, V = w1.alloc (.cells #[(.string q.sc), (.string q.us), (.string q.pw), (.int .i64 q.hk), (.string q.hn), (.int .i64 q.ha), (.int .i64 q.po), (.slice a n c), (.string q.op), (.bool q.hq), (.string q.qu), (.bool q.hf), (.string q.fr)] 27) := ⟨_, rfl⟩
  have U1 : Hid (Va w1.heap.size q a n c V1) := by show Va _ _ _ _ _ _; rw [hV1]; exact Va.new _ s1
  have A1 : Hid (Wat w V1) := A0.out.step (by rw [hV1]; exact b1.trans ((below_new _ _).mono b1.size))
  clear s1 b1 A0 hC
  obtain ⟨b, hb⟩ : ∃ b : Bool, b = true ↔ okP q := by
    by_cases h : okP q
    · exact ⟨true, by simp [h]⟩
    · exact ⟨false, by simp [h]⟩
  have hto : q.tot ≤ 1048576 := by have := hF.out.1.tot; omega
  have hpo : q.po ≤ 9223372036854775807 := by have := hF.out.1.po; omega
  obtain ⟨r, hr⟩ := base_cases q
  obtain ⟨m, hm⟩ : ∃ m, m = r.ps.length := ⟨_, rfl⟩
  have hpl : r.ps.length ≤ 1100000 := by
    have h1 := base_len q r hr
    have : q.ps.length ≤ q.tot := (by unfold P.tot; omega)
    omega
  have CB : Hid (∀ W, Lean1 W → StrsOf a n q.ps W → Calls Tryz.prog 19 #[.agg #[(.string q.sc), (.string q.us), (.string q.pw), (.int .i64 q.hk), (.string q.hn), (.int .i64 q.ha), (.int .i64 q.po), (.slice a n c), (.string q.op), (.bool q.hq), (.string q.qu), (.bool q.hf), (.string q.fr)]] W fun e w' => ∃ a2 c2, e = .returned (.agg #[(.string r.sc), (.string r.us), (.string r.pw), (.int .i64 r.hk), (.string r.hn), (.int .i64 r.ha), (.int .i64 r.po), (.slice a2 m c2), (.string r.op), (.bool r.hq), (.string r.qu), (.bool r.hf), (.string r.fr)]) ∧ StrsOf a2 m r.ps w' ∧ Below W.heap.size W w') := fun W hW s => by
    subst hm
    refine (implUrlBase q r a n c W hW s hto hpo hr).mono ?_
    rintro e w' ⟨a2, c2, rfl, o, d⟩
    exact ⟨a2, c2, rfl, o.strsN rfl, d⟩
  have CS : Hid (∀ W, StrsOf a n q.ps W → Calls Tryz.prog 20 #[.agg #[(.string q.sc), (.string q.us), (.string q.pw), (.int .i64 q.hk), (.string q.hn), (.int .i64 q.ha), (.int .i64 q.po), (.slice a n c), (.string q.op), (.bool q.hq), (.string q.qu), (.bool q.hf), (.string q.fr)]] W fun e w' => ∃ a2 c2, e = .returned (.agg #[(.string r.sc), (.string r.us), (.string r.pw), (.int .i64 r.hk), (.string r.hn), (.int .i64 r.ha), (.int .i64 r.po), (.slice a2 m c2), (.string r.op), (.bool r.hq), (.string r.qu), (.bool r.hf), (.string r.fr)]) ∧ StrsOf a2 m r.ps w' ∧ Below W.heap.size W w') := fun W s => by
    subst hm
    refine (specUrlBase q r a n c W s hto hpo hr).mono ?_
    rintro e w' ⟨a2, c2, rfl, o, d⟩
    exact ⟨a2, c2, rfl, o.strsN rfl, d⟩
  have CG : Hid (∀ a3 c3 a4 c4 W, StrsOf a3 m r.ps W → StrsOf a4 m r.ps W → Calls Tryz.prog 15 #[.agg #[(.string r.sc), (.string r.us), (.string r.pw), (.int .i64 r.hk), (.string r.hn), (.int .i64 r.ha), (.int .i64 r.po), (.slice a3 m c3), (.string r.op), (.bool r.hq), (.string r.qu), (.bool r.hf), (.string r.fr)], .agg #[(.string r.sc), (.string r.us), (.string r.pw), (.int .i64 r.hk), (.string r.hn), (.int .i64 r.ha), (.int .i64 r.po), (.slice a4 m c4), (.string r.op), (.bool r.hq), (.string r.qu), (.bool r.hf), (.string r.fr)]] W fun e w' => e = .returned (.bool true) ∧ Below W.heap.size W w') := fun a3 c3 a4 c4 W h h' => guU3 r a3 a4 m c3 m c4 hpl W h h'
  have CO : Hid (∀ W, StrsOf a n q.ps W → Calls Tryz.prog 14 #[.agg #[(.string q.sc), (.string q.us), (.string q.pw), (.int .i64 q.hk), (.string q.hn), (.int .i64 q.ha), (.int .i64 q.po), (.slice a n c), (.string q.op), (.bool q.hq), (.string q.qu), (.bool q.hf), (.string q.fr)]] W fun e w' => e = .returned (.bool b) ∧ Below W.heap.size W w') := fun W s => specUrlOk q a n c W s hto hpo b hb
  have KR : Hid (b = true → okP q ∧ r = bsP q ∧ okP r ∧ r = bsP r ∧ r.tot ≤ 1048576 ∧ r.po ≤ 9223372036854775807 ∧ m = n) := fun h => by
    have hq := hb.1 h
    have hrq : r = bsP q := by
      rcases hr with ⟨_, e⟩ | ⟨e, _⟩
      · exact e
      · exact absurd hq e
    refine ⟨hq, hrq, ?_, ?_, ?_, ?_, ?_⟩
    · rw [hrq]; exact ok_base q hq
    · rw [hrq]; rfl
    · rw [hrq]; have := base_tot q; omega
    · rw [hrq]; exact hpo
    · rw [hm, hrq]; exact hF.out.2.symm
  have HTP : Hid (q.tot ≤ 1048576 ∧ q.po ≤ 9223372036854775807) := ⟨hto, hpo⟩
  have HPL : Hid (r.ps.length ≤ 1100000) := hpl
  clear hb hto hpo hr hm hpl hF
  go_upto_region 4 with fail
  rw [← hV1]
  clear hV1
  generalize w1.heap.size = g1 at *
  obtain ⟨k0, k1, k2, k3, k4, k5, k6, k7, k8, k9, k10, k11, k12⟩ := Blk.cells13a U1.out.bk
  go_wp2_with fail
  refine (CB.out _ A1.out.le U1.out.st).mono ?_
  rintro e w2 ⟨a2, c2, rfl, s2, b2⟩
  obtain ⟨V3, hV3⟩ : ∃ V, V = w2.alloc (.cells #[(.string r.sc), (.string r.us), (.string r.pw), (.int .i64 r.hk), (.string r.hn), (.int .i64 r.ha), (.int .i64 r.po), (.slice a2 m c2), (.string r.op), (.bool r.hq), (.string r.qu), (.bool r.hf), (.string r.fr)] 27) := ⟨_, rfl⟩
  have D3 : Hid (Below V1.heap.size V1 V3) := by show Below _ _ _; rw [hV3]; exact b2.trans ((below_new _ _).mono b2.size)
  have X3 : Hid (Va w2.heap.size r a2 m c2 V3) := by show Va _ _ _ _ _ _; rw [hV3]; exact Va.new _ s2
  have A3 : Hid (Wat w V3) := A1.out.step D3.out
  have U3 : Hid (Va g1 q a n c V3) := U1.out.later D3.out
  clear s2 b2 D3 A1 U1 CB k0 k1 k2 k3 k4 k5 k6 k7 k8 k9 k10 k11 k12
  go_upto_region 5 with fail
  rw [← hV3]
  clear hV3
  generalize w2.heap.size = g2 at *
  have HS : Hid (∀ W, Below V3.heap.size V3 W → (fun W => Below V3.heap.size V3 W ∧ Su g1 q a n c W ∧ Su g2 r a2 m c2 W) W) := fun W d => ⟨d, Su.of (U3.out.later d), Su.of (X3.out.later d)⟩
  try go_wp2_with fail
  refine wp_region_held_drew (S := (fun W => Below V3.heap.size V3 W ∧ Su g1 q a n c W ∧ Su g2 r a2 m c2 W)) (by kernel_rfl) (HS.out _ ((Below.refl _ _).drew)) (fun hHeld => ?_)
  refine tk 0 rfl (by kernel_rfl) (fun _ _ _ h => h) (by rfl) (fun w hSw => by (try dsimp only [Su] at hSw); go_simp; try (with_reducible rfl)) (by assumption) ?_
  refine tk 1 rfl (by kernel_rfl) (fun _ _ _ h => h) (by rfl) (fun w hSw => by (try dsimp only [Su] at hSw); go_simp; try (with_reducible rfl)) (by assumption) ?_
  simp only [Act.put, List.getElem_toArray, List.getElem_cons_zero, List.getElem_cons_succ, List.setIfInBounds_toArray, List.set_cons_zero, List.set_cons_succ]
  refine wpAnyH_ready (rs := [2]) (by kernel_rfl) (by simp) ?_
  refine AllReadyH.cons (o := _) rfl (fun K hK => ?_) AllReadyH.nil
  go_simp
  refine (CS.out _ (U3.out.later hHeld.1).st).mono ?_
  rintro e w4 ⟨a4, c4, rfl, s4, d4⟩
  refine hK.out _ _ (HS.out _ (hHeld.1.trans (d4.mono hHeld.1.size))) (fun hHeld => ?_)
  clear hK K
  try simp only [Act.put, List.getElem_toArray, List.getElem_cons_zero, List.getElem_cons_succ, List.setIfInBounds_toArray, List.set_cons_zero, List.set_cons_succ]
  refine wpAnyH_ready (rs := [3]) (by kernel_rfl) (by simp) ?_
  refine AllReadyH.cons (o := _) rfl (fun K hK => ?_) AllReadyH.nil
  go_simp
  refine (CG.out _ _ _ _ _ (X3.out.later hHeld.1).st s4).mono ?_
  rintro e w5 ⟨rfl, d5⟩
  refine hK.out _ _ (HS.out _ (hHeld.1.trans (d5.mono hHeld.1.size))) (fun hHeld => ?_)
  clear hK K
  try simp only [Act.put, List.getElem_toArray, List.getElem_cons_zero, List.getElem_cons_succ, List.setIfInBounds_toArray, List.set_cons_zero, List.set_cons_succ]
  refine tk 4 rfl (by kernel_rfl) (fun _ _ _ h => h) (by rfl) (fun w hSw => by (try dsimp only [Su] at hSw); go_simp; try (with_reducible rfl)) (by assumption) ?_
  simp only [Act.put, List.getElem_toArray, List.getElem_cons_zero, List.getElem_cons_succ, List.setIfInBounds_toArray, List.set_cons_zero, List.set_cons_succ]
  refine tk 5 rfl (by kernel_rfl) (fun _ _ _ h => h) (by rfl) (fun w hSw => by (try dsimp only [Su] at hSw); go_simp; try (with_reducible rfl)) (by assumption) ?_
  simp only [Act.put, List.getElem_toArray, List.getElem_cons_zero, List.getElem_cons_succ, List.setIfInBounds_toArray, List.set_cons_zero, List.set_cons_succ]
  refine tk 6 rfl (by kernel_rfl) (fun _ _ _ h => h) (by rfl) (fun w hSw => by (try dsimp only [Su] at hSw); go_simp; try (with_reducible rfl)) (by assumption) ?_
  simp only [Act.put, List.getElem_toArray, List.getElem_cons_zero, List.getElem_cons_succ, List.setIfInBounds_toArray, List.set_cons_zero, List.set_cons_succ]
  refine wpAnyH_ready (rs := [7]) (by kernel_rfl) (by simp) ?_
  refine AllReadyH.cons (o := _) rfl (fun K hK => ?_) AllReadyH.nil
  go_simp
  refine (CO.out _ (U3.out.later hHeld.1).st).mono ?_
  rintro e w6 ⟨rfl, d6⟩
  refine hK.out _ _ (HS.out _ (hHeld.1.trans (d6.mono hHeld.1.size))) (fun hHeld => ?_)
  clear hK K
  try simp only [Act.put, List.getElem_toArray, List.getElem_cons_zero, List.getElem_cons_succ, List.setIfInBounds_toArray, List.set_cons_zero, List.set_cons_succ]
  refine tk 8 rfl (by kernel_rfl) (fun _ _ _ h => h) (by rfl) (fun w hSw => by (try dsimp only [Su] at hSw); go_simp; try (with_reducible rfl)) (by assumption) ?_
  simp only [Act.put, List.getElem_toArray, List.getElem_cons_zero, List.getElem_cons_succ, List.setIfInBounds_toArray, List.set_cons_zero, List.set_cons_succ]
  refine tk 9 rfl (by kernel_rfl) (fun _ _ _ h => h) (by rfl) (fun w hSw => by (try dsimp only [Su] at hSw); go_simp; try (with_reducible rfl)) (by assumption) ?_
  simp only [Act.put, List.getElem_toArray, List.getElem_cons_zero, List.getElem_cons_succ, List.setIfInBounds_toArray, List.set_cons_zero, List.set_cons_succ]
  refine wpAnyH_done (by kernel_rfl) ?_ _
  clear HS
  have D6 : Hid (Below V3.heap.size V3 w6) := hHeld.1
  have A6 : Hid (Wat w w6) := A3.out.step D6.out
  have U6 : Hid (Va g1 q a n c w6) := U3.out.later D6.out
  have X6 : Hid (Va g2 r a2 m c2 w6) := X3.out.later D6.out
  clear hHeld d4 d5 d6 s4 D6 A3 U3 X3 CO
  rcases Bool.eq_false_or_eq_true b with hbb | hbb
  · have KT := KR.out hbb
    subst hbb
    clear CS KR
    obtain ⟨hq, hrq, hro, hrb, hrt, hrp, hmn⟩ := KT
    subst hmn
    have CP : Hid (∀ a3 c3 W, Lean1 W → StrsOf a3 m r.ps W → Calls Tryz.prog 13 #[.agg #[(.string r.sc), (.string r.us), (.string r.pw), (.int .i64 r.hk), (.string r.hn), (.int .i64 r.ha), (.int .i64 r.po), (.slice a3 m c3), (.string r.op), (.bool r.hq), (.string r.qu), (.bool r.hf), (.string r.fr)]] W fun e w' => e = .returned (.bool true) ∧ Below W.heap.size W w') := fun a3 c3 W hW st => implUrlOk r a3 m c3 W hW st hrt hrp true (by simp [hro])
    have CB : Hid (∀ a3 c3 W, Lean1 W → StrsOf a3 m r.ps W → Calls Tryz.prog 19 #[.agg #[(.string r.sc), (.string r.us), (.string r.pw), (.int .i64 r.hk), (.string r.hn), (.int .i64 r.ha), (.int .i64 r.po), (.slice a3 m c3), (.string r.op), (.bool r.hq), (.string r.qu), (.bool r.hf), (.string r.fr)]] W fun e w' => ∃ a4 c4, e = .returned (.agg #[(.string r.sc), (.string r.us), (.string r.pw), (.int .i64 r.hk), (.string r.hn), (.int .i64 r.ha), (.int .i64 r.po), (.slice a4 m c4), (.string r.op), (.bool r.hq), (.string r.qu), (.bool r.hf), (.string r.fr)]) ∧ StrsOf a4 m r.ps w' ∧ Below W.heap.size W w') := fun a3 c3 W hW st => by
      refine (implUrlBase r r a3 m c3 W hW st hrt hrp (.inl ⟨hro, hrb⟩)).mono ?_
      rintro e w' ⟨a4, c4, rfl, o, d⟩
      have hl : m = r.ps.length := st.1
      rw [← hl] at o ⊢
      exact ⟨a4, c4, rfl, o.strsN hl, d⟩
    have CE : Hid (∀ a3 c3 W, Lean1 W → StrsOf a3 m r.ps W → StrsOf a m q.ps W → Calls Tryz.prog 21 #[.agg #[(.string r.sc), (.string r.us), (.string r.pw), (.int .i64 r.hk), (.string r.hn), (.int .i64 r.ha), (.int .i64 r.po), (.slice a3 m c3), (.string r.op), (.bool r.hq), (.string r.qu), (.bool r.hf), (.string r.fr)], .agg #[(.string q.sc), (.string q.us), (.string q.pw), (.int .i64 q.hk), (.string q.hn), (.int .i64 q.ha), (.int .i64 q.po), (.slice a m c), (.string q.op), (.bool q.hq), (.string q.qu), (.bool q.hf), (.string q.fr)]] W fun e w' => e = .returned (.bool true) ∧ Below W.heap.size W w') := fun a3 c3 W hW st su => implSameYes r q a3 a m m c3 c W hW st su hrt HTP.out.1 hrp HTP.out.2 hro hq true (by simp [← hrq, ← hrb])
    have KY : Hid (Va w6.heap.size r a m c (w6.alloc (.cells #[(.string q.sc), (.string q.us), (.string q.pw), (.int .i64 q.hk), (.string q.hn), (.int .i64 q.ha), (.int .i64 q.po), (.slice a m c), (.string q.op), (.bool q.hq), (.string q.qu), (.bool false), (.string ⟨#[]⟩)] 27))) := by
      refine ⟨?_, ?_⟩
      · rw [hrq]
        exact Blk.new w6 _ _
      · rw [hrq, bsP_ps]
        exact U6.out.st.later (below_new w6 _)
    clear hq hrq hro hrb hrt hrp HTP HPL
    obtain ⟨k0, k1, k2, k3, k4, k5, k6, k7, k8, k9, k10, k11, k12⟩ := Blk.cells13a U6.out.bk
    go_upto_region 10 with fail
    obtain ⟨V8, hV8⟩ : ∃ V, V = w6.alloc (.cells #[(.string q.sc), (.string q.us), (.string q.pw), (.int .i64 q.hk), (.string q.hn), (.int .i64 q.ha), (.int .i64 q.po), (.slice a m c), (.string q.op), (.bool q.hq), (.string q.qu), (.bool false), (.string ⟨#[]⟩)] 27) := ⟨_, rfl⟩
    rw [← hV8]
    rw [← hV8] at KY
    have D8 : Hid (Below w6.heap.size w6 V8) := by show Below _ _ _; rw [hV8]; exact below_new w6 _
    have A8 : Hid (Wat w V8) := A6.out.step D8.out
    have U8 : Hid (Va g1 q a m c V8) := U6.out.later D8.out
    have X8 : Hid (Va g2 r a2 m c2 V8) := X6.out.later D8.out
    clear hV8 D8 A6 U6 X6 k0 k1 k2 k3 k4 k5 k6 k7 k8 k9 k10 k11 k12
    generalize w6.heap.size = g8 at *
    have HS : Hid (∀ W, Below V8.heap.size V8 W → (fun W => Below V8.heap.size V8 W ∧ Su g1 q a m c W ∧ Su g2 r a2 m c2 W ∧ Su g8 r a m c W) W) := fun W d => ⟨d, Su.of (U8.out.later d), Su.of (X8.out.later d), Su.of (KY.out.later d)⟩
    try go_wp2_with fail
    refine wp_region_held_drew (S := (fun W => Below V8.heap.size V8 W ∧ Su g1 q a m c W ∧ Su g2 r a2 m c2 W ∧ Su g8 r a m c W)) (by kernel_rfl) (HS.out _ ((Below.refl _ _).drew)) (fun hHeld => ?_)
    refine tk 0 rfl (by kernel_rfl) (fun _ _ _ h => h) (by rfl) (fun w hSw => by (try dsimp only [Su] at hSw); go_simp; try (with_reducible rfl)) (by assumption) ?_
    refine tk 1 rfl (by kernel_rfl) (fun _ _ _ h => h) (by rfl) (fun w hSw => by (try dsimp only [Su] at hSw); go_simp; try (with_reducible rfl)) (by assumption) ?_
    simp only [Act.put, List.getElem_toArray, List.getElem_cons_zero, List.getElem_cons_succ, List.setIfInBounds_toArray, List.set_cons_zero, List.set_cons_succ]
    refine wpAnyH_ready (rs := [2]) (by kernel_rfl) (by simp) ?_
    refine AllReadyH.cons (o := _) rfl (fun K hK => ?_) AllReadyH.nil
    go_simp
    refine (CG.out _ _ _ _ _ (X8.out.later hHeld.1).st (KY.out.later hHeld.1).st).mono ?_
    rintro e w9 ⟨rfl, d9⟩
    refine hK.out _ _ (HS.out _ (hHeld.1.trans (d9.mono hHeld.1.size))) (fun hHeld => ?_)
    clear hK K
    try simp only [Act.put, List.getElem_toArray, List.getElem_cons_zero, List.getElem_cons_succ, List.setIfInBounds_toArray, List.set_cons_zero, List.set_cons_succ]
    refine tk 3 rfl (by kernel_rfl) (fun _ _ _ h => h) (by rfl) (fun w hSw => by (try dsimp only [Su] at hSw); go_simp; try (with_reducible rfl)) (by assumption) ?_
    simp only [Act.put, List.getElem_toArray, List.getElem_cons_zero, List.getElem_cons_succ, List.setIfInBounds_toArray, List.set_cons_zero, List.set_cons_succ]
    refine tk 4 rfl (by kernel_rfl) (fun _ _ _ h => h) (by rfl) (fun w hSw => by (try dsimp only [Su] at hSw); go_simp; try (with_reducible rfl)) (by assumption) ?_
    simp only [Act.put, List.getElem_toArray, List.getElem_cons_zero, List.getElem_cons_succ, List.setIfInBounds_toArray, List.set_cons_zero, List.set_cons_succ]
    refine wpAnyH_ready (rs := [5]) (by kernel_rfl) (by simp) ?_
    refine AllReadyH.cons (o := _) rfl (fun K hK => ?_) AllReadyH.nil
    go_simp
    refine (CP.out _ _ _ (A8.out.step hHeld.1).le (X8.out.later hHeld.1).st).mono ?_
    rintro e w10 ⟨rfl, d10⟩
    refine hK.out _ _ (HS.out _ (hHeld.1.trans (d10.mono hHeld.1.size))) (fun hHeld => ?_)
    clear hK K
    try simp only [Act.put, List.getElem_toArray, List.getElem_cons_zero, List.getElem_cons_succ, List.setIfInBounds_toArray, List.set_cons_zero, List.set_cons_succ]
    refine tk 6 rfl (by kernel_rfl) (fun _ _ _ h => h) (by rfl) (fun w hSw => by (try dsimp only [Su] at hSw); go_simp; try (with_reducible rfl)) (by assumption) ?_
    simp only [Act.put, List.getElem_toArray, List.getElem_cons_zero, List.getElem_cons_succ, List.setIfInBounds_toArray, List.set_cons_zero, List.set_cons_succ]
    refine tk 7 rfl (by kernel_rfl) (fun _ _ _ h => h) (by rfl) (fun w hSw => by (try dsimp only [Su] at hSw); go_simp; try (with_reducible rfl)) (by assumption) ?_
    simp only [Act.put, List.getElem_toArray, List.getElem_cons_zero, List.getElem_cons_succ, List.setIfInBounds_toArray, List.set_cons_zero, List.set_cons_succ]
    refine tk 8 rfl (by kernel_rfl) (fun _ _ _ h => h) (by rfl) (fun w hSw => by (try dsimp only [Su] at hSw); go_simp; try (with_reducible rfl)) (by assumption) ?_
    refine tk 10 rfl (by kernel_rfl) (fun _ _ _ h => h) (by rfl) (fun w hSw => by (try dsimp only [Su] at hSw); go_simp; try (with_reducible rfl)) (by assumption) ?_
    simp only [Act.put, List.getElem_toArray, List.getElem_cons_zero, List.getElem_cons_succ, List.setIfInBounds_toArray, List.set_cons_zero, List.set_cons_succ]
    refine wpAnyH_ready (rs := [9]) (by kernel_rfl) (by simp) ?_
    refine AllReadyH.cons (o := _) rfl (fun K hK => ?_) AllReadyH.nil
    go_simp
    refine (CB.out _ _ _ (A8.out.step hHeld.1).le (X8.out.later hHeld.1).st).mono ?_
    rintro e w11 ⟨a5, c5, rfl, s5, d11⟩
    refine hK.out _ _ (HS.out _ (hHeld.1.trans (d11.mono hHeld.1.size))) (fun hHeld => ?_)
    clear hK K
    try simp only [Act.put, List.getElem_toArray, List.getElem_cons_zero, List.getElem_cons_succ, List.setIfInBounds_toArray, List.set_cons_zero, List.set_cons_succ]
    refine wpAnyH_ready (rs := [11]) (by kernel_rfl) (by simp) ?_
    refine AllReadyH.cons (o := _) rfl (fun K hK => ?_) AllReadyH.nil
    go_simp
    refine (CG.out _ _ _ _ _ s5 (X8.out.later hHeld.1).st).mono ?_
    rintro e w12 ⟨rfl, d12⟩
    refine hK.out _ _ (HS.out _ (hHeld.1.trans (d12.mono hHeld.1.size))) (fun hHeld => ?_)
    clear hK K
    try simp only [Act.put, List.getElem_toArray, List.getElem_cons_zero, List.getElem_cons_succ, List.setIfInBounds_toArray, List.set_cons_zero, List.set_cons_succ]
    refine tk 12 rfl (by kernel_rfl) (fun _ _ _ h => h) (by rfl) (fun w hSw => by (try dsimp only [Su] at hSw); go_simp; try (with_reducible rfl)) (by assumption) ?_
    simp only [Act.put, List.getElem_toArray, List.getElem_cons_zero, List.getElem_cons_succ, List.setIfInBounds_toArray, List.set_cons_zero, List.set_cons_succ]
    refine tk 13 rfl (by kernel_rfl) (fun _ _ _ h => h) (by rfl) (fun w hSw => by (try dsimp only [Su] at hSw); go_simp; try (with_reducible rfl)) (by assumption) ?_
    simp only [Act.put, List.getElem_toArray, List.getElem_cons_zero, List.getElem_cons_succ, List.setIfInBounds_toArray, List.set_cons_zero, List.set_cons_succ]
    refine tk 14 rfl (by kernel_rfl) (fun _ _ _ h => h) (by rfl) (fun w hSw => by (try dsimp only [Su] at hSw); go_simp; try (with_reducible rfl)) (by assumption) ?_
    refine tk 15 rfl (by kernel_rfl) (fun _ _ _ h => h) (by rfl) (fun w hSw => by (try dsimp only [Su] at hSw); go_simp; try (with_reducible rfl)) (by assumption) ?_
    simp only [Act.put, List.getElem_toArray, List.getElem_cons_zero, List.getElem_cons_succ, List.setIfInBounds_toArray, List.set_cons_zero, List.set_cons_succ]
    refine wpAnyH_ready (rs := [16]) (by kernel_rfl) (by simp) ?_
    refine AllReadyH.cons (o := _) rfl (fun K hK => ?_) AllReadyH.nil
    go_simp
    refine (CE.out _ _ _ (A8.out.step hHeld.1).le (X8.out.later hHeld.1).st (U8.out.later hHeld.1).st).mono ?_
    rintro e w13 ⟨rfl, d13⟩
    refine hK.out _ _ (HS.out _ (hHeld.1.trans (d13.mono hHeld.1.size))) (fun hHeld => ?_)
    clear hK K
    try simp only [Act.put, List.getElem_toArray, List.getElem_cons_zero, List.getElem_cons_succ, List.setIfInBounds_toArray, List.set_cons_zero, List.set_cons_succ]
    refine tk 17 rfl (by kernel_rfl) (fun _ _ _ h => h) (by rfl) (fun w hSw => by (try dsimp only [Su] at hSw); go_simp; try (with_reducible rfl)) (by assumption) ?_
    simp only [Act.put, List.getElem_toArray, List.getElem_cons_zero, List.getElem_cons_succ, List.setIfInBounds_toArray, List.set_cons_zero, List.set_cons_succ]
    refine tk 18 rfl (by kernel_rfl) (fun _ _ _ h => h) (by rfl) (fun w hSw => by (try dsimp only [Su] at hSw); go_simp; try (with_reducible rfl)) (by assumption) ?_
    simp only [Act.put, List.getElem_toArray, List.getElem_cons_zero, List.getElem_cons_succ, List.setIfInBounds_toArray, List.set_cons_zero, List.set_cons_succ]
    refine wpAnyH_done (by kernel_rfl) ?_ _
    clear HS
    go_wp2
    go_ret
    exact ⟨rfl, (A8.out.step hHeld.1).bw⟩
  · subst hbb
    clear KR HTP HPL
    have HS : Hid (∀ W, Below w6.heap.size w6 W → (fun W => Below w6.heap.size w6 W ∧ Su g1 q a n c W ∧ Su g2 r a2 m c2 W) W) := fun W d => ⟨d, Su.of (U6.out.later d), Su.of (X6.out.later d)⟩
    try go_wp2_with fail
    refine wp_region_held_drew (S := (fun W => Below w6.heap.size w6 W ∧ Su g1 q a n c W ∧ Su g2 r a2 m c2 W)) (by kernel_rfl) (HS.out _ ((Below.refl _ _).drew)) (fun hHeld => ?_)
    refine tk 0 rfl (by kernel_rfl) (fun _ _ _ h => h) (by rfl) (fun w hSw => by (try dsimp only [Su] at hSw); go_simp; try (with_reducible rfl)) (by assumption) ?_
    refine tk 1 rfl (by kernel_rfl) (fun _ _ _ h => h) (by rfl) (fun w hSw => by (try dsimp only [Su] at hSw); go_simp; try (with_reducible rfl)) (by assumption) ?_
    simp only [Act.put, List.getElem_toArray, List.getElem_cons_zero, List.getElem_cons_succ, List.setIfInBounds_toArray, List.set_cons_zero, List.set_cons_succ]
    refine wpAnyH_ready (rs := [2]) (by kernel_rfl) (by simp) ?_
    refine AllReadyH.cons (o := _) rfl (fun K hK => ?_) AllReadyH.nil
    go_simp
    refine (CS.out _ (U6.out.later hHeld.1).st).mono ?_
    rintro e w7 ⟨a7, c7, rfl, s7, d7⟩
    refine hK.out _ _ (HS.out _ (hHeld.1.trans (d7.mono hHeld.1.size))) (fun hHeld => ?_)
    clear hK K
    try simp only [Act.put, List.getElem_toArray, List.getElem_cons_zero, List.getElem_cons_succ, List.setIfInBounds_toArray, List.set_cons_zero, List.set_cons_succ]
    refine wpAnyH_ready (rs := [3]) (by kernel_rfl) (by simp) ?_
    refine AllReadyH.cons (o := _) rfl (fun K hK => ?_) AllReadyH.nil
    go_simp
    refine (CG.out _ _ _ _ _ (X6.out.later hHeld.1).st s7).mono ?_
    rintro e w8 ⟨rfl, d8⟩
    refine hK.out _ _ (HS.out _ (hHeld.1.trans (d8.mono hHeld.1.size))) (fun hHeld => ?_)
    clear hK K
    try simp only [Act.put, List.getElem_toArray, List.getElem_cons_zero, List.getElem_cons_succ, List.setIfInBounds_toArray, List.set_cons_zero, List.set_cons_succ]
    refine tk 4 rfl (by kernel_rfl) (fun _ _ _ h => h) (by rfl) (fun w hSw => by (try dsimp only [Su] at hSw); go_simp; try (with_reducible rfl)) (by assumption) ?_
    simp only [Act.put, List.getElem_toArray, List.getElem_cons_zero, List.getElem_cons_succ, List.setIfInBounds_toArray, List.set_cons_zero, List.set_cons_succ]
    refine wpAnyH_done (by kernel_rfl) ?_ _
    clear HS
    go_wp2
    go_ret
    exact ⟨rfl, (A6.out.step hHeld.1).bw⟩
end Go.Proofs.YticbekooadnnlaaGreatDoor
end

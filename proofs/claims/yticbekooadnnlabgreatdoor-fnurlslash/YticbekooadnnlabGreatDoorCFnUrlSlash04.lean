/- Plain facts: slashes of the other kind, blanks and line ends do not count. spec.UrlPut, impl.UrlPut, spec.PortOf, impl.PortOf: an address that is ok, written, and its port. The reader's pick answers a number from 0 on, below what it is asked for, and turns nothing but the reader's place. The reader's choice out of a list: one of the list's own, and nothing turns but the reader's place. -/
import Derived.Test.YticbekooadnnlabGreatDoorCFnUrlSlash03
import Derived.Test.YticbekooadnnlabGreatDoorB31
import Derived.Test.YticbekooadnnlabGreatDoorCFnUrlSlash01
section
set_option linter.unusedVariables false
set_option linter.unusedSimpArgs false
namespace Go.Proofs.YticbekooadnnlabGreatDoor
open Go.RowKit Go.Shelf

theorem stays_high (c : UInt8) (h : low32 c = false) : stays c = true := by
  unfold low32 at h
  have h1 := of_decide_eq_false h
  have n1 : c ≠ 13 := fun e => by rw [e] at h1; exact h1 (by decide)
  have n2 : c ≠ 10 := fun e => by rw [e] at h1; exact h1 (by decide)
  have n3 : c ≠ 9 := fun e => by rw [e] at h1; exact h1 (by decide)
  unfold stays
  simp [n1, n2, n3]
theorem dw_filter (l : List UInt8) : (l.filter stays).dropWhile low32 = (l.dropWhile low32).filter stays := by
  induction l with
  | nil => rfl
  | cons c r ih =>
    cases h : low32 c with
    | true =>
      rw [List.dropWhile_cons, if_pos h]
      cases hs : stays c with
      | true => rw [List.filter_cons_of_pos hs, List.dropWhile_cons, if_pos h, ih]
      | false => rw [List.filter_cons_of_neg (by rw [hs]; decide), ih]
    | false =>
      have hs := stays_high c h
      rw [List.dropWhile_cons, if_neg (by rw [h]; decide), List.filter_cons_of_pos hs, List.dropWhile_cons, if_neg (by rw [h]; decide)]
theorem trim_first (l : List UInt8) : trimL l = midL (dropT l) := by
  unfold trimL midL dropT
  rw [dw_filter, ← List.filter_reverse, dw_filter, ← List.filter_reverse]
theorem drop_app (a b : List UInt8) : dropT (a ++ b) = dropT a ++ dropT b := by unfold dropT; exact List.filter_append ..
/-- Blanks at both ends and a line end within. -/
theorem trim_space (a b : List UInt8) : trimL ([32, 9] ++ (a ++ ([10] ++ (b ++ [13, 32])))) = trimL (a ++ b) := by
  have e0 : [32, 9] ++ (a ++ ([10] ++ (b ++ [13, 32]))) = [32, 9] ++ ((a ++ ([10] ++ b)) ++ [13, 32]) := by simp
  have h1 : midL ([32, 9] ++ ((a ++ ([10] ++ b)) ++ [13, 32])) = midL (a ++ ([10] ++ b)) := by
    rw [mid_ahead _ _ (by decide), mid_behind _ _ (by decide)]
  have h2 : trimL ([32, 9] ++ (a ++ ([10] ++ (b ++ [13, 32])))) = trimL (a ++ ([10] ++ b)) := by
    rw [e0]
    show dropT (midL _) = dropT (midL _)
    rw [h1]
  rw [h2, trim_first, trim_first, drop_app, drop_app, drop_app]
  rfl
theorem get_space (a b : List UInt8) (h : (a ++ b).length ≤ 100) : getO ([32, 9] ++ (a ++ ([10] ++ (b ++ [13, 32])))) = getO (a ++ b) := by
  have hl : ([32, 9] ++ (a ++ ([10] ++ (b ++ [13, 32])))).length = (a ++ b).length + 5 := by simp; omega
  unfold getO
  rw [if_pos (by omega), if_pos (by omega), trim_space]

theorem turn_len (l : List UInt8) : (turnL 47 92 l).length = l.length := turnL_len _ _ _
theorem path_turn (l : List UInt8) : pathL (turnL 47 92 l) = pathL l := by
  unfold pathL
  rw [turn_len]
  unfold piecesL
  rw [slash_turn]
theorem turn_mem (l : List UInt8) (c : UInt8) (h : c ∈ turnL 47 92 l) : c = 92 ∨ c ∈ l := by
  unfold turnL at h
  rw [List.mem_map] at h
  obtain ⟨d, hd, e⟩ := h
  by_cases hx : d = 47
  · rw [if_pos hx] at e; exact .inl e.symm
  · rw [if_neg hx] at e; rw [← e]; exact .inr hd
/-- An address with each slash ahead of its tail the other way is read as itself. -/
theorem slash_read (q : P) (h : okP q) (h0 : 0 ≤ ownZ q.sc) : getO (turnS (writL q)) = some q := by
  have hk := h
  rw [ok_iff] at hk
  obtain ⟨hn, hl, hp⟩ := hk
  obtain ⟨m1, m2, m3⟩ := main_len q
  rcases hn.main with ⟨hx, _⟩ | ⟨_, g1, hu, hw, hh, hpo, hne, hfx⟩
  · omega
  have em : mainL q = 47 :: 47 :: (autL q ++ putL q.ps) := by unfold mainL; rw [if_pos h0]; rfl
  have ha := aut_facts q hu hw hh
  have hth : tailL q = [] ∨ ∃ c r, tailL q = c :: r ∧ among [63, 35] c = true := by
    rcases tail_head q with h | ⟨c, r, h, hc⟩
    · exact .inl h
    · exact .inr ⟨c, r, h, by rcases hc with rfl | rfl <;> decide⟩
  have hscB : ∀ c ∈ q.sc.data.toList, c ≠ 47 ∧ c ≠ 63 ∧ c ≠ 35 := by
    have key : ∀ n : _root_.Fin 256, schB (UInt8.ofNat n.val) = true → UInt8.ofNat n.val ≠ 47 ∧ UInt8.ofNat n.val ≠ 63 ∧ UInt8.ofNat n.val ≠ 35 := by decide +kernel
    intro c hc
    have := key ⟨c.toNat, c.toNat_lt⟩
    simp only [UInt8.ofNat_toNat] at this
    exact this (sch_bytes _ hn.sch c hc)
  obtain ⟨H, hH⟩ : ∃ H, H = q.sc.data.toList ++ 58 :: 47 :: 47 :: (autL q ++ putL q.ps) := ⟨_, rfl⟩
  have ew : writL q = H ++ tailL q := by rw [hH]; unfold writL; rw [em]; simp
  have hHb : ∀ d ∈ H, among [63, 35] d = false := by
    intro d hd
    rw [hH] at hd
    simp only [List.mem_append, List.mem_cons] at hd
    rcases hd with hd | rfl | rfl | rfl | hd | hd
    · exact among2 d (hscB d hd).2.1 (hscB d hd).2.2
    · decide
    · decide
    · decide
    · exact among2 d (ha d hd).2.2.2.1 (ha d hd).2.2.2.2
    · exact among2 d (put_facts q.ps hfx d hd).2.1 (put_facts q.ps hfx d hd).2.2
  have eu : upL [63, 35] (writL q) = H := by rw [ew]; exact up_tail _ _ _ hHb hth
  have et : turnS (writL q) = q.sc.data.toList ++ 58 :: 92 :: 92 :: (autL q ++ (turnL 47 92 (putL q.ps) ++ tailL q)) := by
    unfold turnS
    rw [eu]
    conv => lhs; rw [ew]
    rw [List.drop_left, hH, turn_app, turn_same _ (fun c hc => (hscB c hc).1)]
    have e5 : turnL 47 92 (58 :: 47 :: 47 :: (autL q ++ putL q.ps)) = 58 :: 92 :: 92 :: turnL 47 92 (autL q ++ putL q.ps) := rfl
    rw [e5, turn_app, turn_same (autL q) (fun c hc => (ha c hc).2.1)]
    simp
  have hlen : (turnS (writL q)).length = (writL q).length := by
    unfold turnS
    rw [List.length_append, turn_len]
    exact up_len_add _ _
  have hvis : ∀ c ∈ turnS (writL q), 33 ≤ c.toNat := by
    intro c hc
    unfold turnS at hc
    rcases List.mem_append.1 hc with hc | hc
    · rcases turn_mem _ c hc with rfl | hc
      · decide
      · rw [eu] at hc
        exact writ_vis q hn c (by rw [ew]; exact List.mem_append_left _ hc)
    · exact writ_vis q hn c (List.mem_of_mem_drop hc)
  have hs : schP P.zero (turnS (writL q)) = some q := by
    rw [et]
    have e1 : upL [58] (q.sc.data.toList ++ 58 :: 92 :: 92 :: (autL q ++ (turnL 47 92 (putL q.ps) ++ tailL q))) = q.sc.data.toList := by
      refine up_hit _ _ _ 58 (fun d hd => ?_) (by decide)
      have := (schB_facts d (sch_bytes _ hn.sch d hd)).2.2
      rw [among_one]; simpa using this
    have e4 : low q.sc.data.toList = q.sc.data.toList := low_same _ (fun c hc => (schB_facts c (sch_bytes _ hn.sch c hc)).1)
    unfold schP
    rw [e1, List.drop_left, e4, mk_list, if_pos ⟨rfl, hn.sch⟩, if_pos h0]
    rw [← List.drop_drop, List.drop_left]
    show slaP _ (92 :: 92 :: (autL q ++ (turnL 47 92 (putL q.ps) ++ tailL q))) = some q
    have hane : autL q ≠ [] := by
      unfold autL
      intro e
      simp only [List.append_eq_nil_iff] at e
      exact (host_back _ _ _ hh).2.2.2.2.1 e.2.2.2.1
    obtain ⟨c, r, hcr⟩ : ∃ c r, autL q = c :: r := by
      cases hx : autL q with
      | nil => exact absurd hx hane
      | cons c r => exact ⟨c, r, rfl⟩
    have hc := ha c (by rw [hcr]; exact List.mem_cons_self ..)
    have es : (92 :: 92 :: (autL q ++ (turnL 47 92 (putL q.ps) ++ tailL q))).dropWhile (among [47, 92]) = autL q ++ (turnL 47 92 (putL q.ps) ++ tailL q) := by
      rw [List.dropWhile_cons, if_pos (by decide), List.dropWhile_cons, if_pos (by decide), hcr, List.cons_append, List.dropWhile_cons, if_neg (by rw [amongS c hc.2.1 hc.2.2.1]; decide)]
    obtain ⟨p0, ps, hps⟩ : ∃ p0 ps, q.ps = p0 :: ps := by
      cases hx : q.ps with
      | nil => exact absurd hx hne
      | cons p0 ps => exact ⟨p0, ps, rfl⟩
    have eh : upL [47, 92, 63, 35] (autL q ++ (turnL 47 92 (putL q.ps) ++ tailL q)) = autL q := by
      refine up_tail _ _ _ (fun d hd => among4 d (ha d hd).2.1 (ha d hd).2.2.1 (ha d hd).2.2.2.1 (ha d hd).2.2.2.2) (.inr ⟨92, turnL 47 92 (p0 ++ putL ps) ++ tailL q, ?_, by decide⟩)
      rw [hps]; simp [putL, turnL]
    have ep : upL [63, 35] (turnL 47 92 (putL q.ps) ++ tailL q) = turnL 47 92 (putL q.ps) := by
      refine up_tail _ _ _ (fun d hd => ?_) hth
      rcases turn_mem _ d hd with rfl | hd
      · decide
      · exact among2 d (put_facts q.ps hfx d hd).2.1 (put_facts q.ps hfx d hd).2.2
    unfold slaP hosP
    rw [es, eh, List.drop_left]
    have har := aut_read ({ P.zero with sc := q.sc, po := -1 }) q rfl rfl rfl hu hw hh hpo (by have := (m2 h0).1; omega)
    rw [har]
    show some (patP _ _) = _
    unfold patP
    rw [ep, List.drop_left, path_turn, path_put q.ps hne hfx (by have := (m2 h0).2; omega)]
    rw [tail_read _ q rfl rfl rfl rfl hn.que hn.frg (by omega)]
    congr 1
    cases q
    simp_all [P.zero]
  unfold getO
  rw [if_pos (by omega), trim_vis _ hvis, hs]
  show (if q.ps.length ≤ 12 ∧ (writL q).length ≤ 600 then some q else none) = some q
  rw [if_pos ⟨hp, by omega⟩]
end Go.Proofs.YticbekooadnnlabGreatDoor
end

section
set_option linter.unusedVariables false
set_option linter.unusedSimpArgs false
namespace Go.Proofs.YticbekooadnnlabGreatDoor
open Go.RowKit Go.Shelf

set_option maxHeartbeats 4000000 in
set_option maxRecDepth 100000 in
theorem specUrlPut (q : P) (a : Option Addr) (n c : Nat) (w : World) (hS : StrsOf a n q.ps w) (hs : q.tot ≤ 1048576) (hpo : q.po ≤ 9223372036854775807) (b : Bool) (hb : b = true ↔ okP q) :
    Calls Tryz.prog 7 #[.agg (q.cells (.slice a n c))] w fun e w' => e = .returned (.string (if b = true then mk (writL q) else ⟨#[]⟩)) ∧ Below w.heap.size w w' := by
  have hn : n = q.ps.length := hS.1
  have H0 : Hid (Wp w q (.slice a n c) (w.alloc (.cells #[(.string q.sc), (.string q.us), (.string q.pw), (.int .i64 q.hk), (.string q.hn), (.int .i64 q.ha), (.int .i64 q.po), (.slice a n c), (.string q.op), (.bool q.hq), (.string q.qu), (.bool q.hf), (.string q.fr)] 27))) := Wp.start w q _
  have CO : Hid (∀ W, Below w.heap.size w W → Calls Tryz.prog 16 #[.agg #[(.string q.sc), (.string q.us), (.string q.pw), (.int .i64 q.hk), (.string q.hn), (.int .i64 q.ha), (.int .i64 q.po), (.slice a n c), (.string q.op), (.bool q.hq), (.string q.qu), (.bool q.hf), (.string q.fr)]] W fun e w' => e = .returned (.bool b) ∧ Below W.heap.size W w') := fun W d => specUrlOk q a n c W (hS.later d) hs hpo b hb
  have CP : Hid (∀ W, Below w.heap.size w W → Calls Tryz.prog 17 #[.agg #[(.string q.sc), (.string q.us), (.string q.pw), (.int .i64 q.hk), (.string q.hn), (.int .i64 q.ha), (.int .i64 q.po), (.slice a n c), (.string q.op), (.bool q.hq), (.string q.qu), (.bool q.hf), (.string q.fr)]] W fun e w' => e = .returned (.string (mk (writL q))) ∧ Below W.heap.size W w') := fun W d => by
    rw [hn]
    exact l3Put q a c W (by rw [← hn]; exact hS.later d) (by omega) hpo (fun h W => l1DecL q.po W h hpo)
  clear hS hs hpo hb hn
  unfold P.cells
  cases b with
  | false =>
    rw [if_neg (by decide)]
    go_enter Tryz.func7, Tryz.ntmps7
    go_wp2_with fail
    refine (CO.out _ H0.out.bw).mono ?_
    rintro e W1 ⟨rfl, d1⟩
    have HX1 : Hid (Wp w q (.slice a n c) W1) := H0.out.later d1
    go_wp2
    go_ret
    exact ⟨rfl, HX1.out.bw⟩
  | true =>
    rw [if_pos rfl]
    go_enter Tryz.func7, Tryz.ntmps7
    go_wp2_with fail
    refine (CO.out _ H0.out.bw).mono ?_
    rintro e W1 ⟨rfl, d1⟩
    have HX1 : Hid (Wp w q (.slice a n c) W1) := H0.out.later d1
    clear d1 H0 CO
    obtain ⟨k0, k1, k2, k3, k4, k5, k6, k7, k8, k9, k10, k11, k12⟩ := Blk.cells13 (q := q) HX1.out.bx
    go_wp2_with fail
    refine (CP.out _ HX1.out.bw).mono ?_
    rintro e W2 ⟨rfl, d2⟩
    have HX2 : Hid (Below w.heap.size w W2) := HX1.out.bw.trans (d2.mono HX1.out.bw.size)
    go_wp2
    go_ret
    exact ⟨rfl, HX2.out⟩
set_option maxHeartbeats 4000000 in
set_option maxRecDepth 100000 in
theorem implUrlPut (q : P) (a : Option Addr) (n c : Nat) (w : World) (hL : Lean1 w) (hS : StrsOf a n q.ps w) (hs : q.tot ≤ 1048576) (hpo : q.po ≤ 9223372036854775807) (b : Bool) (hb : b = true ↔ okP q) :
    Calls Tryz.prog 6 #[.agg (q.cells (.slice a n c))] w fun e w' => e = .returned (.string (if b = true then mk (writL q) else ⟨#[]⟩)) ∧ Below w.heap.size w w' := by
  have hn : n = q.ps.length := hS.1
  have H0 : Hid (Wp w q (.slice a n c) (w.alloc (.cells #[(.string q.sc), (.string q.us), (.string q.pw), (.int .i64 q.hk), (.string q.hn), (.int .i64 q.ha), (.int .i64 q.po), (.slice a n c), (.string q.op), (.bool q.hq), (.string q.qu), (.bool q.hf), (.string q.fr)] 27))) := Wp.start w q _
  have CO : Hid (∀ W, Below w.heap.size w W → Calls Tryz.prog 11 #[.agg #[(.string q.sc), (.string q.us), (.string q.pw), (.int .i64 q.hk), (.string q.hn), (.int .i64 q.ha), (.int .i64 q.po), (.slice a n c), (.string q.op), (.bool q.hq), (.string q.qu), (.bool q.hf), (.string q.fr)]] W fun e w' => e = .returned (.bool b) ∧ Below W.heap.size W w') := fun W d => implUrlOk q a n c W (hL.below d) (hS.later d) hs hpo b hb
  have CP : Hid (∀ W, Below w.heap.size w W → Calls Tryz.prog 15 #[.agg #[(.string q.sc), (.string q.us), (.string q.pw), (.int .i64 q.hk), (.string q.hn), (.int .i64 q.ha), (.int .i64 q.po), (.slice a n c), (.string q.op), (.bool q.hq), (.string q.qu), (.bool q.hf), (.string q.fr)]] W fun e w' => e = .returned (.string (mk (writL q))) ∧ Below W.heap.size W w') := fun W d => by
    rw [hn]
    exact urlWrite q a c W (hL.below d).base (by rw [← hn]; exact hS.later d) (by omega) hpo
  clear hS hs hpo hb hn hL
  unfold P.cells
  cases b with
  | false =>
    rw [if_neg (by decide)]
    go_enter Tryz.func6, Tryz.ntmps6
    go_wp2_with fail
    refine (CO.out _ H0.out.bw).mono ?_
    rintro e W1 ⟨rfl, d1⟩
    have HX1 : Hid (Wp w q (.slice a n c) W1) := H0.out.later d1
    go_wp2
    go_ret
    exact ⟨rfl, HX1.out.bw⟩
  | true =>
    rw [if_pos rfl]
    go_enter Tryz.func6, Tryz.ntmps6
    go_wp2_with fail
    refine (CO.out _ H0.out.bw).mono ?_
    rintro e W1 ⟨rfl, d1⟩
    have HX1 : Hid (Wp w q (.slice a n c) W1) := H0.out.later d1
    clear d1 H0 CO
    obtain ⟨k0, k1, k2, k3, k4, k5, k6, k7, k8, k9, k10, k11, k12⟩ := Blk.cells13 (q := q) HX1.out.bx
    go_wp2_with fail
    refine (CP.out _ HX1.out.bw).mono ?_
    rintro e W2 ⟨rfl, d2⟩
    have HX2 : Hid (Below w.heap.size w W2) := HX1.out.bw.trans (d2.mono HX1.out.bw.size)
    go_wp2
    go_ret
    exact ⟨rfl, HX2.out⟩
set_option maxHeartbeats 4000000 in
set_option maxRecDepth 100000 in
theorem implPortOf (q : P) (a : Option Addr) (n c : Nat) (w : World) (hL : Lean1 w) (hS : StrsOf a n q.ps w) (hs : q.tot ≤ 1048576) (hpo : q.po ≤ 9223372036854775807) (b : Bool) (hb : b = true ↔ okP q) :
    Calls Tryz.prog 8 #[.agg (q.cells (.slice a n c))] w fun e w' => e = .returned (.int .i64 (if b = true then (if q.po < 0 then ownZ q.sc else q.po) else -1)) ∧ Below w.heap.size w w' := by
  have hn : n = q.ps.length := hS.1
  have H0 : Hid (Wp w q (.slice a n c) (w.alloc (.cells #[(.string q.sc), (.string q.us), (.string q.pw), (.int .i64 q.hk), (.string q.hn), (.int .i64 q.ha), (.int .i64 q.po), (.slice a n c), (.string q.op), (.bool q.hq), (.string q.qu), (.bool q.hf), (.string q.fr)] 27))) := Wp.start w q _
  have CO : Hid (∀ W, Below w.heap.size w W → Calls Tryz.prog 11 #[.agg #[(.string q.sc), (.string q.us), (.string q.pw), (.int .i64 q.hk), (.string q.hn), (.int .i64 q.ha), (.int .i64 q.po), (.slice a n c), (.string q.op), (.bool q.hq), (.string q.qu), (.bool q.hf), (.string q.fr)]] W fun e w' => e = .returned (.bool b) ∧ Below W.heap.size W w') := fun W d => implUrlOk q a n c W (hL.below d) (hS.later d) hs hpo b hb
  have CP : Hid (∀ W, Calls Tryz.prog 18 #[.string q.sc] W fun e w' => e = .returned (.int .i64 (ownZ q.sc)) ∧ w' = W) := fun W => schemePort q.sc W
  clear hS hs hpo hb hn hL
  unfold P.cells
  cases b with
  | false =>
    rw [if_neg (by decide)]
    go_enter Tryz.func8, Tryz.ntmps8
    go_wp2_with fail
    refine (CO.out _ H0.out.bw).mono ?_
    rintro e W1 ⟨rfl, d1⟩
    have HX1 : Hid (Wp w q (.slice a n c) W1) := H0.out.later d1
    go_wp2
    go_ret
    exact ⟨rfl, HX1.out.bw⟩
  | true =>
    rw [if_pos rfl]
    by_cases hp : q.po < 0
    · rw [if_pos hp]
      go_enter Tryz.func8, Tryz.ntmps8
      go_wp2_with fail
      refine (CO.out _ H0.out.bw).mono ?_
      rintro e W1 ⟨rfl, d1⟩
      have HX1 : Hid (Wp w q (.slice a n c) W1) := H0.out.later d1
      clear d1 H0 CO
      obtain ⟨k0, k1, k2, k3, k4, k5, k6, k7, k8, k9, k10, k11, k12⟩ := Blk.cells13 (q := q) HX1.out.bx
      go_wp2_with fail
      refine (CP.out _).mono ?_
      rintro e W2 ⟨rfl, hW⟩
      have hW2 := hW.symm
      subst hW2
      go_wp2
      go_ret
      exact ⟨rfl, HX1.out.bw⟩
    · rw [if_neg hp]
      go_enter Tryz.func8, Tryz.ntmps8
      go_wp2_with fail
      refine (CO.out _ H0.out.bw).mono ?_
      rintro e W1 ⟨rfl, d1⟩
      have HX1 : Hid (Wp w q (.slice a n c) W1) := H0.out.later d1
      clear d1 H0 CO
      obtain ⟨k0, k1, k2, k3, k4, k5, k6, k7, k8, k9, k10, k11, k12⟩ := Blk.cells13 (q := q) HX1.out.bx
      go_wp2
      go_ret
      exact ⟨rfl, HX1.out.bw⟩
end Go.Proofs.YticbekooadnnlabGreatDoor
end

section
set_option linter.unusedVariables false
namespace Go.Proofs.YticbekooadnnlabGreatDoor
open Go.RowKit Go.Shelf

set_option maxHeartbeats 2000000 in
set_option maxRecDepth 100000 in
theorem pick (B r p : Nat) (n : Int) (w : World) (hn : 1 ≤ n) (hn2 : n ≤ 1000000) (hp : p ≤ 1000000) (h : Rd B r p w) :
    Calls Tryz.prog 26 #[.pointer (some ⟨r, 0, none⟩), .int .i64 n] w fun e w' => ∃ v : Int, e = .returned (.int .i64 v) ∧ 0 ≤ v ∧ v < n ∧ Rd B r (p + 1) w' ∧ w.grownBy w' (some r) := by
  have hput := h.put (p + 1)
  have hgr := setCell_grown w r 1 (.int .i64 ((p + 1 : Nat) : Int))
  rw [show ((p + 1 : Nat) : Int) = (p : Int) + 1 from by omega] at hput hgr
  have HP : Hid (Rd B r (p + 1) (w.setCell ⟨r, 1, none⟩ (.int .i64 ((p : Int) + 1)))) := hput
  have HG : Hid (w.grownBy (w.setCell ⟨r, 1, none⟩ (.int .i64 ((p : Int) + 1))) (some r)) := hgr
  clear hput hgr
  obtain ⟨hB, a, len, cap, z, hr, hl, hc⟩ := h
  have c0 : w.cell? ⟨r, 0, none⟩ = some (.slice a len cap) := by rw [Lib.cell_of_heap hr]; rfl
  have c1 : w.cell? ⟨r, 1, none⟩ = some (.int .i64 (p : Int)) := by rw [Lib.cell_of_heap hr]; rfl
  have f1 : w.frozen? ⟨r, 1, none⟩ = false := Lib.frozen_of_heap hr 1
  have hk1 : (p : Int) + 1 - 1 = (p : Int) := by omega
  have hpi : (p : Int) ≤ 1000000 := by omega
  clear hr
  by_cases h0 : len = 0
  · subst h0
    go_enter Tryz.func26, Tryz.ntmps26
    go_wp2
    go_ret
    exact ⟨0, rfl, by omega, by omega, HP.out, HG.out⟩
  · rcases hc with hc | ⟨b, off, rfl, hbB, hc⟩
    · exact absurd hc h0
    have hbr : b ≠ r := by omega
    have hl0 : (0 : Int) < (len : Int) := by omega
    have hl1 : ((len : Int) == 0) = false := by rw [beq_eq_false_iff_ne]; omega
    by_cases hlt : p < len
    · have hlti : (p : Int) < (len : Int) := by omega
      obtain ⟨hcell, hz0, hz1⟩ := hc p hlt
      clear hc
      go_enter Tryz.func26, Tryz.ntmps26
      go_wp2
      go_ret
      exact ⟨z p % n, rfl, Int.emod_nonneg _ (by omega), Int.emod_lt_of_pos _ (by omega), HP.out, HG.out⟩
    · have hlti : ¬ ((p : Int) < (len : Int)) := by omega
      have hlne : ¬ ((len : Int) = 0) := by omega
      obtain ⟨q1, hq1, hq1l⟩ : ∃ q : Nat, (p : Int) % (len : Int) = (q : Int) ∧ q < len := ⟨p % len, by omega, Nat.mod_lt _ (by omega)⟩
      obtain ⟨q2, hq2, hq2l⟩ : ∃ q : Nat, ((p : Int) * 7 + 3) % (len : Int) = (q : Int) ∧ q < len := ⟨(p * 7 + 3) % len, by simp, Nat.mod_lt _ (by omega)⟩
      obtain ⟨hcell1, hz0, hz1⟩ := hc q1 hq1l
      obtain ⟨hcell2, hy0, hy1⟩ := hc q2 hq2l
      have hw7 : IntKind.i64.wrap ((p : Int) * 7) = (p : Int) * 7 := by rw [IntKind.wrap_i64]; omega
      have hw73 : IntKind.i64.wrap ((p : Int) * 7 + 3) = (p : Int) * 7 + 3 := by rw [IntKind.wrap_i64]; omega
      obtain ⟨q3, hq3, hq3l⟩ : ∃ q : Nat, (p : Int) / (len : Int) = (q : Int) ∧ (q : Int) ≤ 1000000 := ⟨p / len, by simp, by have := Nat.div_le_self p len; omega⟩
      obtain ⟨x, hx, hxl⟩ := i64_xor_range (z q1 * 131 + z q2 * 1117 + (p : Int) * 29 + (q3 : Int) * 53) ((z q1 * 131 + z q2 * 1117 + (p : Int) * 29 + (q3 : Int) * 53) / 64) (by omega) (by omega) (by omega) (by omega)
      have hq1i : (q1 : Int) < (len : Int) := by omega
      have hq2i : (q2 : Int) < (len : Int) := by omega
      clear hc
      go_enter Tryz.func26, Tryz.ntmps26
      go_wp2
      go_quiet (fail)
      go_wp2
      go_ret
      exact ⟨(x : Int) % n, rfl, Int.emod_nonneg _ (by omega), Int.emod_lt_of_pos _ (by omega), HP.out, grown_drewN HG.out _⟩
end Go.Proofs.YticbekooadnnlabGreatDoor
end

section
set_option linter.unusedVariables false
namespace Go.Proofs.YticbekooadnnlabGreatDoor
open Go.RowKit Go.Shelf

set_option maxHeartbeats 1000000 in
set_option maxRecDepth 100000 in
theorem rdOf (B r p g c : Nat) (xs : List ByteArray) (t : TypeId) (fr : Nat × Nat) (A : Array Value) (w : World) (hA : A.toList = xs.map Value.string) (hg : w.heap[g]? = some (.cells A t fr)) (hgr : g ≠ r) (h1 : 1 ≤ xs.length) (hx : xs.length ≤ 1000000) (hp : p ≤ 1000000) (h : Rd B r p w) :
    Calls Tryz.prog 27 #[.pointer (some ⟨r, 0, none⟩), .slice (some ⟨g, 0, none⟩) xs.length c] w fun e w' => ∃ x, x ∈ xs ∧ e = .returned (Value.string x) ∧ Rd B r (p + 1) w' ∧ w.grownBy w' (some r) := by
  go_enter Tryz.func27, Tryz.ntmps27
  go_wp2_with fail
  refine (pick B r p _ _ (by omega) (by omega) hp h).mono ?_
  rintro e w1 ⟨v, rfl, hv0, hv1, hr1, hg1⟩
  obtain ⟨j, rfl⟩ := Int.eq_ofNat_of_zero_le hv0
  have hj : j < xs.length := by omega
  have hcell : w1.cell? ⟨g, j, none⟩ = some (Value.string xs[j]) := by
    have hh : w1.heap[g]? = some (.cells A t fr) := (hg1.block g (Array.getElem?_eq_some_iff.1 hg).1 (by simp [hgr])).trans hg
    rw [Lib.cell_of_heap hh, ← Array.getElem?_toList, hA]
    simp [hj]
  go_wp2
  go_ret
  exact ⟨xs[j], List.getElem_mem hj, rfl, hr1, hg1⟩

end Go.Proofs.YticbekooadnnlabGreatDoor
end

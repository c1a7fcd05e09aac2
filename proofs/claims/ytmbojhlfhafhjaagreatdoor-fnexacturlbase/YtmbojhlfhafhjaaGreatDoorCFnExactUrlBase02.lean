/- Marking texts, and all other memory as it was: laws.markStringS, laws.markUrl. The law FnExactUrlBase answers true, whatever the address. -/
import Derived.Test.YtmbojhlfhafhjaaGreatDoorB22
import Derived.Test.YtmbojhlfhafhjaaGreatDoorCFnExactUrlBase01
import Derived.Test.YtmbojhlfhafhjaaGreatDoorB24
import Derived.Test.YtmbojhlfhafhjaaGreatDoorB23
import Derived.Deep.Cut
section
set_option linter.unusedVariables false
set_option linter.unusedSimpArgs false
namespace Go.Proofs.YtmbojhlfhafhjaaGreatDoor
open Go.RowKit Go.Shelf

/-- All blocks but a row's own are as they were. -/
structure Kp (a : Option Addr) (w w' : World) : Prop where
  make ::
  size : w.heap.size ≤ w'.heap.size
  block : ∀ k, k < w.heap.size → (∀ g, a = some ⟨g, 0, none⟩ → k ≠ g) → w'.heap[k]? = w.heap[k]?
theorem Kp.refl (a : Option Addr) (w : World) : Kp a w w := ⟨Nat.le_refl _, fun _ _ _ => rfl⟩
theorem Kp.below {a : Option Addr} {w w1 w2 : World} (h : Kp a w w1) (d : Below w1.heap.size w1 w2) : Kp a w w2 :=
  ⟨Nat.le_trans h.size d.size, fun k hk hn => (d.block k (Nat.lt_of_lt_of_le hk h.size)).trans (h.block k hk hn)⟩
theorem Kp.ahead {a : Option Addr} {w w1 w2 : World} (d : Below w.heap.size w w1) (h : Kp a w1 w2) : Kp a w w2 :=
  ⟨Nat.le_trans d.size h.size, fun k hk hn => (h.block k (Nat.lt_of_lt_of_le hk d.size) hn).trans (d.block k hk)⟩
theorem Kp.put {w w1 : World} {g : Nat} (h : Kp (some ⟨g, 0, none⟩) w w1) (j : Nat) (v : Value) : Kp (some ⟨g, 0, none⟩) w (w1.setCell ⟨g, j, none⟩ v) :=
  ⟨by have := h.size; simpa [World.setCell] using this, fun k hk hn => (heap_other w1 g j k v (hn g rfl)).trans (h.block k hk hn)⟩
theorem Kp.blk {a : Option Addr} {w w' : World} {k : Nat} {A : Array Value} {t : TypeId} (h : Kp a w w') (b : Blk k A t w) (hn : ∀ g, a = some ⟨g, 0, none⟩ → k ≠ g) : Blk k A t w' := (h.block k b.lt hn).trans b
theorem cell_same {w w' : World} {p : Addr} (h : w'.heap[p.block]? = w.heap[p.block]?) : w'.cell? p = w.cell? p := by
  unfold World.cell?
  rw [h]
theorem Kp.strs {a a1 : Option Addr} {n : Nat} {ss : List (List UInt8)} {w w' : World} (h : Kp a w w') (s : StrsOf a1 n ss w) (hn : ∀ g b off, a = some ⟨g, 0, none⟩ → a1 = some ⟨b, off, none⟩ → b ≠ g) : StrsOf a1 n ss w' := by
  refine ⟨s.1, ?_⟩
  rcases s.2 with h1 | ⟨b, off, rfl, hc⟩
  · exact .inl h1
  · refine .inr ⟨b, off, rfl, fun j hj => ?_⟩
    have hin := cell_in (hc j hj)
    exact (cell_same (p := ⟨b, off + j, none⟩) (h.block b hin (fun g e => hn g b off e rfl))).trans (hc j hj)
theorem Kp.own {a : Option Addr} {B : Nat} {v : Value} {ss : List (List UInt8)} {w w' : World} (h : Kp a w w') (o : OwnS B v ss w) (hn : ∀ g b n c, a = some ⟨g, 0, none⟩ → v = .slice (some ⟨b, 0, none⟩) n c → b ≠ g) : OwnS B v ss w' := by
  refine ⟨o.1, ?_⟩
  rcases o.2 with h1 | ⟨b, cap, cur, hv, hb, hg, rest⟩
  · exact .inl h1
  · refine .inr ⟨b, cap, cur, hv, hb, ?_, rest⟩
    have hlt : b < w.heap.size := by
      rcases Nat.lt_or_ge b w.heap.size with h1 | h1
      · exact h1
      · rw [Array.getElem?_eq_none h1] at hg; cases hg
    exact (h.block b hlt (fun g e => hn g b _ _ e hv)).trans hg

set_option maxHeartbeats 1000000 in
set_option maxRecDepth 100000 in
theorem markStringN (B : Nat) (a : Option Addr) (n c : Nat) (ps : List (List UInt8)) (k : Nat) (w : World) (h : OwnS B (.slice a n c) ps w) (hn : n = ps.length) (hB : B ≤ w.heap.size) (hk : 1 ≤ k) (hk2 : k ≤ 2000000) (hl : ps.length ≤ 1100000) :
    Calls Tryz.prog 37 #[.slice a n c, .int .i64 k] w fun e w' => e = .returned (.int .i64 ((k + n : Nat) : Int)) ∧ OwnS B (.slice a n c) (markTs k n) w' ∧ Below B w w' ∧ Kp a w w' := by
  subst hn
  go_enter Tryz.func37, Tryz.ntmps37
  go_wp2
  go_loopw [1, 5] (fun q i wr => ∃ j : Nat, j ≤ ps.length ∧ i = .int .i64 j ∧ q = .int .i64 ((k + j : Nat) : Int) ∧ OwnS B (.slice a ps.length c) (markTs k j ++ ps.drop j) wr ∧ Below B w wr ∧ Hid (Kp a w wr)) (fun _ i wr => ps.length - (intOf i).toNat)
  case atStart => exact ⟨0, Nat.zero_le _, rfl, rfl, h, Below.refl _ _, Kp.refl _ _⟩
  case round =>
    obtain ⟨j, hj, rfl, rfl, hI, hbw, hkb⟩ := hrel
    have hsz : B ≤ wr.heap.size := Nat.le_trans hB hbw.size
    by_cases hp : j < ps.length
    · have hji : (j : Int) < (ps.length : Int) := by omega
      have hlen : (markTs k j ++ ps.drop j).length = ps.length := by rw [List.length_append, markTs_len, List.length_drop]; omega
      have hne : ps ≠ [] := by intro e; rw [e] at hp; simp at hp
      obtain ⟨g, rfl⟩ : ∃ g, a = some ⟨g, 0, none⟩ := by
        obtain ⟨g, c', hv, _⟩ := ownS_strs h hne
        simp only [Value.slice.injEq] at hv
        exact ⟨g, hv.1⟩
      go_wp2_with fail
      refine (markText (k + j) _ (by omega) (by omega)).mono ?_
      rintro e W1 ⟨rfl, d1⟩
      have hI1 := hI.later d1
      have HKB : Hid (Kp (some ⟨g, 0, none⟩) w (W1.setCell ⟨g, j, none⟩ (.string (mk (markT (k + j)))))) := (hkb.out.below d1).put j _
      obtain ⟨⟨u, hu⟩, hf, hgB⟩ := hI1.lay j (by omega)
      have HS : Hid (OwnS B (.slice (some ⟨g, 0, none⟩) ps.length c) (markTs k (j + 1) ++ ps.drop (j + 1)) (W1.setCell ⟨g, j, none⟩ (.string (mk (markT (k + j)))))) := by
        rw [← set_marks k j ps hp]; exact hI1.set j _ (by omega)
      have hb1 := hbw.trans (d1.mono hsz)
      clear hI hI1 hkb
      go_wp2
      go_roundw
      case rel => exact ⟨j + 1, by omega, by go_num, by congr 1, HS.out, hb1.setCell (p := ⟨g, j, none⟩) hgB _, HKB⟩
      case measure => simp [intOf]; omega
    · have hkk : j = ps.length := by omega
      subst hkk
      rw [List.drop_length, List.append_nil] at hI
      go_wp2
      go_ret
      exact ⟨rfl, hI, hbw, hkb.out⟩

set_option maxHeartbeats 4000000 in
set_option maxRecDepth 100000 in
theorem markUrlN (B : Nat) (q : P) (a : Option Addr) (n c k : Nat) (w : World) (hn : n = q.ps.length) (h : OwnS B (.slice a n c) q.ps w) (hB : B ≤ w.heap.size) (hk : 1 ≤ k) (hk2 : k ≤ 2000000) (hl : n ≤ 1100000) :
    Calls Tryz.prog 12 #[.agg (q.cells (.slice a n c)), .int .i64 k] w fun e w' => e = .returned (.int .i64 ((k + n : Nat) : Int)) ∧ OwnS B (.slice a n c) (markTs k n) w' ∧ Below B w w' ∧ Kp a w w' := by
  have H0 : Hid (Wp w q (.slice a n c) (w.alloc (.cells (q.cells (.slice a n c)) 26))) := Wp.start w q _
  have CM : Hid (∀ W, Below w.heap.size w W → Calls Tryz.prog 37 #[.slice a n c, .int .i64 k] W fun e w' => e = .returned (.int .i64 ((k + n : Nat) : Int)) ∧ OwnS B (.slice a n c) (markTs k n) w' ∧ Below B W w' ∧ Kp a W w') := fun W d => 
    markStringN B a n c q.ps k W (h.later d) hn (by have := d.size; omega) hk hk2 (by omega)
  have HB : Hid (B ≤ w.heap.size) := hB
  clear h hn hB hl
  unfold P.cells at H0 ⊢
  go_enter Tryz.func12, Tryz.ntmps12
  go_wp2_with fail
  refine (CM.out _ H0.out.bw).mono ?_
  rintro e W1 ⟨rfl, o1, d1, k1⟩
  have HK : Hid (Kp a w W1) := Kp.ahead H0.out.bw k1
  have HO : Hid (OwnS B (.slice a n c) (markTs k n) W1) := o1
  have HD : Hid (Below B w W1) := (H0.out.bw.mono HB.out).trans d1
  clear o1 d1 k1 H0 CM HB
  go_wp2
  go_ret
  exact ⟨rfl, HO.out, HD.out, HK.out⟩

/-- What an address without its end is, be it ok or not. -/
theorem base_cases (q : P) : ∃ r : P, (okP q ∧ r = bsP q) ∨ (¬ okP q ∧ r = P.zero) := by
  by_cases h : okP q
  · exact ⟨_, .inl ⟨h, rfl⟩⟩
  · exact ⟨_, .inr ⟨h, rfl⟩⟩
theorem implUrlBase (q r : P) (a : Option Addr) (n c : Nat) (w : World) (hL : Lean1 w) (hS : StrsOf a n q.ps w) (hs : q.tot ≤ 1048576) (hpo : q.po ≤ 9223372036854775807) (hr : (okP q ∧ r = bsP q) ∨ (¬ okP q ∧ r = P.zero)) :
    Calls Tryz.prog 21 #[.agg (q.cells (.slice a n c))] w fun e w' => ∃ a2 c2, e = .returned (.agg (r.cells (.slice a2 r.ps.length c2))) ∧ OwnS w.heap.size (.slice a2 r.ps.length c2) r.ps w' ∧ Below w.heap.size w w' := by
  have hn : n = q.ps.length := hS.1
  rcases hr with ⟨h, rfl⟩ | ⟨h, rfl⟩
  · rw [bsP_ps, ← hn]; exact implUrlBaseYes q a n c w hL hS hs hpo h
  · refine (implUrlBaseNo q a n c w hL hS hs hpo h).mono ?_
    rintro e w' ⟨rfl, d⟩
    exact ⟨none, 0, rfl, ownS_nil _ _, d⟩
theorem specUrlBase (q r : P) (a : Option Addr) (n c : Nat) (w : World) (hS : StrsOf a n q.ps w) (hs : q.tot ≤ 1048576) (hpo : q.po ≤ 9223372036854775807) (hr : (okP q ∧ r = bsP q) ∨ (¬ okP q ∧ r = P.zero)) :
    Calls Tryz.prog 20 #[.agg (q.cells (.slice a n c))] w fun e w' => ∃ a2 c2, e = .returned (.agg (r.cells (.slice a2 r.ps.length c2))) ∧ OwnS w.heap.size (.slice a2 r.ps.length c2) r.ps w' ∧ Below w.heap.size w w' := by
  have hn : n = q.ps.length := hS.1
  rcases hr with ⟨h, rfl⟩ | ⟨h, rfl⟩
  · rw [bsP_ps, ← hn]; exact specUrlBaseYes q a n c w hS hs hpo h
  · refine (specUrlBaseNo q a n c w hS hs hpo h).mono ?_
    rintro e w' ⟨rfl, d⟩
    exact ⟨none, 0, rfl, ownS_nil _ _, d⟩
theorem base_len (q r : P) (hr : (okP q ∧ r = bsP q) ∨ (¬ okP q ∧ r = P.zero)) : r.ps.length ≤ q.ps.length := by
  rcases hr with ⟨h, rfl⟩ | ⟨h, rfl⟩
  · exact Nat.le_refl _
  · exact Nat.zero_le _
end Go.Proofs.YtmbojhlfhafhjaaGreatDoor
end

section
set_option linter.unusedVariables false
set_option linter.unusedSimpArgs false
namespace Go.Proofs.YtmbojhlfhafhjaaGreatDoor
open Go.RowKit Go.Shelf

/-- What is handed in, and three addresses that were made of it, each in a block of its own; the pieces of the first. -/
structure Ub (w : World) (A Cw Cx Cg : Array Value) (xw xx xg : Nat) (aw : Option Addr) (m : Nat) (rs : List (List UInt8)) (W : World) : Prop where
  make ::
  la : Blk w.heap.size A 34 W
  bw : Below w.heap.size w W
  kw : Blk xw Cw 26 W
  kx : Blk xx Cx 26 W
  kg : Blk xg Cg 26 W
  sw : StrsOf aw m rs W
theorem Ub.later {w W W' : World} {A Cw Cx Cg : Array Value} {xw xx xg m : Nat} {aw : Option Addr} {rs : List (List UInt8)} (h : Ub w A Cw Cx Cg xw xx xg aw m rs W) (d : Below W.heap.size W W') : Ub w A Cw Cx Cg xw xx xg aw m rs W' :=
  ⟨h.la.below d h.la.lt, h.bw.trans (d.mono h.bw.size), h.kw.below d h.kw.lt, h.kx.below d h.kx.lt, h.kg.below d h.kg.lt, h.sw.later d⟩
theorem Ub.mark {w W W' : World} {A Cw Cx Cg : Array Value} {xw xx xg m : Nat} {aw a : Option Addr} {rs ps : List (List UInt8)} {B n c : Nat} (h : Ub w A Cw Cx Cg xw xx xg aw m rs W) (k : Kp a W W') (o : OwnS B (.slice a n c) ps W) (d : Below w.heap.size w W') (hs : ∀ g b off, rs ≠ [] → a = some ⟨g, 0, none⟩ → aw = some ⟨b, off, none⟩ → b ≠ g) : Ub w A Cw Cx Cg xw xx xg aw m rs W' where
  la := k.blk h.la (fun g e => by subst e; exact o.ne h.la (by decide))
  bw := d
  kw := k.blk h.kw (fun g e => by subst e; exact o.ne h.kw (by decide))
  kx := k.blk h.kx (fun g e => by subst e; exact o.ne h.kx (by decide))
  kg := k.blk h.kg (fun g e => by subst e; exact o.ne h.kg (by decide))
  sw := by
    by_cases h0 : rs = []
    · exact ⟨h.sw.1, .inl h0⟩
    · exact k.strs h.sw (fun g b off e1 e2 => hs g b off h0 e1 e2)
theorem StrsOf.lt {a : Option Addr} {n b off : Nat} {ss : List (List UInt8)} {w : World} (h : StrsOf a n ss w) (hne : ss ≠ []) (e : a = some ⟨b, off, none⟩) : b < w.heap.size := by
  obtain ⟨b2, off2, e2, hc⟩ := h.2.resolve_left hne
  rw [e] at e2
  simp only [Option.some.injEq, Addr.mk.injEq] at e2
  have hl : 0 < ss.length := by cases ss with | nil => exact absurd rfl hne | cons x l => simp
  have := cell_in (hc 0 hl)
  simp at this
  omega
theorem OwnS.ge {B b n c : Nat} {ps : List (List UInt8)} {w : World} (h : OwnS B (.slice (some ⟨b, 0, none⟩) n c) ps w) : B ≤ b ∧ b < w.heap.size := by
  rcases h.2 with ⟨hv, h0⟩ | ⟨g', cap, cur, hv, hB, hg, rest⟩
  · cases hv
  · simp only [Value.slice.injEq, Option.some.injEq, Addr.mk.injEq, and_true] at hv
    obtain ⟨rfl, hn, rfl⟩ := hv
    refine ⟨hB, ?_⟩
    rcases Nat.lt_or_ge b w.heap.size with h1 | h1
    · exact h1
    · rw [Array.getElem?_eq_none h1] at hg; cases hg
theorem OwnS.strsM {B n c : Nat} {a : Option Addr} {ps : List (List UInt8)} {w : World} (h : OwnS B (.slice a n c) ps w) (hn : n = ps.length) : StrsOf a n ps w := by
  obtain ⟨a1, c1, h1, h2, s1⟩ := h.strs
  rw [← hn] at h1 s1
  injection h1 with e1 e2 e3
  rw [← e1] at s1
  exact s1

set_option maxHeartbeats 16000000 in
set_option maxRecDepth 100000 in
theorem fnExactUrlBase_walk (w : World) (hL : Lean1 w) (q : P) (a : Option Addr) (n c : Nat) (hS : StrsOf a n q.ps w) (hz : Sz q) (hpo : q.po ≤ 9223372036854775807) :
    Calls Tryz.prog 6 #[.agg (q.cells (.slice a n c))] w fun e w' => e = .returned (.bool true) ∧ Below w.heap.size w w' := by
  have hn : n = q.ps.length := hS.1
  obtain ⟨r, hr⟩ := base_cases q
  have hrl := base_len q r hr
  obtain ⟨m, hm⟩ : ∃ m, m = r.ps.length := ⟨_, rfl⟩
  have HTN : Hid (q.ps.length ≤ q.tot) := by show _ ≤ _; unfold P.tot; omega
  have H0 : Hid (La w q (.slice a n c) (w.alloc (.cells (q.cells (.slice a n c)) 34))) := La.start w q _
  have CS : Hid (∀ W, Below w.heap.size w W → Calls Tryz.prog 14 #[.agg #[(.string q.sc), (.string q.us), (.string q.pw), (.int .i64 q.hk), (.string q.hn), (.int .i64 q.ha), (.int .i64 q.po), (.slice a n c), (.string q.op), (.bool q.hq), (.string q.qu), (.bool q.hf), (.string q.fr)], .int .i64 1048576] W fun e w' => ∃ r : Int, e = .returned (.int .i64 r) ∧ Below W.heap.size W w' ∧ Hid (0 ≤ r → q.tot ≤ 1048576)) := fun W d => by
    refine (szUrl q a n c 1048576 W (hS.later d) hz (by decide) (by decide)).mono ?_
    rintro e w' ⟨r, rfl, d2, h1, h2⟩
    exact ⟨r, rfl, d2, fun h => by have := h2 h; omega⟩
  have CT : Hid (q.tot ≤ 1048576 → ∀ W, Below w.heap.size w W → Calls Tryz.prog 16 #[.agg #[(.string q.sc), (.string q.us), (.string q.pw), (.int .i64 q.hk), (.string q.hn), (.int .i64 q.ha), (.int .i64 q.po), (.slice a n c), (.string q.op), (.bool q.hq), (.string q.qu), (.bool q.hf), (.string q.fr)]] W fun e w' => ∃ g, e = .returned (.agg #[(.string q.sc), (.string q.us), (.string q.pw), (.int .i64 q.hk), (.string q.hn), (.int .i64 q.ha), (.int .i64 q.po), (.slice (some ⟨g, 0, none⟩) n n), (.string q.op), (.bool q.hq), (.string q.qu), (.bool q.hf), (.string q.fr)]) ∧ OwnS W.heap.size (.slice (some ⟨g, 0, none⟩) n n) q.ps w' ∧ StrsOf (some ⟨g, 0, none⟩) n q.ps w' ∧ Below W.heap.size W w') := fun ht W d => by
    refine (toUrl q a n c W (hS.later d) (by have := HTN.out; omega)).mono ?_
    rintro e w' ⟨g, rfl, o, d2⟩
    exact ⟨g, rfl, o, o.strsM hn, d2⟩
  have CO : Hid (q.tot ≤ 1048576 → ∀ g W, StrsOf (some ⟨g, 0, none⟩) n q.ps W → Calls Tryz.prog 20 #[.agg #[(.string q.sc), (.string q.us), (.string q.pw), (.int .i64 q.hk), (.string q.hn), (.int .i64 q.ha), (.int .i64 q.po), (.slice (some ⟨g, 0, none⟩) n n), (.string q.op), (.bool q.hq), (.string q.qu), (.bool q.hf), (.string q.fr)]] W fun e w' => ∃ aw cw, e = .returned (.agg #[(.string r.sc), (.string r.us), (.string r.pw), (.int .i64 r.hk), (.string r.hn), (.int .i64 r.ha), (.int .i64 r.po), (.slice aw m cw), (.string r.op), (.bool r.hq), (.string r.qu), (.bool r.hf), (.string r.fr)]) ∧ StrsOf aw m r.ps w' ∧ Below W.heap.size W w') := fun ht g W s => by
    rw [hm]
    refine (specUrlBase q r _ n _ W s ht hpo hr).mono ?_
    rintro e w' ⟨aw, cw, rfl, o, d2⟩
    exact ⟨aw, cw, rfl, o.strsM rfl, d2⟩
  have CI : Hid (q.tot ≤ 1048576 → ∀ g W, Below w.heap.size w W → StrsOf (some ⟨g, 0, none⟩) n q.ps W → Calls Tryz.prog 21 #[.agg #[(.string q.sc), (.string q.us), (.string q.pw), (.int .i64 q.hk), (.string q.hn), (.int .i64 q.ha), (.int .i64 q.po), (.slice (some ⟨g, 0, none⟩) n n), (.string q.op), (.bool q.hq), (.string q.qu), (.bool q.hf), (.string q.fr)]] W fun e w' => ∃ ag cg, e = .returned (.agg #[(.string r.sc), (.string r.us), (.string r.pw), (.int .i64 r.hk), (.string r.hn), (.int .i64 r.ha), (.int .i64 r.po), (.slice ag m cg), (.string r.op), (.bool r.hq), (.string r.qu), (.bool r.hf), (.string r.fr)]) ∧ OwnS W.heap.size (.slice ag m cg) r.ps w' ∧ StrsOf ag m r.ps w' ∧ Below W.heap.size W w') := fun ht g W d s => by
    rw [hm]
    refine (implUrlBase q r _ n _ W (hL.below d) s ht hpo hr).mono ?_
    rintro e w' ⟨aw, cw, rfl, o, d2⟩
    exact ⟨aw, cw, rfl, o, o.strsM rfl, d2⟩
  have CE : Hid (q.tot ≤ 1048576 → ∀ a1 c1 a2 c2 W, StrsOf a1 m r.ps W → StrsOf a2 m r.ps W → Calls Tryz.prog 11 #[.agg #[(.string r.sc), (.string r.us), (.string r.pw), (.int .i64 r.hk), (.string r.hn), (.int .i64 r.ha), (.int .i64 r.po), (.slice a1 m c1), (.string r.op), (.bool r.hq), (.string r.qu), (.bool r.hf), (.string r.fr)], .agg #[(.string r.sc), (.string r.us), (.string r.pw), (.int .i64 r.hk), (.string r.hn), (.int .i64 r.ha), (.int .i64 r.po), (.slice a2 m c2), (.string r.op), (.bool r.hq), (.string r.qu), (.bool r.hf), (.string r.fr)]] W fun e w' => e = .returned (.bool true) ∧ Below W.heap.size W w') := fun ht a1 c1 a2 c2 W s s' => by
    subst hm
    exact eqUrl r _ _ _ _ W s s' (by have := HTN.out; omega)
  have CX : Hid (q.tot ≤ 1048576 → ∀ g g' W, StrsOf (some ⟨g, 0, none⟩) n q.ps W → StrsOf (some ⟨g', 0, none⟩) n q.ps W → Calls Tryz.prog 11 #[.agg #[(.string q.sc), (.string q.us), (.string q.pw), (.int .i64 q.hk), (.string q.hn), (.int .i64 q.ha), (.int .i64 q.po), (.slice (some ⟨g, 0, none⟩) n n), (.string q.op), (.bool q.hq), (.string q.qu), (.bool q.hf), (.string q.fr)], .agg #[(.string q.sc), (.string q.us), (.string q.pw), (.int .i64 q.hk), (.string q.hn), (.int .i64 q.ha), (.int .i64 q.po), (.slice (some ⟨g', 0, none⟩) n n), (.string q.op), (.bool q.hq), (.string q.qu), (.bool q.hf), (.string q.fr)]] W fun e w' => e = .returned (.bool true) ∧ Below W.heap.size W w') := fun ht g g' W s s' => by
    subst hn
    exact eqUrl q _ _ _ _ W s s' (by have := HTN.out; omega)
  obtain ⟨M1, hM1⟩ : ∃ M : Int, M = ((1 + n : Nat) : Int) := ⟨_, rfl⟩
  obtain ⟨M2, hM2⟩ : ∃ M : Int, M = ((1 + m : Nat) : Int) := ⟨_, rfl⟩
  have hM10 : 0 ≤ M1 := by omega
  have hM20 : 0 ≤ M2 := by omega
  have CM1 : Hid (q.tot ≤ 1048576 → ∀ B g W, OwnS B (.slice (some ⟨g, 0, none⟩) n n) q.ps W → B ≤ W.heap.size → Calls Tryz.prog 12 #[.agg #[(.string q.sc), (.string q.us), (.string q.pw), (.int .i64 q.hk), (.string q.hn), (.int .i64 q.ha), (.int .i64 q.po), (.slice (some ⟨g, 0, none⟩) n n), (.string q.op), (.bool q.hq), (.string q.qu), (.bool q.hf), (.string q.fr)], .int .i64 1] W fun e w' => e = .returned (.int .i64 M1) ∧ Below B W w' ∧ Kp (some ⟨g, 0, none⟩) W w') := fun ht B g W o hB => by
    refine (markUrlN B q _ n n 1 W hn o hB (by decide) (by decide) (by have := HTN.out; omega)).mono ?_
    rintro e w' ⟨rfl, _, d, k⟩
    exact ⟨by rw [hM1], d, k⟩
  have CM2 : Hid (q.tot ≤ 1048576 → ∀ B ag cg W, OwnS B (.slice ag m cg) r.ps W → B ≤ W.heap.size → Calls Tryz.prog 12 #[.agg #[(.string r.sc), (.string r.us), (.string r.pw), (.int .i64 r.hk), (.string r.hn), (.int .i64 r.ha), (.int .i64 r.po), (.slice ag m cg), (.string r.op), (.bool r.hq), (.string r.qu), (.bool r.hf), (.string r.fr)], .int .i64 1] W fun e w' => e = .returned (.int .i64 M2) ∧ StrsOf ag m (markTs 1 m) w' ∧ Below B W w' ∧ Kp ag W w') := fun ht B ag cg W o hB => by
    refine (markUrlN B r _ m cg 1 W hm o hB (by decide) (by decide) (by have := HTN.out; omega)).mono ?_
    rintro e w' ⟨rfl, o2, d, k⟩
    exact ⟨by rw [hM2], o2.strsM (by rw [markTs_len]), d, k⟩
  have CH : Hid (q.tot ≤ 1048576 → ∀ ag cg W, StrsOf ag m (markTs 1 m) W → Calls Tryz.prog 13 #[.agg #[(.string r.sc), (.string r.us), (.string r.pw), (.int .i64 r.hk), (.string r.hn), (.int .i64 r.ha), (.int .i64 r.po), (.slice ag m cg), (.string r.op), (.bool r.hq), (.string r.qu), (.bool r.hf), (.string r.fr)], .int .i64 1] W fun e w' => e = .returned (.int .i64 M2) ∧ Below W.heap.size W w') := fun ht ag cg W s => by
    rw [hM2]
    exact heldUrl r ag m cg 1 W s (by decide) (by decide) (by have := HTN.out; omega)
  clear hS hz hL hpo HTN hn hr hrl hm hM1 hM2
  unfold P.cells at H0 ⊢
  go_enter Tryz.func6, Tryz.ntmps6
  go_wp2_with fail
  refine (CS.out _ H0.out.bw).mono ?_
  rintro e W1 ⟨z, rfl, d1, ht⟩
  have HL1 : Hid (La w q (.slice a n c) W1) := H0.out.later d1
  clear d1 H0 CS
  by_cases hr : z < 0
  · clear ht CT CO CI CE CX CM1 CM2 CH
    go_wp2
    go_ret
    exact ⟨rfl, HL1.out.bw⟩
  have HT : Hid (q.tot ≤ 1048576) := ht.out (by omega)
  clear ht
  obtain ⟨k0, k1, k2, k3, k4, k5, k6, k7, k8, k9, k10, k11, k12⟩ := HL1.out.cells
  go_wp2_with fail
  refine (CT.out HT.out _ HL1.out.bw).mono ?_
  rintro e W2 ⟨g2, rfl, -, s2, d2⟩
  have HL2 : Hid (La w q (.slice a n c) W2) := HL1.out.later d2
  clear d2 HL1 k0 k1 k2 k3 k4 k5 k6 k7 k8 k9 k10 k11 k12 hr
  go_wp2_with fail
  refine (CO.out HT.out g2 _ s2).mono ?_
  rintro e W3 ⟨aw, cw, rfl, s3, d3⟩
  have HL3 : Hid (La w q (.slice a n c) W3) := HL2.out.later d3
  clear d3 HL2 s2 CO
  obtain ⟨V3, hV3⟩ : ∃ V, V = W3.alloc (.cells #[(.string r.sc), (.string r.us), (.string r.pw), (.int .i64 r.hk), (.string r.hn), (.int .i64 r.ha), (.int .i64 r.po), (.slice aw m cw), (.string r.op), (.bool r.hq), (.string r.qu), (.bool r.hf), (.string r.fr)] 26) := ⟨_, rfl⟩
  have HB3 : Hid (Below W3.heap.size W3 V3) := by show Below _ _ _; rw [hV3]; exact (Below.refl _ _).alloc (Nat.le_refl _) _
  have HLV3 : Hid (La w q (.slice a n c) V3) := HL3.out.later HB3.out
  have HSV3 : Hid (StrsOf aw m r.ps V3) := s3.later HB3.out
  have HXV3 : Hid (Blk W3.heap.size #[(.string r.sc), (.string r.us), (.string r.pw), (.int .i64 r.hk), (.string r.hn), (.int .i64 r.ha), (.int .i64 r.po), (.slice aw m cw), (.string r.op), (.bool r.hq), (.string r.qu), (.bool r.hf), (.string r.fr)] 26 V3) := by show Blk _ _ _ _; rw [hV3]; exact Blk.new W3 _ _
  clear s3 HL3 HB3
  go_upto_region 6 with fail
  rw [← hV3]
  clear hV3
  generalize W3.heap.size = xw at *
  obtain ⟨k0, k1, k2, k3, k4, k5, k6, k7, k8, k9, k10, k11, k12⟩ := HLV3.out.cells
  go_wp2_with fail
  refine (CT.out HT.out _ HLV3.out.bw).mono ?_
  rintro e W4 ⟨g4, rfl, o4, s4, d4⟩
  have HL4 : Hid (La w q (.slice a n c) W4) := HLV3.out.later d4
  have HS4 : Hid (StrsOf aw m r.ps W4) := HSV3.out.later d4
  have HX4 : Hid (Blk xw #[(.string r.sc), (.string r.us), (.string r.pw), (.int .i64 r.hk), (.string r.hn), (.int .i64 r.ha), (.int .i64 r.po), (.slice aw m cw), (.string r.op), (.bool r.hq), (.string r.qu), (.bool r.hf), (.string r.fr)] 26 W4) := HXV3.out.below d4 HXV3.out.lt
  have HLT : Hid (∀ b off, r.ps ≠ [] → aw = some ⟨b, off, none⟩ → b < g4) := fun b off h1 h2 => Nat.lt_of_lt_of_le (HSV3.out.lt h1 h2) o4.ge.1
  have HW3 : Hid (w.heap.size ≤ V3.heap.size ∧ V3.heap.size ≤ W4.heap.size) := ⟨HLV3.out.bw.size, d4.size⟩
  clear d4 HLV3 HSV3 HXV3 k0 k1 k2 k3 k4 k5 k6 k7 k8 k9 k10 k11 k12
  generalize V3.heap.size = bx at *
  obtain ⟨V4, hV4⟩ : ∃ V, V = W4.alloc (.cells #[(.string q.sc), (.string q.us), (.string q.pw), (.int .i64 q.hk), (.string q.hn), (.int .i64 q.ha), (.int .i64 q.po), (.slice (some ⟨g4, 0, none⟩) n n), (.string q.op), (.bool q.hq), (.string q.qu), (.bool q.hf), (.string q.fr)] 26) := ⟨_, rfl⟩
  have HB4 : Hid (Below W4.heap.size W4 V4) := by show Below _ _ _; rw [hV4]; exact (Below.refl _ _).alloc (Nat.le_refl _) _
  have HLV4 : Hid (La w q (.slice a n c) V4) := HL4.out.later HB4.out
  have HSV4 : Hid (StrsOf aw m r.ps V4) := HS4.out.later HB4.out
  have HXV4 : Hid (Blk xw #[(.string r.sc), (.string r.us), (.string r.pw), (.int .i64 r.hk), (.string r.hn), (.int .i64 r.ha), (.int .i64 r.po), (.slice aw m cw), (.string r.op), (.bool r.hq), (.string r.qu), (.bool r.hf), (.string r.fr)] 26 V4) := HX4.out.below HB4.out HX4.out.lt
  have HYV4 : Hid (Blk W4.heap.size #[(.string q.sc), (.string q.us), (.string q.pw), (.int .i64 q.hk), (.string q.hn), (.int .i64 q.ha), (.int .i64 q.po), (.slice (some ⟨g4, 0, none⟩) n n), (.string q.op), (.bool q.hq), (.string q.qu), (.bool q.hf), (.string q.fr)] 26 V4) := by show Blk _ _ _ _; rw [hV4]; exact Blk.new W4 _ _
  have HOV4 : Hid (OwnS bx (.slice (some ⟨g4, 0, none⟩) n n) q.ps V4) := o4.later HB4.out
  have HTV4 : Hid (StrsOf (some ⟨g4, 0, none⟩) n q.ps V4) := s4.later HB4.out
  have HZ4 : Hid (bx ≤ V4.heap.size) := Nat.le_trans HW3.out.2 HB4.out.size
  clear s4 o4 HL4 HS4 HX4 HB4
  go_upto_region 7 with fail
  rw [← hV4]
  clear hV4
  have HWX : Hid (w.heap.size ≤ bx) := HW3.out.1
  clear HW3
  generalize W4.heap.size = xx at *
  obtain ⟨k0, k1, k2, k3, k4, k5, k6, k7, k8, k9, k10, k11, k12⟩ := Blk.cells13a HYV4.out
  go_wp2_with fail
  refine (CI.out HT.out g4 _ HLV4.out.bw HTV4.out).mono ?_
  rintro e W5 ⟨ag, cg, rfl, o5, s5, d5⟩
  have HSEP : Hid (∀ g b, some ⟨g4, 0, none⟩ = some (⟨g, 0, none⟩ : Addr) → ag = some ⟨b, 0, none⟩ → g < b) := fun g b h1 h2 => by
    have e1 : g4 = g := by simpa using h1
    subst h2
    have := o5.ge.1
    have := HOV4.out.ge.2
    omega
  have HZ5 : Hid (V4.heap.size ≤ W5.heap.size) := d5.size
  have HL5 : Hid (La w q (.slice a n c) W5) := HLV4.out.later d5
  have HS5 : Hid (StrsOf aw m r.ps W5) := HSV4.out.later d5
  have HX5 : Hid (Blk xw #[(.string r.sc), (.string r.us), (.string r.pw), (.int .i64 r.hk), (.string r.hn), (.int .i64 r.ha), (.int .i64 r.po), (.slice aw m cw), (.string r.op), (.bool r.hq), (.string r.qu), (.bool r.hf), (.string r.fr)] 26 W5) := HXV4.out.below d5 HXV4.out.lt
  have HY5 : Hid (Blk xx #[(.string q.sc), (.string q.us), (.string q.pw), (.int .i64 q.hk), (.string q.hn), (.int .i64 q.ha), (.int .i64 q.po), (.slice (some ⟨g4, 0, none⟩) n n), (.string q.op), (.bool q.hq), (.string q.qu), (.bool q.hf), (.string q.fr)] 26 W5) := HYV4.out.below d5 HYV4.out.lt
  have HO5 : Hid (OwnS bx (.slice (some ⟨g4, 0, none⟩) n n) q.ps W5) := HOV4.out.later d5
  have HWV : Hid (w.heap.size ≤ V4.heap.size) := HLV4.out.bw.size
  clear d5 HLV4 HSV4 HXV4 HYV4 HOV4 HTV4 k0 k1 k2 k3 k4 k5 k6 k7 k8 k9 k10 k11 k12
  have HZ6 : Hid (bx ≤ W5.heap.size) := Nat.le_trans HZ4.out HZ5.out
  clear HZ4
  generalize V4.heap.size = bg at *
  obtain ⟨V5, hV5⟩ : ∃ V, V = W5.alloc (.cells #[(.string r.sc), (.string r.us), (.string r.pw), (.int .i64 r.hk), (.string r.hn), (.int .i64 r.ha), (.int .i64 r.po), (.slice ag m cg), (.string r.op), (.bool r.hq), (.string r.qu), (.bool r.hf), (.string r.fr)] 26) := ⟨_, rfl⟩
  have HB5 : Hid (Below W5.heap.size W5 V5) := by show Below _ _ _; rw [hV5]; exact (Below.refl _ _).alloc (Nat.le_refl _) _
  have HU : Hid (Ub w #[(.string q.sc), (.string q.us), (.string q.pw), (.int .i64 q.hk), (.string q.hn), (.int .i64 q.ha), (.int .i64 q.po), (.slice a n c), (.string q.op), (.bool q.hq), (.string q.qu), (.bool q.hf), (.string q.fr)] #[(.string r.sc), (.string r.us), (.string r.pw), (.int .i64 r.hk), (.string r.hn), (.int .i64 r.ha), (.int .i64 r.po), (.slice aw m cw), (.string r.op), (.bool r.hq), (.string r.qu), (.bool r.hf), (.string r.fr)] #[(.string q.sc), (.string q.us), (.string q.pw), (.int .i64 q.hk), (.string q.hn), (.int .i64 q.ha), (.int .i64 q.po), (.slice (some ⟨g4, 0, none⟩) n n), (.string q.op), (.bool q.hq), (.string q.qu), (.bool q.hf), (.string q.fr)] #[(.string r.sc), (.string r.us), (.string r.pw), (.int .i64 r.hk), (.string r.hn), (.int .i64 r.ha), (.int .i64 r.po), (.slice ag m cg), (.string r.op), (.bool r.hq), (.string r.qu), (.bool r.hf), (.string r.fr)] xw xx W5.heap.size aw m r.ps V5) := by
    have h := HL5.out.later HB5.out
    exact ⟨h.bx, h.bw, HX5.out.below HB5.out HX5.out.lt, HY5.out.below HB5.out HY5.out.lt, by rw [hV5]; exact Blk.new W5 _ _, HS5.out.later HB5.out⟩
  have HO : Hid (OwnS bx (.slice (some ⟨g4, 0, none⟩) n n) q.ps V5) := HO5.out.later HB5.out
  have HG : Hid (OwnS bg (.slice ag m cg) r.ps V5) := o5.later HB5.out
  have HGS : Hid (StrsOf ag m r.ps V5) := s5.later HB5.out
  have HSZ : Hid (bx ≤ V5.heap.size ∧ bg ≤ V5.heap.size) := ⟨Nat.le_trans HZ6.out HB5.out.size, Nat.le_trans HZ5.out HB5.out.size⟩
  clear o5 s5 HL5 HS5 HX5 HY5 HO5 HB5 HZ6 HZ5
  go_upto_region 8 with fail
  rw [← hV5]
  clear hV5
  generalize W5.heap.size = xg at *
  obtain ⟨k0, k1, k2, k3, k4, k5, k6, k7, k8, k9, k10, k11, k12⟩ := Blk.cells13a HU.out.kg
  obtain ⟨j0, j1, j2, j3, j4, j5, j6, j7, j8, j9, j10, j11, j12⟩ := Blk.cells13a HU.out.kw
  go_wp2_with fail
  refine (CE.out HT.out ag cg aw cw _ HGS.out HU.out.sw).mono ?_
  rintro e W6 ⟨rfl, d6⟩
  have HU6 : Hid (Ub w #[(.string q.sc), (.string q.us), (.string q.pw), (.int .i64 q.hk), (.string q.hn), (.int .i64 q.ha), (.int .i64 q.po), (.slice a n c), (.string q.op), (.bool q.hq), (.string q.qu), (.bool q.hf), (.string q.fr)] #[(.string r.sc), (.string r.us), (.string r.pw), (.int .i64 r.hk), (.string r.hn), (.int .i64 r.ha), (.int .i64 r.po), (.slice aw m cw), (.string r.op), (.bool r.hq), (.string r.qu), (.bool r.hf), (.string r.fr)] #[(.string q.sc), (.string q.us), (.string q.pw), (.int .i64 q.hk), (.string q.hn), (.int .i64 q.ha), (.int .i64 q.po), (.slice (some ⟨g4, 0, none⟩) n n), (.string q.op), (.bool q.hq), (.string q.qu), (.bool q.hf), (.string q.fr)] #[(.string r.sc), (.string r.us), (.string r.pw), (.int .i64 r.hk), (.string r.hn), (.int .i64 r.ha), (.int .i64 r.po), (.slice ag m cg), (.string r.op), (.bool r.hq), (.string r.qu), (.bool r.hf), (.string r.fr)] xw xx xg aw m r.ps W6) := HU.out.later d6
  have HO6 : Hid (OwnS bx (.slice (some ⟨g4, 0, none⟩) n n) q.ps W6) := HO.out.later d6
  have HG6 : Hid (OwnS bg (.slice ag m cg) r.ps W6) := HG.out.later d6
  have HGS6 : Hid (StrsOf ag m r.ps W6) := HGS.out.later d6
  have HSZ6 : Hid (bx ≤ W6.heap.size ∧ bg ≤ W6.heap.size) := ⟨Nat.le_trans HSZ.out.1 d6.size, Nat.le_trans HSZ.out.2 d6.size⟩
  clear d6 HU HO HG HGS HSZ k0 k1 k2 k3 k4 k5 k6 k7 k8 k9 k10 k11 k12 j0 j1 j2 j3 j4 j5 j6 j7 j8 j9 j10 j11 j12
  go_upto_region 10 with fail
  go_cut [31] from 32 (fun s wx => s = .bool false ∧ Hid (Below W6.heap.size W6 wx))
  case first =>
    obtain ⟨k0, k1, k2, k3, k4, k5, k6, k7, k8, k9, k10, k11, k12⟩ := Blk.cells13a HU6.out.la
    obtain ⟨y0, y1, y2, y3, y4, y5, y6, y7, y8, y9, y10, y11, y12⟩ := Blk.cells13a HU6.out.kx
    have CT8 : Hid (∀ W, Below W6.heap.size W6 W → Calls Tryz.prog 16 #[.agg #[(.string q.sc), (.string q.us), (.string q.pw), (.int .i64 q.hk), (.string q.hn), (.int .i64 q.ha), (.int .i64 q.po), (.slice a n c), (.string q.op), (.bool q.hq), (.string q.qu), (.bool q.hf), (.string q.fr)]] W fun e w' => ∃ g, e = .returned (.agg #[(.string q.sc), (.string q.us), (.string q.pw), (.int .i64 q.hk), (.string q.hn), (.int .i64 q.ha), (.int .i64 q.po), (.slice (some ⟨g, 0, none⟩) n n), (.string q.op), (.bool q.hq), (.string q.qu), (.bool q.hf), (.string q.fr)]) ∧ StrsOf (some ⟨g, 0, none⟩) n q.ps w' ∧ Below W.heap.size W w') := fun W d => by
      refine (CT.out HT.out W (HU6.out.later d).bw).mono ?_
      rintro e w' ⟨g, rfl, _, s, d2⟩
      exact ⟨g, rfl, s, d2⟩
    have CE8 : Hid (∀ g W, Below W6.heap.size W6 W → StrsOf (some ⟨g, 0, none⟩) n q.ps W → Calls Tryz.prog 11 #[.agg #[(.string q.sc), (.string q.us), (.string q.pw), (.int .i64 q.hk), (.string q.hn), (.int .i64 q.ha), (.int .i64 q.po), (.slice (some ⟨g4, 0, none⟩) n n), (.string q.op), (.bool q.hq), (.string q.qu), (.bool q.hf), (.string q.fr)], .agg #[(.string q.sc), (.string q.us), (.string q.pw), (.int .i64 q.hk), (.string q.hn), (.int .i64 q.ha), (.int .i64 q.po), (.slice (some ⟨g, 0, none⟩) n n), (.string q.op), (.bool q.hq), (.string q.qu), (.bool q.hf), (.string q.fr)]] W fun e w' => e = .returned (.bool true) ∧ Below W.heap.size W w') := fun g W d s => CX.out HT.out g4 g W ((HO6.out.later d).strsM s.1) s
    have HKX : Hid (∀ W, Below W6.heap.size W6 W → Blk xx #[(.string q.sc), (.string q.us), (.string q.pw), (.int .i64 q.hk), (.string q.hn), (.int .i64 q.ha), (.int .i64 q.po), (.slice (some ⟨g4, 0, none⟩) n n), (.string q.op), (.bool q.hq), (.string q.qu), (.bool q.hf), (.string q.fr)] 26 W) := fun W d => (HU6.out.later d).kx
    clear HU6 HO6 HG6 HGS6 HSZ6 CT CI CE CX CM1 CM2 CH HT HSEP HLT HWX HWV
    go_region_with (first
      | (go_at_call 16; refine (CT8.out _ ?hd).mono ?_; (case hd => first | exact Below.refl _ _ | exact (Below.refl _ _).drew); rintro e W9 ⟨g9, rfl, s9, d9⟩; have HD9 : Hid (Below W6.heap.size W6 W9) := (by first | exact d9 | exact ((Below.refl _ W6).drew).trans d9); have HS9 : Hid (StrsOf (some ⟨g9, 0, none⟩) n q.ps W9) := s9; clear d9 s9 k0 k1 k2 k3 k4 k5 k6 k7 k8 k9 k10 k11 k12 y0 y1 y2 y3 y4 y5 y6 y7 y8 y9 y10 y11 y12; obtain ⟨y0, y1, y2, y3, y4, y5, y6, y7, y8, y9, y10, y11, y12⟩ := Blk.cells13a (HKX.out W9 HD9.out))
      | (go_at_call 11; refine (CE8.out g9 _ HD9.out HS9.out).mono ?_; rintro e W10 ⟨rfl, d10⟩; have HDX : Hid (Below W6.heap.size W6 W10) := HD9.out.trans (d10.mono HD9.out.size); clear d10)
      | fail)
    all_goals
      clear y0 y1 y2 y3 y4 y5 y6 y7 y8 y9 y10 y11 y12
      go_wp2_with fail
      go_meet
      exact ⟨rfl, HDX⟩
  case rest =>
  obtain ⟨rfl, HDC⟩ := hcut
  have HU7 : Hid (Ub w #[(.string q.sc), (.string q.us), (.string q.pw), (.int .i64 q.hk), (.string q.hn), (.int .i64 q.ha), (.int .i64 q.po), (.slice a n c), (.string q.op), (.bool q.hq), (.string q.qu), (.bool q.hf), (.string q.fr)] #[(.string r.sc), (.string r.us), (.string r.pw), (.int .i64 r.hk), (.string r.hn), (.int .i64 r.ha), (.int .i64 r.po), (.slice aw m cw), (.string r.op), (.bool r.hq), (.string r.qu), (.bool r.hf), (.string r.fr)] #[(.string q.sc), (.string q.us), (.string q.pw), (.int .i64 q.hk), (.string q.hn), (.int .i64 q.ha), (.int .i64 q.po), (.slice (some ⟨g4, 0, none⟩) n n), (.string q.op), (.bool q.hq), (.string q.qu), (.bool q.hf), (.string q.fr)] #[(.string r.sc), (.string r.us), (.string r.pw), (.int .i64 r.hk), (.string r.hn), (.int .i64 r.ha), (.int .i64 r.po), (.slice ag m cg), (.string r.op), (.bool r.hq), (.string r.qu), (.bool r.hf), (.string r.fr)] xw xx xg aw m r.ps wc) := HU6.out.later HDC.out
  have HO7 : Hid (OwnS bx (.slice (some ⟨g4, 0, none⟩) n n) q.ps wc) := HO6.out.later HDC.out
  have HG7 : Hid (OwnS bg (.slice ag m cg) r.ps wc) := HG6.out.later HDC.out
  have HGS7 : Hid (StrsOf ag m r.ps wc) := HGS6.out.later HDC.out
  have HSZ7 : Hid (bx ≤ wc.heap.size ∧ bg ≤ wc.heap.size) := ⟨Nat.le_trans HSZ6.out.1 HDC.out.size, Nat.le_trans HSZ6.out.2 HDC.out.size⟩
  clear HU6 HO6 HG6 HGS6 HSZ6 HDC CX
  obtain ⟨k0, k1, k2, k3, k4, k5, k6, k7, k8, k9, k10, k11, k12⟩ := Blk.cells13a HU7.out.kx
  go_wp2_with fail
  refine (CM1.out HT.out bx g4 _ HO7.out HSZ7.out.1).mono ?_
  rintro e W8 ⟨rfl, d8, kp8⟩
  have HU8 : Hid (Ub w #[(.string q.sc), (.string q.us), (.string q.pw), (.int .i64 q.hk), (.string q.hn), (.int .i64 q.ha), (.int .i64 q.po), (.slice a n c), (.string q.op), (.bool q.hq), (.string q.qu), (.bool q.hf), (.string q.fr)] #[(.string r.sc), (.string r.us), (.string r.pw), (.int .i64 r.hk), (.string r.hn), (.int .i64 r.ha), (.int .i64 r.po), (.slice aw m cw), (.string r.op), (.bool r.hq), (.string r.qu), (.bool r.hf), (.string r.fr)] #[(.string q.sc), (.string q.us), (.string q.pw), (.int .i64 q.hk), (.string q.hn), (.int .i64 q.ha), (.int .i64 q.po), (.slice (some ⟨g4, 0, none⟩) n n), (.string q.op), (.bool q.hq), (.string q.qu), (.bool q.hf), (.string q.fr)] #[(.string r.sc), (.string r.us), (.string r.pw), (.int .i64 r.hk), (.string r.hn), (.int .i64 r.ha), (.int .i64 r.po), (.slice ag m cg), (.string r.op), (.bool r.hq), (.string r.qu), (.bool r.hf), (.string r.fr)] xw xx xg aw m r.ps W8) := HU7.out.mark kp8 HO7.out (HU7.out.bw.trans (d8.mono HWX.out)) (fun g b off h1 h2 h3 => by
    have := HLT.out b off h1 h3
    have e1 : g4 = g := by simpa using h2
    omega)
  have HG8 : Hid (OwnS bg (.slice ag m cg) r.ps W8) := kp8.own HG7.out (fun g b n' c' h1 h2 => by
    have e2 : ag = some ⟨b, 0, none⟩ := by injection h2
    have := HSEP.out g b h1 e2
    omega)
  have HSZ8 : Hid (bg ≤ W8.heap.size) := Nat.le_trans HSZ7.out.2 kp8.size
  have HGS8 : Hid (StrsOf ag m r.ps W8) := HG8.out.strsM HGS7.out.1
  clear d8 kp8 HU7 HO7 HG7 HGS7 HSZ7 CM1 k0 k1 k2 k3 k4 k5 k6 k7 k8 k9 k10 k11 k12
  obtain ⟨k0, k1, k2, k3, k4, k5, k6, k7, k8, k9, k10, k11, k12⟩ := Blk.cells13a HU8.out.kg
  obtain ⟨j0, j1, j2, j3, j4, j5, j6, j7, j8, j9, j10, j11, j12⟩ := Blk.cells13a HU8.out.kw
  go_wp2_with fail
  refine (CE.out HT.out ag cg aw cw _ HGS8.out HU8.out.sw).mono ?_
  rintro e W9 ⟨rfl, d9⟩
  have HU9 : Hid (Ub w #[(.string q.sc), (.string q.us), (.string q.pw), (.int .i64 q.hk), (.string q.hn), (.int .i64 q.ha), (.int .i64 q.po), (.slice a n c), (.string q.op), (.bool q.hq), (.string q.qu), (.bool q.hf), (.string q.fr)] #[(.string r.sc), (.string r.us), (.string r.pw), (.int .i64 r.hk), (.string r.hn), (.int .i64 r.ha), (.int .i64 r.po), (.slice aw m cw), (.string r.op), (.bool r.hq), (.string r.qu), (.bool r.hf), (.string r.fr)] #[(.string q.sc), (.string q.us), (.string q.pw), (.int .i64 q.hk), (.string q.hn), (.int .i64 q.ha), (.int .i64 q.po), (.slice (some ⟨g4, 0, none⟩) n n), (.string q.op), (.bool q.hq), (.string q.qu), (.bool q.hf), (.string q.fr)] #[(.string r.sc), (.string r.us), (.string r.pw), (.int .i64 r.hk), (.string r.hn), (.int .i64 r.ha), (.int .i64 r.po), (.slice ag m cg), (.string r.op), (.bool r.hq), (.string r.qu), (.bool r.hf), (.string r.fr)] xw xx xg aw m r.ps W9) := HU8.out.later d9
  have HG9 : Hid (OwnS bg (.slice ag m cg) r.ps W9) := HG8.out.later d9
  have HSZ9 : Hid (bg ≤ W9.heap.size) := Nat.le_trans HSZ8.out d9.size
  clear d9 HU8 HG8 HGS8 HSZ8 k0 k1 k2 k3 k4 k5 k6 k7 k8 k9 k10 k11 k12 j0 j1 j2 j3 j4 j5 j6 j7 j8 j9 j10 j11 j12
  obtain ⟨k0, k1, k2, k3, k4, k5, k6, k7, k8, k9, k10, k11, k12⟩ := Blk.cells13a HU9.out.kg
  go_wp2_with fail
  refine (CM2.out HT.out bg ag cg _ HG9.out HSZ9.out).mono ?_
  rintro e W10 ⟨rfl, s10, d10, kp10⟩
  have HU10 : Hid (Ub w #[(.string q.sc), (.string q.us), (.string q.pw), (.int .i64 q.hk), (.string q.hn), (.int .i64 q.ha), (.int .i64 q.po), (.slice a n c), (.string q.op), (.bool q.hq), (.string q.qu), (.bool q.hf), (.string q.fr)] #[(.string r.sc), (.string r.us), (.string r.pw), (.int .i64 r.hk), (.string r.hn), (.int .i64 r.ha), (.int .i64 r.po), (.slice aw m cw), (.string r.op), (.bool r.hq), (.string r.qu), (.bool r.hf), (.string r.fr)] #[(.string q.sc), (.string q.us), (.string q.pw), (.int .i64 q.hk), (.string q.hn), (.int .i64 q.ha), (.int .i64 q.po), (.slice (some ⟨g4, 0, none⟩) n n), (.string q.op), (.bool q.hq), (.string q.qu), (.bool q.hf), (.string q.fr)] #[(.string r.sc), (.string r.us), (.string r.pw), (.int .i64 r.hk), (.string r.hn), (.int .i64 r.ha), (.int .i64 r.po), (.slice ag m cg), (.string r.op), (.bool r.hq), (.string r.qu), (.bool r.hf), (.string r.fr)] xw xx xg aw m r.ps W10) := HU9.out.mark kp10 HG9.out (HU9.out.bw.trans (d10.mono HWV.out)) (fun g b off h1 h2 h3 => by
    have := HLT.out b off h1 h3
    have := HSEP.out g4 g rfl h2
    omega)
  have HM10 : Hid (StrsOf ag m (markTs 1 m) W10) := s10
  clear s10 d10 kp10 HU9 HG9 HSZ9 CM2 HLT HSEP k0 k1 k2 k3 k4 k5 k6 k7 k8 k9 k10 k11 k12
  obtain ⟨k0, k1, k2, k3, k4, k5, k6, k7, k8, k9, k10, k11, k12⟩ := Blk.cells13a HU10.out.kg
  go_wp2_with fail
  refine (CH.out HT.out ag cg _ HM10.out).mono ?_
  rintro e W11 ⟨rfl, d11⟩
  have HU11 : Hid (Ub w #[(.string q.sc), (.string q.us), (.string q.pw), (.int .i64 q.hk), (.string q.hn), (.int .i64 q.ha), (.int .i64 q.po), (.slice a n c), (.string q.op), (.bool q.hq), (.string q.qu), (.bool q.hf), (.string q.fr)] #[(.string r.sc), (.string r.us), (.string r.pw), (.int .i64 r.hk), (.string r.hn), (.int .i64 r.ha), (.int .i64 r.po), (.slice aw m cw), (.string r.op), (.bool r.hq), (.string r.qu), (.bool r.hf), (.string r.fr)] #[(.string q.sc), (.string q.us), (.string q.pw), (.int .i64 q.hk), (.string q.hn), (.int .i64 q.ha), (.int .i64 q.po), (.slice (some ⟨g4, 0, none⟩) n n), (.string q.op), (.bool q.hq), (.string q.qu), (.bool q.hf), (.string q.fr)] #[(.string r.sc), (.string r.us), (.string r.pw), (.int .i64 r.hk), (.string r.hn), (.int .i64 r.ha), (.int .i64 r.po), (.slice ag m cg), (.string r.op), (.bool r.hq), (.string r.qu), (.bool r.hf), (.string r.fr)] xw xx xg aw m r.ps W11) := HU10.out.later d11
  have HM11 : Hid (StrsOf ag m (markTs 1 m) W11) := HM10.out.later d11
  clear d11 HU10 HM10 k0 k1 k2 k3 k4 k5 k6 k7 k8 k9 k10 k11 k12
  obtain ⟨k0, k1, k2, k3, k4, k5, k6, k7, k8, k9, k10, k11, k12⟩ := Blk.cells13a HU11.out.la
  go_wp2_with fail
  refine (CT.out HT.out _ HU11.out.bw).mono ?_
  rintro e W12 ⟨g12, rfl, -, s12, d12⟩
  have HU12 : Hid (Ub w #[(.string q.sc), (.string q.us), (.string q.pw), (.int .i64 q.hk), (.string q.hn), (.int .i64 q.ha), (.int .i64 q.po), (.slice a n c), (.string q.op), (.bool q.hq), (.string q.qu), (.bool q.hf), (.string q.fr)] #[(.string r.sc), (.string r.us), (.string r.pw), (.int .i64 r.hk), (.string r.hn), (.int .i64 r.ha), (.int .i64 r.po), (.slice aw m cw), (.string r.op), (.bool r.hq), (.string r.qu), (.bool r.hf), (.string r.fr)] #[(.string q.sc), (.string q.us), (.string q.pw), (.int .i64 q.hk), (.string q.hn), (.int .i64 q.ha), (.int .i64 q.po), (.slice (some ⟨g4, 0, none⟩) n n), (.string q.op), (.bool q.hq), (.string q.qu), (.bool q.hf), (.string q.fr)] #[(.string r.sc), (.string r.us), (.string r.pw), (.int .i64 r.hk), (.string r.hn), (.int .i64 r.ha), (.int .i64 r.po), (.slice ag m cg), (.string r.op), (.bool r.hq), (.string r.qu), (.bool r.hf), (.string r.fr)] xw xx xg aw m r.ps W12) := HU11.out.later d12
  have HM12 : Hid (StrsOf ag m (markTs 1 m) W12) := HM11.out.later d12
  clear d12 HU11 HM11 k0 k1 k2 k3 k4 k5 k6 k7 k8 k9 k10 k11 k12 CT
  go_wp2_with fail
  refine (CI.out HT.out g12 _ HU12.out.bw s12).mono ?_
  rintro e W13 ⟨ah, ch, rfl, -, s13, d13⟩
  have HU13 : Hid (Ub w #[(.string q.sc), (.string q.us), (.string q.pw), (.int .i64 q.hk), (.string q.hn), (.int .i64 q.ha), (.int .i64 q.po), (.slice a n c), (.string q.op), (.bool q.hq), (.string q.qu), (.bool q.hf), (.string q.fr)] #[(.string r.sc), (.string r.us), (.string r.pw), (.int .i64 r.hk), (.string r.hn), (.int .i64 r.ha), (.int .i64 r.po), (.slice aw m cw), (.string r.op), (.bool r.hq), (.string r.qu), (.bool r.hf), (.string r.fr)] #[(.string q.sc), (.string q.us), (.string q.pw), (.int .i64 q.hk), (.string q.hn), (.int .i64 q.ha), (.int .i64 q.po), (.slice (some ⟨g4, 0, none⟩) n n), (.string q.op), (.bool q.hq), (.string q.qu), (.bool q.hf), (.string q.fr)] #[(.string r.sc), (.string r.us), (.string r.pw), (.int .i64 r.hk), (.string r.hn), (.int .i64 r.ha), (.int .i64 r.po), (.slice ag m cg), (.string r.op), (.bool r.hq), (.string r.qu), (.bool r.hf), (.string r.fr)] xw xx xg aw m r.ps W13) := HU12.out.later d13
  have HM13 : Hid (StrsOf ag m (markTs 1 m) W13) := HM12.out.later d13
  clear d13 HU12 HM12 s12 CI
  obtain ⟨V6, hV6⟩ : ∃ V, V = W13.alloc (.cells #[(.string r.sc), (.string r.us), (.string r.pw), (.int .i64 r.hk), (.string r.hn), (.int .i64 r.ha), (.int .i64 r.po), (.slice ah m ch), (.string r.op), (.bool r.hq), (.string r.qu), (.bool r.hf), (.string r.fr)] 26) := ⟨_, rfl⟩
  have HB6 : Hid (Below W13.heap.size W13 V6) := by show Below _ _ _; rw [hV6]; exact (Below.refl _ _).alloc (Nat.le_refl _) _
  have HU14 : Hid (Ub w #[(.string q.sc), (.string q.us), (.string q.pw), (.int .i64 q.hk), (.string q.hn), (.int .i64 q.ha), (.int .i64 q.po), (.slice a n c), (.string q.op), (.bool q.hq), (.string q.qu), (.bool q.hf), (.string q.fr)] #[(.string r.sc), (.string r.us), (.string r.pw), (.int .i64 r.hk), (.string r.hn), (.int .i64 r.ha), (.int .i64 r.po), (.slice aw m cw), (.string r.op), (.bool r.hq), (.string r.qu), (.bool r.hf), (.string r.fr)] #[(.string q.sc), (.string q.us), (.string q.pw), (.int .i64 q.hk), (.string q.hn), (.int .i64 q.ha), (.int .i64 q.po), (.slice (some ⟨g4, 0, none⟩) n n), (.string q.op), (.bool q.hq), (.string q.qu), (.bool q.hf), (.string q.fr)] #[(.string r.sc), (.string r.us), (.string r.pw), (.int .i64 r.hk), (.string r.hn), (.int .i64 r.ha), (.int .i64 r.po), (.slice ag m cg), (.string r.op), (.bool r.hq), (.string r.qu), (.bool r.hf), (.string r.fr)] xw xx xg aw m r.ps V6) := HU13.out.later HB6.out
  have HM14 : Hid (StrsOf ag m (markTs 1 m) V6) := HM13.out.later HB6.out
  have HS14 : Hid (StrsOf ah m r.ps V6) := s13.later HB6.out
  have HY14 : Hid (Blk W13.heap.size #[(.string r.sc), (.string r.us), (.string r.pw), (.int .i64 r.hk), (.string r.hn), (.int .i64 r.ha), (.int .i64 r.po), (.slice ah m ch), (.string r.op), (.bool r.hq), (.string r.qu), (.bool r.hf), (.string r.fr)] 26 V6) := by show Blk _ _ _ _; rw [hV6]; exact Blk.new W13 _ _
  clear HB6 HU13 HM13 s13
  go_upto_region 25 with fail
  rw [← hV6]
  clear hV6
  generalize W13.heap.size = xh at *
  obtain ⟨k0, k1, k2, k3, k4, k5, k6, k7, k8, k9, k10, k11, k12⟩ := Blk.cells13a HY14.out
  obtain ⟨j0, j1, j2, j3, j4, j5, j6, j7, j8, j9, j10, j11, j12⟩ := Blk.cells13a HU14.out.kw
  go_wp2_with fail
  refine (CE.out HT.out ah ch aw cw _ HS14.out HU14.out.sw).mono ?_
  rintro e W15 ⟨rfl, d15⟩
  have HU15 : Hid (Ub w #[(.string q.sc), (.string q.us), (.string q.pw), (.int .i64 q.hk), (.string q.hn), (.int .i64 q.ha), (.int .i64 q.po), (.slice a n c), (.string q.op), (.bool q.hq), (.string q.qu), (.bool q.hf), (.string q.fr)] #[(.string r.sc), (.string r.us), (.string r.pw), (.int .i64 r.hk), (.string r.hn), (.int .i64 r.ha), (.int .i64 r.po), (.slice aw m cw), (.string r.op), (.bool r.hq), (.string r.qu), (.bool r.hf), (.string r.fr)] #[(.string q.sc), (.string q.us), (.string q.pw), (.int .i64 q.hk), (.string q.hn), (.int .i64 q.ha), (.int .i64 q.po), (.slice (some ⟨g4, 0, none⟩) n n), (.string q.op), (.bool q.hq), (.string q.qu), (.bool q.hf), (.string q.fr)] #[(.string r.sc), (.string r.us), (.string r.pw), (.int .i64 r.hk), (.string r.hn), (.int .i64 r.ha), (.int .i64 r.po), (.slice ag m cg), (.string r.op), (.bool r.hq), (.string r.qu), (.bool r.hf), (.string r.fr)] xw xx xg aw m r.ps W15) := HU14.out.later d15
  have HM15 : Hid (StrsOf ag m (markTs 1 m) W15) := HM14.out.later d15
  clear d15 HU14 HM14 HS14 HY14 k0 k1 k2 k3 k4 k5 k6 k7 k8 k9 k10 k11 k12 j0 j1 j2 j3 j4 j5 j6 j7 j8 j9 j10 j11 j12 CE
  obtain ⟨k0, k1, k2, k3, k4, k5, k6, k7, k8, k9, k10, k11, k12⟩ := Blk.cells13a HU15.out.kg
  go_wp2_with fail
  refine (CH.out HT.out ag cg _ HM15.out).mono ?_
  rintro e W16 ⟨rfl, d16⟩
  have HFIN : Hid (Below w.heap.size w W16) := (HU15.out.later d16).bw
  clear d16 HU15 HM15 k0 k1 k2 k3 k4 k5 k6 k7 k8 k9 k10 k11 k12 CH HT
  go_wp2
  go_ret
  exact ⟨rfl, HFIN.out⟩
end Go.Proofs.YtmbojhlfhafhjaaGreatDoor
end

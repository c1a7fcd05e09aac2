/- spec.l1Dec of any number that is not below nought. spec.UrlOk: whether an address is ok. -/
import Derived.Test.YtnfhajhdpdidlaaGreatDoorB13
import Derived.Test.YtnfhajhdpdidlaaGreatDoorB36
import Derived.Test.YtnfhajhdpdidlaaGreatDoorB40
set_option linter.unusedVariables false
set_option linter.unusedSimpArgs false
set_option maxHeartbeats 4000000
set_option maxRecDepth 100000
section
namespace Go.Proofs.YtnfhajhdpdidlaaGreatDoor
open Go.RowKit Go.Shelf
theorem l1Dec_stepL (n : Int) (w : World) (h0 : 10 ≤ n) (h : n ≤ 9223372036854775807)
  (HC : ∀ W, Calls Tryz.prog 79 #[.int .i64 (n / 10)] W fun e w' => e = .returned (.string (mk (dg (n / 10)))) ∧ Below W.heap.size W w') :
  Calls Tryz.prog 79 #[.int .i64 n] w fun e w' => e = .returned (.string (mk (dg n))) ∧ Below w.heap.size w w' := by
 have HD : Hid (dg n = dg (n / 10) ++ [figC (n % 10)]) := dg_more n h0
 have hw1 : IntKind.i64.wrap (48 + n % 10) = 48 + n % 10 := by rw [IntKind.wrap_i64]; omega
 have hw2 : IntKind.u8.wrap (48 + n % 10) = 48 + n % 10 := by rw [IntKind.wrap_u8]; omega
 have ht1 : IntKind.i64.wrap (n.tdiv 10) = n / 10 := by rw [Int.tdiv_eq_ediv_of_nonneg (by omega), IntKind.wrap_i64]; omega
 have ht2 : n.tmod 10 = n % 10 := Int.tmod_eq_emod_of_nonneg (by omega)
 have hdv : (mk (dg (n / 10))).size ≤ 20 := by rw [mk_size]; exact dg_len20 _ (by omega) (by omega)
 have HFV : Hid (48 + n % 10 = ((figC (n % 10)).toNat : Int)) := fig_val (n % 10) (by omega) (by omega)
 obtain ⟨d, hd⟩ : ∃ d, d = mk (dg (n / 10)) := ⟨_, rfl⟩
 rw [← hd] at hdv
 have HC2 : Hid (∀ W, Calls Tryz.prog 79 #[.int .i64 (n / 10)] W fun e w' => e = .returned (.string d) ∧ Below W.heap.size W w') := by rw [hd]; exact HC
 have HDD : Hid (d = mk (dg (n / 10))) := hd
 clear HC hd
 obtain ⟨q, hq⟩ : ∃ q, q = mk [figC (n % 10)] := ⟨_, rfl⟩
 have hqs : q.size = 1 := by rw [hq, mk_size]; rfl
 have z3 : ¬ (9223372036854775807 < d.size + q.size) := by omega
 have z4 : d.size + q.size ≤ 9223372036854775807 := by omega
 have HQ : Hid (q = mk [figC (n % 10)]) := hq
 have cA : ∀ W : World, (convert 35 9 (.slice (some ⟨W.heap.size, 0, none⟩) 1 1)).run Tryz.prog (W.alloc (.cells #[.int .u8 (48 + n % 10)] 5)) = .ok (.string q) (W.alloc (.cells #[.int .u8 (48 + n % 10)] 5)) := fun W => by
  rw [hq]; exact conv_one W.heap.size (figC (n % 10)) _ (48 + n % 10) HFV.out (heap_alloc_new W _)
 have cB : (convert 35 9 (.slice (some ⟨w.heap.size, 0, none⟩) 1 1)).run Tryz.prog (w.drew.alloc (.cells #[.int .u8 (48 + n % 10)] 5)) = .ok (.string q) (w.drew.alloc (.cells #[.int .u8 (48 + n % 10)] 5)) := cA w.drew
 clear hq hqs hdv
 go_enter Tryz.func79, Tryz.ntmps79
 go_wp2
 go_region_with (first
  | (go_at_call 79; refine (HC2.out _).mono ?_; rintro e W1 ⟨rfl, bW⟩)
  | (rw [conv_one _ (figC (n % 10)) _ (48 + n % 10) HFV.out (by first | exact heap_alloc_new _ _ | exact heap_alloc_new w _ | exact heap_alloc_new W1 _ | exact (bW.block _ (Array.getElem?_eq_some_iff.1 (heap_alloc_new w _)).1).trans (heap_alloc_new w _)), ← HQ.out])
  | fail)
 all_goals
  go_wp2
  go_ret
  refine ⟨by rw [HD.out, mk_app, ← HDD.out, ← HQ.out]; rfl, ?_⟩
  first
   | exact dec_below1 bW
   | exact dec_below2 bW
   | exact dec_below3 bW
theorem l1DecFL : ∀ (f : Nat) (n : Int) (w : World), 0 ≤ n → n ≤ 9223372036854775807 → n ≤ (f : Int) →
  Calls Tryz.prog 79 #[.int .i64 n] w fun e w' => e = .returned (.string (mk (dg n))) ∧ Below w.heap.size w w' := by
 intro f
 induction f with
 | zero => intro n w h0 h hf; exact l1Dec_one n w h0 (by omega)
 | succ f ih =>
  intro n w h0 h hf
  by_cases h1 : n < 10
  ·exact l1Dec_one n w h0 h1
  ·exact l1Dec_stepL n w (by omega) h (fun W => ih (n / 10) W (by omega) (by omega) (by omega))
theorem l1DecL (n : Int) (w : World) (h0 : 0 ≤ n) (h : n ≤ 9223372036854775807) :
  Calls Tryz.prog 79 #[.int .i64 n] w fun e w' => e = .returned (.string (mk (dg n))) ∧ Below w.heap.size w w' := l1DecFL n.toNat n w h0 h (by omega)
end Go.Proofs.YtnfhajhdpdidlaaGreatDoor
end
section
namespace Go.Proofs.YtnfhajhdpdidlaaGreatDoor
open Go.RowKit Go.Shelf
def okP (q : P) : Prop := getB (writL q) = true ∧ getP (writL q) = q
theorem getP_pl (l : List UInt8) : (getP l).ps.length ≤ 1000 := by
 unfold getP getO
 split
 ·cases schP P.zero (trimL l) with
  | none => exact Nat.zero_le _
  | some r =>
   show ((if _ then some r else none : Option P).getD P.zero).ps.length ≤ 1000
   split
   ·rename_i h1; show r.ps.length ≤ 1000; omega
   ·exact Nat.zero_le _
 ·exact Nat.zero_le _
theorem list_mk (l : List UInt8) : (mk l).data.toList = l := by simp [mk]
theorem specUrlOk (q : P) (a : Option Addr) (n c : Nat) (w : World) (hS : StrsOf a n q.ps w) (hs : q.tot ≤ 1048576) (hpo : q.po ≤ 9223372036854775807) (b : Bool) (hb : b = true ↔ okP q) :
  Calls Tryz.prog 31 #[.agg (q.cells (.slice a n c))] w fun e w' => e = .returned (.bool b) ∧ Below w.heap.size w w' := by
 have hn : n = q.ps.length := hS.1
 obtain ⟨s, hsx⟩ : ∃ s, s = mk (writL q) := ⟨_, rfl⟩
 have hsl : s.size ≤ 1000000000 := by rw [hsx, mk_size]; have := writL_len q hpo; omega
 obtain ⟨r, hr⟩ : ∃ r, r = getP (writL q) := ⟨_, rfl⟩
 obtain ⟨ok, hok⟩ : ∃ ok, ok = getB (writL q) := ⟨_, rfl⟩
 have hrl : r.ps.length ≤ 1000 := by rw [hr]; exact getP_pl _
 have HB : Hid (b = true ↔ ok = true ∧ r = q) := by show _ ↔ _; rw [hb, hok, hr]; rfl
 have CP : Hid (∀ W, Below w.heap.size w W → Calls Tryz.prog 63 #[.agg #[(.string q.sc), (.string q.us), (.string q.pw), (.int .i64 q.hk), (.string q.hn), (.int .i64 q.ha), (.int .i64 q.po), (.slice a n c), (.string q.op), (.bool q.hq), (.string q.qu), (.bool q.hf), (.string q.fr)]] W fun e w' => e = .returned (.string s) ∧ Below W.heap.size W w') := fun W d => by
  rw [hsx, hn]
  exact l3Put q a c W (by rw [← hn]; exact hS.later d) (by omega) hpo (fun h W => l1DecL q.po W h hpo)
 have CG : Hid (∀ W, Calls Tryz.prog 83 #[.string s] W fun e w' => ∃ v, e = .returned (.tuple #[.agg (r.cells v), .bool ok]) ∧ OwnS W.heap.size v r.ps w' ∧ Below W.heap.size W w') := fun W => by
  have := specUrlGetL s W hsl
  rw [hsx, list_mk, ← hr, ← hok, ← hsx] at this
  exact this
 have CE : Hid (∀ a1 n1 c1 W (x : Bool), (x = true ↔ r = q) → n1 ≤ 1000 → StrsOf a1 n1 r.ps W → Below w.heap.size w W → Calls Tryz.prog 60 #[.agg #[(.string r.sc), (.string r.us), (.string r.pw), (.int .i64 r.hk), (.string r.hn), (.int .i64 r.ha), (.int .i64 r.po), (.slice a1 n1 c1), (.string r.op), (.bool r.hq), (.string r.qu), (.bool r.hf), (.string r.fr)], .agg #[(.string q.sc), (.string q.us), (.string q.pw), (.int .i64 q.hk), (.string q.hn), (.int .i64 q.ha), (.int .i64 q.po), (.slice a n c), (.string q.op), (.bool q.hq), (.string q.qu), (.bool q.hf), (.string q.fr)]] W fun e w' => e = .returned (.bool x) ∧ Below W.heap.size W w') := fun a1 n1 c1 W x hx h1 hr d => l3Equal r q a1 a n1 n c1 c W hr (hS.later d) (by omega) (by have : q.ps.length ≤ q.tot := (by unfold P.tot; omega); omega) x hx
 have H0 : Hid (Wp w q (.slice a n c) (w.alloc (.cells #[(.string q.sc), (.string q.us), (.string q.pw), (.int .i64 q.hk), (.string q.hn), (.int .i64 q.ha), (.int .i64 q.po), (.slice a n c), (.string q.op), (.bool q.hq), (.string q.qu), (.bool q.hf), (.string q.fr)] 31))) := Wp.start w q _
 clear hS hs hpo hb hn hsx hr hok hsl
 unfold P.cells
 go_enter Tryz.func31, Tryz.ntmps31
 go_wp2_with fail
 refine (CP.out _ H0.out.bw).mono ?_
 rintro e W1 ⟨rfl, d1⟩
 have HX1 : Hid (Wp w q (.slice a n c) W1) := H0.out.later d1
 clear d1 H0 CP
 go_wp2_with fail
 refine (CG.out _).mono ?_
 rintro e W2 ⟨v2, rfl, o2, d2⟩
 obtain ⟨a2, c2, hv2, hc2, s2⟩ := o2.strs
 obtain ⟨n2, hn2⟩ : ∃ n2, n2 = r.ps.length := ⟨_, rfl⟩
 rw [← hn2] at hv2 s2 hrl
 subst hv2
 have HX2 : Hid (Wp w q (.slice a n c) W2) := HX1.out.later d2
 have HS2 : Hid (StrsOf a2 n2 r.ps W2) := s2
 clear o2 d2 s2 hc2 HX1 CG hn2
 unfold P.cells
 obtain ⟨V, hV⟩ : ∃ V, V = W2.alloc (.cells #[(.string r.sc), (.string r.us), (.string r.pw), (.int .i64 r.hk), (.string r.hn), (.int .i64 r.ha), (.int .i64 r.po), (.slice a2 n2 c2), (.string r.op), (.bool r.hq), (.string r.qu), (.bool r.hf), (.string r.fr)] 31) := ⟨_, rfl⟩
 have HBV : Hid (Below W2.heap.size W2 V) := by show Below _ _ _; rw [hV]; exact (Below.refl _ _).alloc (Nat.le_refl _) _
 have HXV : Hid (Wp w q (.slice a n c) V) := HX2.out.later HBV.out
 have HRV : Hid (Blk W2.heap.size #[(.string r.sc), (.string r.us), (.string r.pw), (.int .i64 r.hk), (.string r.hn), (.int .i64 r.ha), (.int .i64 r.po), (.slice a2 n2 c2), (.string r.op), (.bool r.hq), (.string r.qu), (.bool r.hf), (.string r.fr)] 31 V) := by show Blk _ _ _ _; rw [hV]; exact Blk.new W2 _ _
 cases ok with
 | false =>
  have HF : Hid (b = false) := by
   show b = false
   cases b with
   | false => rfl
   | true => exact absurd (HB.out.1 rfl).1 (by decide)
  clear CE HB HS2
  have HV : Hid (Below w.heap.size w (W2.alloc (.cells #[(.string r.sc), (.string r.us), (.string r.pw), (.int .i64 r.hk), (.string r.hn), (.int .i64 r.ha), (.int .i64 r.po), (.slice a2 n2 c2), (.string r.op), (.bool r.hq), (.string r.qu), (.bool r.hf), (.string r.fr)] 31))) := by have := HXV.out.bw; rw [hV] at this; exact this
  clear HXV HRV HBV hV
  go_wp2
  go_ret
  exact ⟨by rw [HF.out]; rfl, HV.out⟩
 | true =>
  obtain ⟨x, hx⟩ : ∃ x : Bool, (x = true ↔ r = q) := by
   by_cases h : r = q
   ·exact ⟨true, by simp [h]⟩
   ·exact ⟨false, by simp [h]⟩
  have HF : Hid (b = x) := by
   show b = x
   rw [Bool.eq_iff_iff, HB.out, hx]; simp
  have CE2 : Hid (Calls Tryz.prog 60 #[.agg #[(.string r.sc), (.string r.us), (.string r.pw), (.int .i64 r.hk), (.string r.hn), (.int .i64 r.ha), (.int .i64 r.po), (.slice a2 n2 c2), (.string r.op), (.bool r.hq), (.string r.qu), (.bool r.hf), (.string r.fr)], .agg #[(.string q.sc), (.string q.us), (.string q.pw), (.int .i64 q.hk), (.string q.hn), (.int .i64 q.ha), (.int .i64 q.po), (.slice a n c), (.string q.op), (.bool q.hq), (.string q.qu), (.bool q.hf), (.string q.fr)]] V fun e w' => e = .returned (.bool x) ∧ Below V.heap.size V w') := CE.out a2 n2 c2 V x hx hrl (HS2.out.later HBV.out) HXV.out.bw
  clear CE HB hx HS2 hrl HX2
  have HXB : Hid (Below w.heap.size w V) := HXV.out.bw
  obtain ⟨k0, k1, k2, k3, k4, k5, k6, k7, k8, k9, k10, k11, k12⟩ := HXV.out.cells
  obtain ⟨j0, j1, j2, j3, j4, j5, j6, j7, j8, j9, j10, j11, j12⟩ := Blk.cells13a HRV.out
  rw [hV] at CE2 HXB k0 k1 k2 k3 k4 k5 k6 k7 k8 k9 k10 k11 k12 j0 j1 j2 j3 j4 j5 j6 j7 j8 j9 j10 j11 j12
  clear HXV HRV HBV hV
  go_wp2_with fail
  refine CE2.out.mono ?_
  rintro e W3 ⟨rfl, d3⟩
  have HB3 : Hid (Below w.heap.size w W3) := HXB.out.trans (d3.mono HXB.out.size)
  clear d3 HXB CE2 k0 k1 k2 k3 k4 k5 k6 k7 k8 k9 k10 k11 k12 j0 j1 j2 j3 j4 j5 j6 j7 j8 j9 j10 j11 j12
  go_wp2
  go_ret
  exact ⟨by rw [HF.out]; rfl, HB3.out⟩
end Go.Proofs.YtnfhajhdpdidlaaGreatDoor
end

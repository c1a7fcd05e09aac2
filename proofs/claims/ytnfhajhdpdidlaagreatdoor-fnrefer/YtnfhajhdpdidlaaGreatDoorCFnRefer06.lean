/- spec.l4Same, spec.OriginSame: two addresses of one origin. spec.OriginPut: an origin, written. -/
import Derived.Test.YtnfhajhdpdidlaaGreatDoorCFnRefer03
import Derived.Test.YtnfhajhdpdidlaaGreatDoorB16
import Derived.Deep.RegionHeld3
import Derived.Test.YtnfhajhdpdidlaaGreatDoorCFnRefer04
import Derived.Test.YtnfhajhdpdidlaaGreatDoorB34
set_option linter.unusedVariables false
set_option linter.unusedSimpArgs false
set_option maxHeartbeats 8000000
set_option maxRecDepth 100000
section
namespace Go.Proofs.YtnfhajhdpdidlaaGreatDoor
open Go.RowKit Go.Shelf
theorem tl_eq {x y : ByteArray} (h : x.toList = y.toList) : x = y := by
 by_cases e : x = y
 ·exact e
 ·have := tlb_ne e
  rw [h] at this
  simp at this
theorem five_if {u0 v0 : ByteArray} {u1 v1 : Int} {u2 v2 : ByteArray} {u3 v3 u4 v4 : Int} {x : Bool} (hx : x = true ↔ (u0 = v0 ∧ u1 = v1 ∧ u2 = v2 ∧ u3 = v3 ∧ u4 = v4)) (w : World) :
  (if u0.toList = v0.toList then (if u1 = v1 then (if u2.toList = v2.toList then (if u3 = v3 then (if u4 = v4 then Result.ok (Next.value (Value.bool true)) w else Result.ok (Next.value (Value.bool false)) w) else Result.ok (Next.value (Value.bool false)) w) else Result.ok (Next.value (Value.bool false)) w) else Result.ok (Next.value (Value.bool false)) w) else Result.ok (Next.value (Value.bool false)) w) = Result.ok (Next.value (Value.bool x)) w := by
 cases hxx : x with
 | true =>
  obtain ⟨h0, h1, h2, h3, h4⟩ := hx.1 hxx
  rw [if_pos (by rw [h0]), if_pos h1, if_pos (by rw [h2]), if_pos h3, if_pos h4]
 | false =>
  by_cases g0 : u0.toList = v0.toList
  ·rw [if_pos g0]
   by_cases g1 : u1 = v1
   ·rw [if_pos g1]
    by_cases g2 : u2.toList = v2.toList
    ·rw [if_pos g2]
     by_cases g3 : u3 = v3
     ·rw [if_pos g3]
      by_cases g4 : u4 = v4
      ·have := hx.2 ⟨tl_eq g0, g1, tl_eq g2, g3, g4⟩
       rw [hxx] at this; cases this
      ·rw [if_neg g4]
     ·rw [if_neg g3]
    ·rw [if_neg g2]
   ·rw [if_neg g1]
  ·rw [if_neg g0]
theorem l4SameNo (p q : P) (a a' : Option Addr) (n n' c c' : Nat) (w : World) (ho : ¬ 0 ≤ ownZ p.sc) :
  Calls Tryz.prog 49 #[.agg (p.cells (.slice a n c)), .agg (q.cells (.slice a' n' c'))] w fun e w' => e = .returned (.bool false) ∧ Below w.heap.size w w' := by
 have COH : Hid (∀ W, Calls Tryz.prog 62 #[.string p.sc] W fun e w' => e = .returned (.int .i64 (ownZ p.sc)) ∧ w' = W) := fun W => l3Own p.sc W
 have HSO : Hid (decide (0 ≤ ownZ p.sc) = false) := decide_eq_false ho
 obtain ⟨V, hV⟩ : ∃ V, V = ((w.alloc (.cells #[(.string p.sc), (.string p.us), (.string p.pw), (.int .i64 p.hk), (.string p.hn), (.int .i64 p.ha), (.int .i64 p.po), (.slice a n c), (.string p.op), (.bool p.hq), (.string p.qu), (.bool p.hf), (.string p.fr)] 31)).alloc (.cells #[(.string q.sc), (.string q.us), (.string q.pw), (.int .i64 q.hk), (.string q.hn), (.int .i64 q.ha), (.int .i64 q.po), (.slice a' n' c'), (.string q.op), (.bool q.hq), (.string q.qu), (.bool q.hf), (.string q.fr)] 31)) := ⟨_, rfl⟩
 have HK0 : Hid (Tw w (p.cells (.slice a n c)) (q.cells (.slice a' n' c')) V) := by show Tw _ _ _ _; rw [hV]; exact Tw.start w _ _
 have HS : Hid (∀ W, Below V.heap.size V W → Tw w (p.cells (.slice a n c)) (q.cells (.slice a' n' c')) W ∧ (fun W => Below w.heap.size w W ∧ Sc w.heap.size p a n c W ∧ Sc (w.heap.size + 1) q a' n' c' W) W) := fun W d => ⟨HK0.out.later d, (HK0.out.later d).bw, Sc.of (HK0.out.later d).b1, Sc.of (HK0.out.later d).b2⟩
 clear HK0 ho
 unfold P.cells
 go_enter Tryz.func49, Tryz.ntmps49
 go_upto_region 1 with fail
 rw [← hV]
 clear hV
 go_wp2
 refine wp_region_held_drew (S := (fun W => Below w.heap.size w W ∧ Sc w.heap.size p a n c W ∧ Sc (w.heap.size + 1) q a' n' c' W)) (by kernel_rfl) ((HS.out _ (Below.refl _ _).drew).2) (fun hHeld => ?_)
 refine tk 0 rfl (by kernel_rfl) (fun _ _ _ h => h) (by rfl) (fun w hSw => by (try dsimp only [Sc] at hSw); go_simp; try (with_reducible rfl)) (by assumption) ?_
 simp only [Act.put, x1, x2, x3, x4, x5, x6]
 refine tk 1 rfl (by kernel_rfl) (fun _ _ _ h => h) (by rfl) (fun w hSw => by (try dsimp only [Sc] at hSw); go_simp; try (with_reducible rfl)) (by assumption) ?_
 simp only [Act.put, x1, x2, x3, x4, x5, x6]
 refine wpAnyH_ready (rs := [2]) (by kernel_rfl) (by simp) ?_
 refine AllReadyH.cons (o := _) rfl (fun K hK => ?_) AllReadyH.nil
 go_simp
 refine (COH.out _).mono ?_
 rintro e W9 ⟨rfl, hW⟩
 have hW2 := hW.symm
 subst hW2
 clear hW
 refine hK.out _ _ (hHeld) (fun hHeld => ?_)
 clear hK K
 try simp only [Act.put, x1, x2, x3, x4, x5, x6]
 refine tk (v := .bool false) 3 rfl (by kernel_rfl) (fun _ _ _ h => h) (by rfl) (fun w hSw => by (try dsimp only [Sc] at hSw); go_simp; first | exact HSO.out | (have h := HSO.out; simpa using h)) (by assumption) ?_
 simp only [Act.put, x1, x2, x3, x4, x5, x6]
 refine tk 4 rfl (by kernel_rfl) (fun _ _ _ h => h) (by rfl) (fun w hSw => by (try dsimp only [Sc] at hSw); go_simp; try (with_reducible rfl)) (by assumption) ?_
 simp only [Act.put, x1, x2, x3, x4, x5, x6]
 refine wpAnyH_take (i := 5) (oi := _) (v := undef) rfl (by kernel_rfl) (by kernel_rfl) (by kernel_rfl) (fun _ _ _ h => h) (Or.inr ⟨by simp [Region.wanted, yielded, undef, Act.put], rfl⟩) (by assumption) ?_
 refine wpAnyH_take (i := 6) (oi := _) (v := undef) rfl (by kernel_rfl) (by kernel_rfl) (by kernel_rfl) (fun _ _ _ h => h) (Or.inr ⟨by simp [Region.wanted, yielded, undef, Act.put], rfl⟩) (by assumption) ?_
 refine wpAnyH_take (i := 7) (oi := _) (v := undef) rfl (by kernel_rfl) (by kernel_rfl) (by kernel_rfl) (fun _ _ _ h => h) (Or.inr ⟨by simp [Region.wanted, yielded, undef, Act.put], rfl⟩) (by assumption) ?_
 refine wpAnyH_take (i := 8) (oi := _) (v := undef) rfl (by kernel_rfl) (by kernel_rfl) (by kernel_rfl) (fun _ _ _ h => h) (Or.inr ⟨by simp [Region.wanted, yielded, undef, Act.put], rfl⟩) (by assumption) ?_
 refine wpAnyH_take (i := 9) (oi := _) (v := undef) rfl (by kernel_rfl) (by kernel_rfl) (by kernel_rfl) (fun _ _ _ h => h) (Or.inr ⟨by simp [Region.wanted, yielded, undef, Act.put], rfl⟩) (by assumption) ?_
 simp only [Act.put, x1, x2, x3, x4, x5, x6]
 refine tk 10 rfl (by kernel_rfl) (fun _ _ _ h => h) (by rfl) (fun w hSw => by (try dsimp only [Sc] at hSw); go_simp; try (with_reducible rfl)) (by assumption) ?_
 simp only [Act.put, x1, x2, x3, x4, x5, x6]
 refine tk 11 rfl (by kernel_rfl) (fun _ _ _ h => h) (by rfl) (fun w hSw => by (try dsimp only [Sc] at hSw); go_simp; try (with_reducible rfl)) (by assumption) ?_
 simp only [Act.put, x1, x2, x3, x4, x5, x6]
 refine wpAnyH_done (by kernel_rfl) ?_ _
 go_wp2
 go_ret
 exact ⟨rfl, hHeld.1⟩
theorem l4SameYes (p q : P) (a a' : Option Addr) (n n' c c' : Nat) (w : World) (ho : 0 ≤ ownZ p.sc) (u0 : ByteArray) (u1 : Int) (u2 : ByteArray) (u3 u4 : Int) (v0 : ByteArray) (v1 : Int) (v2 : ByteArray) (v3 v4 : Int) (ea : orgV p = #[.string u0, .int .i64 u1, .string u2, .int .i64 u3, .int .i64 u4]) (eb : orgV q = #[.string v0, .int .i64 v1, .string v2, .int .i64 v3, .int .i64 v4]) (x : Bool) (hx : x = true ↔ (u0 = v0 ∧ u1 = v1 ∧ u2 = v2 ∧ u3 = v3 ∧ u4 = v4)) :
  Calls Tryz.prog 49 #[.agg (p.cells (.slice a n c)), .agg (q.cells (.slice a' n' c'))] w fun e w' => e = .returned (.bool x) ∧ Below w.heap.size w w' := by
 have COH : Hid (∀ W, Calls Tryz.prog 62 #[.string p.sc] W fun e w' => e = .returned (.int .i64 (ownZ p.sc)) ∧ w' = W) := fun W => l3Own p.sc W
 have HSO : Hid (decide (0 ≤ ownZ p.sc) = true) := decide_eq_true ho
 have CLA : Hid (∀ W, Calls Tryz.prog 82 #[.agg #[(.string p.sc), (.string p.us), (.string p.pw), (.int .i64 p.hk), (.string p.hn), (.int .i64 p.ha), (.int .i64 p.po), (.slice a n c), (.string p.op), (.bool p.hq), (.string p.qu), (.bool p.hf), (.string p.fr)]] W fun e w' => e = .returned (.agg #[.string u0, .int .i64 u1, .string u2, .int .i64 u3, .int .i64 u4]) ∧ Below W.heap.size W w') := fun W => by rw [← ea]; exact l4Origin p a n c W
 have CLB : Hid (∀ W, Calls Tryz.prog 82 #[.agg #[(.string q.sc), (.string q.us), (.string q.pw), (.int .i64 q.hk), (.string q.hn), (.int .i64 q.ha), (.int .i64 q.po), (.slice a' n' c'), (.string q.op), (.bool q.hq), (.string q.qu), (.bool q.hf), (.string q.fr)]] W fun e w' => e = .returned (.agg #[.string v0, .int .i64 v1, .string v2, .int .i64 v3, .int .i64 v4]) ∧ Below W.heap.size W w') := fun W => by rw [← eb]; exact l4Origin q a' n' c' W
 have HXE : Hid (x = true ↔ (u0 = v0 ∧ u1 = v1 ∧ u2 = v2 ∧ u3 = v3 ∧ u4 = v4)) := hx
 obtain ⟨V, hV⟩ : ∃ V, V = ((w.alloc (.cells #[(.string p.sc), (.string p.us), (.string p.pw), (.int .i64 p.hk), (.string p.hn), (.int .i64 p.ha), (.int .i64 p.po), (.slice a n c), (.string p.op), (.bool p.hq), (.string p.qu), (.bool p.hf), (.string p.fr)] 31)).alloc (.cells #[(.string q.sc), (.string q.us), (.string q.pw), (.int .i64 q.hk), (.string q.hn), (.int .i64 q.ha), (.int .i64 q.po), (.slice a' n' c'), (.string q.op), (.bool q.hq), (.string q.qu), (.bool q.hf), (.string q.fr)] 31)) := ⟨_, rfl⟩
 have HK0 : Hid (Tw w (p.cells (.slice a n c)) (q.cells (.slice a' n' c')) V) := by show Tw _ _ _ _; rw [hV]; exact Tw.start w _ _
 have HS : Hid (∀ W, Below V.heap.size V W → Tw w (p.cells (.slice a n c)) (q.cells (.slice a' n' c')) W ∧ (fun W => Below w.heap.size w W ∧ Sc w.heap.size p a n c W ∧ Sc (w.heap.size + 1) q a' n' c' W) W) := fun W d => ⟨HK0.out.later d, (HK0.out.later d).bw, Sc.of (HK0.out.later d).b1, Sc.of (HK0.out.later d).b2⟩
 clear HK0 ho ea eb hx
 unfold P.cells
 go_enter Tryz.func49, Tryz.ntmps49
 go_upto_region 1 with fail
 rw [← hV]
 clear hV
 go_wp2
 refine wp_region_held_drew (S := (fun W => Below w.heap.size w W ∧ Sc w.heap.size p a n c W ∧ Sc (w.heap.size + 1) q a' n' c' W)) (by kernel_rfl) ((HS.out _ (Below.refl _ _).drew).2) (fun hHeld => ?_)
 refine tk 0 rfl (by kernel_rfl) (fun _ _ _ h => h) (by rfl) (fun w hSw => by (try dsimp only [Sc] at hSw); go_simp; try (with_reducible rfl)) (by assumption) ?_
 simp only [Act.put, x1, x2, x3, x4, x5, x6]
 refine tk 1 rfl (by kernel_rfl) (fun _ _ _ h => h) (by rfl) (fun w hSw => by (try dsimp only [Sc] at hSw); go_simp; try (with_reducible rfl)) (by assumption) ?_
 simp only [Act.put, x1, x2, x3, x4, x5, x6]
 refine wpAnyH_ready (rs := [2]) (by kernel_rfl) (by simp) ?_
 refine AllReadyH.cons (o := _) rfl (fun K hK => ?_) AllReadyH.nil
 go_simp
 refine (COH.out _).mono ?_
 rintro e W9 ⟨rfl, hW⟩
 have hW2 := hW.symm
 subst hW2
 clear hW
 refine hK.out _ _ (hHeld) (fun hHeld => ?_)
 clear hK K
 try simp only [Act.put, x1, x2, x3, x4, x5, x6]
 refine tk (v := .bool true) 3 rfl (by kernel_rfl) (fun _ _ _ h => h) (by rfl) (fun w hSw => by (try dsimp only [Sc] at hSw); go_simp; first | exact HSO.out | (have h := HSO.out; simpa using h)) (by assumption) ?_
 simp only [Act.put, x1, x2, x3, x4, x5, x6]
 refine tk 4 rfl (by kernel_rfl) (fun _ _ _ h => h) (by rfl) (fun w hSw => by (try dsimp only [Sc] at hSw); go_simp; try (with_reducible rfl)) (by assumption) ?_
 simp only [Act.put, x1, x2, x3, x4, x5, x6]
 refine tk 5 rfl (by kernel_rfl) (fun _ _ _ h => h) (by rfl) (fun w hSw => by (try dsimp only [Sc] at hSw); go_simp; try (with_reducible rfl)) (by assumption) ?_
 simp only [Act.put, x1, x2, x3, x4, x5, x6]
 refine tk 7 rfl (by kernel_rfl) (fun _ _ _ h => h) (by rfl) (fun w hSw => by (try dsimp only [Sc] at hSw); go_simp; try (with_reducible rfl)) (by assumption) ?_
 simp only [Act.put, x1, x2, x3, x4, x5, x6]
 refine wpAnyH_ready (rs := [6]) (by kernel_rfl) (by simp) ?_
 refine AllReadyH.cons (o := _) rfl (fun K hK => ?_) AllReadyH.nil
 go_simp
 refine (CLA.out _).mono ?_
 rintro e W1 ⟨rfl, d1⟩
 have D1 : Hid (Below V.heap.size V W1) := ((Below.refl _ V).drew).trans d1
 refine hK.out _ _ ((HS.out _ D1.out).2) (fun hHeld => ?_)
 clear hK K
 try simp only [Act.put, x1, x2, x3, x4, x5, x6]
 refine wpAnyH_ready (rs := [8]) (by kernel_rfl) (by simp) ?_
 refine AllReadyH.cons (o := _) rfl (fun K hK => ?_) AllReadyH.nil
 go_simp
 refine (CLB.out _).mono ?_
 rintro e W2 ⟨rfl, d2⟩
 have D2 : Hid (Below V.heap.size V W2) := D1.out.trans (d2.mono D1.out.size)
 refine hK.out _ _ ((HS.out _ D2.out).2) (fun hHeld => ?_)
 clear hK K
 try simp only [Act.put, x1, x2, x3, x4, x5, x6]
 refine tk (v := .bool x) 9 rfl (by kernel_rfl) (fun _ _ _ h => h) (by rfl) (fun w hSw => by (try dsimp only [Sc] at hSw); go_simp; exact five_if HXE.out w) (by assumption) ?_
 simp only [Act.put, x1, x2, x3, x4, x5, x6]
 refine tk 10 rfl (by kernel_rfl) (fun _ _ _ h => h) (by rfl) (fun w hSw => by (try dsimp only [Sc] at hSw); go_simp; try (with_reducible rfl)) (by assumption) ?_
 simp only [Act.put, x1, x2, x3, x4, x5, x6]
 refine tk 11 rfl (by kernel_rfl) (fun _ _ _ h => h) (by rfl) (fun w hSw => by (try dsimp only [Sc] at hSw); go_simp; try (with_reducible rfl)) (by assumption) ?_
 simp only [Act.put, x1, x2, x3, x4, x5, x6]
 refine wpAnyH_done (by kernel_rfl) ?_ _
 go_wp2
 go_ret
 exact ⟨rfl, hHeld.1⟩
theorem l4Same (p q : P) (a a' : Option Addr) (n n' c c' : Nat) (w : World) (y : Bool) (hy : y = true ↔ (0 ≤ ownZ p.sc ∧ orgV p = orgV q)) :
  Calls Tryz.prog 49 #[.agg (p.cells (.slice a n c)), .agg (q.cells (.slice a' n' c'))] w fun e w' => e = .returned (.bool y) ∧ Below w.heap.size w w' := by
 by_cases ho : 0 ≤ ownZ p.sc
 ·obtain ⟨u0, u1, u2, u3, u4, ea⟩ := orgV_shape p
  obtain ⟨v0, v1, v2, v3, v4, eb⟩ := orgV_shape q
  exact l4SameYes p q a a' n n' c c' w ho u0 u1 u2 u3 u4 v0 v1 v2 v3 v4 ea eb y (by rw [hy, ea, eb]; simp [ho])
 ·obtain rfl : y = false := by rw [Bool.eq_false_iff]; intro h; exact ho (hy.1 h).1
  exact l4SameNo p q a a' n n' c c' w ho
end Go.Proofs.YtnfhajhdpdidlaaGreatDoor
end
section
namespace Go.Proofs.YtnfhajhdpdidlaaGreatDoor
open Go.RowKit Go.Shelf
theorem specOrigin (c : ByteArray) (k : Int) (s : ByteArray) (a p : Int) (w : World) (hs : s.size ≤ 1048576) :
  Calls Tryz.prog 27 #[.agg #[.string c, .int .i64 k, .string s, .int .i64 a, .int .i64 p]] w fun e w' => e = .returned (.string (orgT c k s a p)) ∧ Below w.heap.size w w' := by
 have CO : Hid (∀ W, Calls Tryz.prog 76 #[.agg #[.int .i64 k, .string s, .int .i64 a]] W fun e w' => e = .returned (.bool (okH k s a)) ∧ Below W.heap.size W w') := fun W => specOk k s a W hs
 have CP : Hid (∀ W, Calls Tryz.prog 78 #[.agg #[.int .i64 k, .string s, .int .i64 a]] W fun e w' => e = .returned (.string (mk (putT k s a))) ∧ Below W.heap.size W w') := fun W => specPut k s a W hs
 have hpl : (mk (putT k s a)).size ≤ 60 := by rw [mk_size]; exact putT_len k s a
 have CW : Hid (∀ W, Calls Tryz.prog 62 #[.string c] W fun e w' => e = .returned (.int .i64 (ownZ c)) ∧ w' = W) := fun W => l3Own c W
 have hB0 : Below w.heap.size w (w.alloc (Obj.cells #[.string c, .int .i64 k, .string s, .int .i64 a, .int .i64 p] 48)) := (Below.refl _ w).alloc (Nat.le_refl _) _
 rcases own_cases c with ho | ho
 ·have HR : Hid (orgT c k s a p = ⟨#[110, 117, 108, 108]⟩) := by show _ = _; unfold orgT orgOk; rw [ho]; rfl
  have ho' : ownZ c < 0 := by omega
  clear ho
  go_enter Tryz.func27, Tryz.ntmps27
  go_wp2_with fail
  refine (CW.out _).mono ?_
  rintro e W1 ⟨rfl, rfl⟩
  go_wp2
  go_ret
  exact ⟨by rw [HR.out]; rfl, hB0⟩
 obtain ⟨hc5, ho2⟩ := own_small ho
 cases hok : okH k s a with
 | false =>
  have HR : Hid (orgT c k s a p = ⟨#[110, 117, 108, 108]⟩) := by show _ = _; unfold orgT orgOk; rw [hok]; simp
  rw [hok] at CO
  clear hok
  go_enter Tryz.func27, Tryz.ntmps27
  go_wp2_with fail
  refine (CW.out _).mono ?_
  rintro e W1 ⟨rfl, rfl⟩
  go_wp2_with fail
  refine (CO.out _).mono ?_
  rintro e W2 ⟨rfl, d2⟩
  have b2 := hB0.trans (d2.mono hB0.size)
  go_wp2
  go_ret
  exact ⟨by rw [HR.out]; rfl, b2⟩
 | true =>
  rw [hok] at CO
  by_cases hp : 0 ≤ p ∧ p ≤ 65535
  ·have CN : Hid (∀ W, Calls Tryz.prog 77 #[.int .i64 p, .int .i64 0, .int .i64 65535] W fun e w' => e = .returned (.bool true) ∧ w' = W) := fun W => l1In_yes _ _ _ W hp
   obtain ⟨hp0, hp1⟩ := hp
   have CI : Hid (∀ W, Calls Tryz.prog 79 #[.int .i64 p] W fun e w' => e = .returned (.string (mk (dg p))) ∧ Below W.heap.size W w') := fun W => l1DecM p W hp0 (by omega)
   have hdl : (mk (dg p)).size ≤ 5 := by rw [mk_size]; exact dg_len5 p (by omega)
   have hyes : orgOk c k s a p = true := by unfold orgOk; rw [hok, decide_eq_true ho, decide_eq_true ⟨hp0, hp1⟩]; rfl
   have HR1 : Hid (p = ownZ c → orgT c k s a p = c ++ ⟨#[58, 47, 47]⟩ ++ mk (putT k s a)) := by intro h; unfold orgT; rw [if_pos hyes, if_pos h]
   have HR2 : Hid (¬ p = ownZ c → orgT c k s a p = c ++ ⟨#[58, 47, 47]⟩ ++ mk (putT k s a) ++ ⟨#[58]⟩ ++ mk (dg p)) := by intro h; unfold orgT; rw [if_pos hyes, if_neg h, ByteArray.append_assoc (c := mk (dg p))]
   clear hyes hok
   generalize mk (putT k s a) = P at *
   generalize mk (dg p) = D at *
   generalize orgT c k s a p = R at *
   generalize ownZ c = o at *
   have z1 : c.size + 3 ≤ 8 := by omega
   go_enter Tryz.func27, Tryz.ntmps27
   go_wp2_with fail
   refine (CW.out _).mono ?_
   rintro e W1 ⟨rfl, rfl⟩
   go_wp2_with fail
   refine (CO.out _).mono ?_
   rintro e W2 ⟨rfl, d2⟩
   have b2 := hB0.trans (d2.mono hB0.size)
   have q0 : W2.cell? ⟨w.heap.size, 0, none⟩ = some (.string c) := box_cell d2 0
   have q1 : W2.cell? ⟨w.heap.size, 1, none⟩ = some (.int .i64 k) := box_cell d2 1
   have q2 : W2.cell? ⟨w.heap.size, 2, none⟩ = some (.string s) := box_cell d2 2
   have q3 : W2.cell? ⟨w.heap.size, 3, none⟩ = some (.int .i64 a) := box_cell d2 3
   have q4 : W2.cell? ⟨w.heap.size, 4, none⟩ = some (.int .i64 p) := box_cell d2 4
   have hlt2 : w.heap.size < W2.heap.size := cell_lt q0
   clear d2
   go_wp2_with (first | (go_at_call 77; refine (CN.out _).mono ?_; rintro e W9 ⟨rfl, hW⟩; have hW2 := hW.symm; subst hW2) | fail)
   refine (fun (key : Hid ?restT) => ?restB) ?restP
   case restB =>
    go_region_with (first
     | (go_at_call 78; refine (CP.out _).mono ?_; rintro e W3 ⟨rfl, d3⟩; have p4 : W3.cell? ⟨w.heap.size, 4, none⟩ = some (.int .i64 p) := (d3.cell (p := ⟨w.heap.size, 4, none⟩) hlt2).trans q4; have p0 : W3.cell? ⟨w.heap.size, 0, none⟩ = some (.string c) := (d3.cell (p := ⟨w.heap.size, 0, none⟩) hlt2).trans q0)
     | fail)
    all_goals
     have b3 : Below w.heap.size w W3 := b2.drew.trans (d3.mono b2.size)
     clear d3
     revert p0 p4 b3
     revert W3
     exact key.out
   case restP =>
    intro W3 p0 p4 b3
    clear q0 q1 q2 q3 q4
    by_cases hpo : p = o
    ·have HR : Hid (R = c ++ ⟨#[58, 47, 47]⟩ ++ P) := HR1.out hpo
     subst hpo
     clear HR1 HR2
     go_wp2
     go_region_with (first
      | (go_at_call 62; refine (CW.out _).mono ?_; rintro e W9 ⟨rfl, hW⟩; have hW2 := hW.symm; subst hW2)
      | fail)
     all_goals
      go_wp2
      go_ret
      exact ⟨by rw [HR.out]; rfl, b3.drew⟩
    ·have HR : Hid (R = c ++ ⟨#[58, 47, 47]⟩ ++ P ++ ⟨#[58]⟩ ++ D) := HR2.out hpo
     have hpo' : (p == o) = false := beq_eq_false_iff_ne.2 hpo
     clear HR1 HR2
     go_wp2
     go_region_with (first
      | (go_at_call 62; refine (CW.out _).mono ?_; rintro e W9 ⟨rfl, hW⟩; have hW2 := hW.symm; subst hW2)
      | fail)
     all_goals
      go_wp2_with fail
      refine (CI.out _).mono ?_
      rintro e W4 ⟨rfl, d4⟩
      have b4 : Below w.heap.size w W4 := b3.drew.trans (d4.mono b3.size)
      clear d4
      go_wp2
      go_ret
      exact ⟨by rw [HR.out]; rfl, b4⟩
  ·have HR : Hid (orgT c k s a p = ⟨#[110, 117, 108, 108]⟩) := by show _ = _; unfold orgT orgOk; rw [decide_eq_false hp]; simp
   have CN : Hid (∀ W, Calls Tryz.prog 77 #[.int .i64 p, .int .i64 0, .int .i64 65535] W fun e w' => e = .returned (.bool false) ∧ w' = W) := fun W => l1In_no _ _ _ W hp
   clear hok hp
   go_enter Tryz.func27, Tryz.ntmps27
   go_wp2_with fail
   refine (CW.out _).mono ?_
   rintro e W1 ⟨rfl, rfl⟩
   go_wp2_with fail
   refine (CO.out _).mono ?_
   rintro e W2 ⟨rfl, d2⟩
   have b2 := hB0.trans (d2.mono hB0.size)
   have q4 : W2.cell? ⟨w.heap.size, 4, none⟩ = some (.int .i64 p) := box_cell d2 4
   go_wp2_with (first | (go_at_call 77; refine (CN.out _).mono ?_; rintro e W9 ⟨rfl, hW⟩; have hW2 := hW.symm; subst hW2) | fail)
   go_ret
   exact ⟨by rw [HR.out]; rfl, b2⟩
end Go.Proofs.YtnfhajhdpdidlaaGreatDoor
end

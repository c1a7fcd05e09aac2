/- impl.isOkWithHost, impl.PathOf. Plain facts on paths below paths. spec.PathOf. Plain facts: a path is below what it is up to its last slash. -/
import Derived.Test.YtnfhajhdpdidlaaGreatDoorB42
import Derived.Test.YtnfhajhdpdidlaaGreatDoorB12
import Derived.Test.YtnfhajhdpdidlaaGreatDoorCFnPathOf02
import Derived.Test.YtnfhajhdpdidlaaGreatDoorB02
import Derived.Lib.Strings
import Derived.Test.YtnfhajhdpdidlaaGreatDoorB41
set_option linter.unusedVariables false
set_option linter.unusedSimpArgs false
set_option maxHeartbeats 4000000
set_option maxRecDepth 100000
section
namespace Go.Proofs.YtnfhajhdpdidlaaGreatDoor
open Go.RowKit Go.Shelf
theorem hasHost_is (q : P) (v : Value) (b : Bool) (hb : b = true ↔ 0 ≤ ownZ q.sc) (W : World) :
  Calls Tryz.prog 67 #[.agg (q.cells v)] W fun e w' => e = .returned (.bool b) ∧ Below W.heap.size W w' := by
 have := hasHost (q.u v) W
 rw [show decide (0 ≤ ownZ (q.u v).sc) = b from by cases b with
  | true => exact decide_eq_true (hb.1 rfl)
  | false => exact decide_eq_false (fun h => by have := hb.2 h; cases this)] at this
 exact this
theorem isOkHost (q : P) (a : Option Addr) (n c : Nat) (w : World) (hL : Lean1 w) (hS : StrsOf a n q.ps w) (hs : q.tot ≤ 1048576) (hpo : q.po ≤ 9223372036854775807) (b : Bool) (hb : b = true ↔ (okP q ∧ 0 ≤ ownZ q.sc)) :
  Calls Tryz.prog 37 #[.agg (q.cells (.slice a n c))] w fun e w' => e = .returned (.bool b) ∧ Below w.heap.size w w' := by
 have H0 : Hid (Wp w q (.slice a n c) (w.alloc (.cells #[(.string q.sc), (.string q.us), (.string q.pw), (.int .i64 q.hk), (.string q.hn), (.int .i64 q.ha), (.int .i64 q.po), (.slice a n c), (.string q.op), (.bool q.hq), (.string q.qu), (.bool q.hf), (.string q.fr)] 31))) := Wp.start w q _
 by_cases ho : 0 ≤ ownZ q.sc
 ·have CK : Hid (∀ W, Below w.heap.size w W → Calls Tryz.prog 43 #[.agg (q.cells (.slice a n c))] W fun e w' => e = .returned (.bool b) ∧ Below W.heap.size W w') := fun W d => implUrlOk q a n c W (hL.below d) (hS.later d) hs hpo b (by rw [hb]; exact ⟨fun h => h.1, fun h => ⟨h, ho⟩⟩)
  have CH : Hid (∀ W, Calls Tryz.prog 67 #[.agg (q.cells (.slice a n c))] W fun e w' => e = .returned (.bool true) ∧ Below W.heap.size W w') := hasHost_is q _ true (by simp [ho])
  clear hS hs hpo hb hL ho
  unfold P.cells at *
  go_enter Tryz.func37, Tryz.ntmps37
  go_wp2_with fail
  refine (CH.out _).mono ?_
  rintro e W1 ⟨rfl, d1⟩
  have HX1 : Hid (Wp w q (.slice a n c) W1) := H0.out.later d1
  clear d1 H0 CH
  obtain ⟨k0, k1, k2, k3, k4, k5, k6, k7, k8, k9, k10, k11, k12⟩ := Blk.cells13 (q := q) HX1.out.bx
  go_wp2_with fail
  refine (CK.out _ HX1.out.bw).mono ?_
  rintro e W2 ⟨rfl, d2⟩
  have HX2 : Hid (Below w.heap.size w W2) := HX1.out.bw.trans (d2.mono HX1.out.bw.size)
  go_wp2
  go_ret
  exact ⟨rfl, HX2.out⟩
 ·have hbf : b = false := by
   cases b with
   | true => exact absurd (hb.1 rfl).2 ho
   | false => rfl
  subst hbf
  have CH : Hid (∀ W, Calls Tryz.prog 67 #[.agg (q.cells (.slice a n c))] W fun e w' => e = .returned (.bool false) ∧ Below W.heap.size W w') := hasHost_is q _ false (by simp [ho])
  clear hS hs hpo hb hL ho
  unfold P.cells at *
  go_enter Tryz.func37, Tryz.ntmps37
  go_wp2_with fail
  refine (CH.out _).mono ?_
  rintro e W1 ⟨rfl, d1⟩
  have HX1 : Hid (Wp w q (.slice a n c) W1) := H0.out.later d1
  clear d1 H0 CH
  go_wp2
  go_ret
  exact ⟨rfl, HX1.out.bw⟩
theorem implPathOf (q : P) (a : Option Addr) (n c : Nat) (w : World) (hL : Lean1 w) (hS : StrsOf a n q.ps w) (hs : q.tot ≤ 1048576) (hpo : q.po ≤ 9223372036854775807) (b : Bool) (hb : b = true ↔ (okP q ∧ 0 ≤ ownZ q.sc)) :
  Calls Tryz.prog 12 #[.agg (q.cells (.slice a n c))] w fun e w' => e = .returned (.string (pofT b (putL q.ps))) ∧ Below w.heap.size w w' := by
 have H0 : Hid (Wp w q (.slice a n c) (w.alloc (.cells #[(.string q.sc), (.string q.us), (.string q.pw), (.int .i64 q.hk), (.string q.hn), (.int .i64 q.ha), (.int .i64 q.po), (.slice a n c), (.string q.op), (.bool q.hq), (.string q.qu), (.bool q.hf), (.string q.fr)] 31))) := Wp.start w q _
 have CK : Hid (∀ W, Below w.heap.size w W → Calls Tryz.prog 37 #[.agg #[(.string q.sc), (.string q.us), (.string q.pw), (.int .i64 q.hk), (.string q.hn), (.int .i64 q.ha), (.int .i64 q.po), (.slice a n c), (.string q.op), (.bool q.hq), (.string q.qu), (.bool q.hf), (.string q.fr)]] W fun e w' => e = .returned (.bool b) ∧ Below W.heap.size W w') := fun W d => isOkHost q a n c W (hL.below d) (hS.later d) hs hpo b hb
 cases b with
 | false =>
  unfold pofT
  rw [if_neg (by decide)]
  clear hS hs hpo hb hL
  unfold P.cells at *
  go_enter Tryz.func12, Tryz.ntmps12
  go_wp2_with fail
  refine (CK.out _ H0.out.bw).mono ?_
  rintro e W1 ⟨rfl, d1⟩
  have HX1 : Hid (Wp w q (.slice a n c) W1) := H0.out.later d1
  go_wp2
  go_ret
  exact ⟨rfl, HX1.out.bw⟩
 | true =>
  unfold pofT
  rw [if_pos rfl]
  obtain ⟨hok, ho⟩ := hb.1 rfl
  obtain ⟨r, hr⟩ := put_first q.ps ((ok_host q hok).2 ho)
  obtain ⟨z0, z1⟩ := mk_first _ r hr
  have hpl := putL_len q.ps
  have htl : q.ps.length + tot q.ps ≤ 1048576 := by unfold P.tot at hs; omega
  have CP : Hid (∀ W, Below w.heap.size w W → Calls Tryz.prog 16 #[.slice a n c] W fun e w' => e = .returned (.string (mk (putL q.ps))) ∧ Below W.heap.size W w') := fun W d => implPathPut a n c q.ps W (hS.later d) (by omega)
  have hsz : (mk (putL q.ps)).size ≤ 1048576 := by rw [mk_size]; omega
  unfold cutK
  generalize mk (putL q.ps) = s at *
  obtain ⟨k, hk, hkl⟩ := last_cases s z0 z1
  have CL : Hid (∀ W, Calls Tryz.prog 38 #[.string s, .int .u8 47] W fun e w' => e = .returned (.int .i64 (k : Int)) ∧ w' = W) := fun W => by rw [← hkl]; exact Tryz.strings_LastIndexByte s 47 (by omega) W
  rw [hkl]
  have hm : max (k : Int).toNat 1 = max k 1 := by rw [Int.toNat_natCast]
  rw [hm]
  clear hS hs hpo hb hL hok ho hr hkl hpl htl hm z1
  unfold P.cells at *
  go_enter Tryz.func12, Tryz.ntmps12
  go_wp2_with fail
  refine (CK.out _ H0.out.bw).mono ?_
  rintro e W1 ⟨rfl, d1⟩
  have HX1 : Hid (Wp w q (.slice a n c) W1) := H0.out.later d1
  clear d1 H0 CK
  obtain ⟨k0, k1, k2, k3, k4, k5, k6, k7, k8, k9, k10, k11, k12⟩ := Blk.cells13 (q := q) HX1.out.bx
  go_wp2_with fail
  refine (CP.out _ HX1.out.bw).mono ?_
  rintro e W2 ⟨rfl, d2⟩
  have HX2 : Hid (Below w.heap.size w W2) := HX1.out.bw.trans (d2.mono HX1.out.bw.size)
  clear d2 HX1 CP k0 k1 k2 k3 k4 k5 k6 k7 k8 k9 k10 k11 k12
  go_wp2_with fail
  refine (CL.out _).mono ?_
  rintro e W3 ⟨rfl, hW⟩
  have hW2 := hW.symm
  subst hW2
  clear CL
  by_cases hk0 : k = 0
  ·subst hk0
   have e1 : max 0 1 = 1 := rfl
   go_wp2
   go_ret
   exact ⟨rfl, HX2.out⟩
  ·have e1 : max k 1 = k := by omega
   have e2 : ¬ ((k : Int) < 1) := by omega
   have e3 : (1 : Int) ≤ (k : Int) := by omega
   go_wp2
   go_ret
   exact ⟨by show Ending.returned (Value.string (s.extract 0 (max (k : Int) 1).toNat)) = _; rw [show (max (k : Int) 1).toNat = max k 1 by omega], HX2.out⟩
end Go.Proofs.YtnfhajhdpdidlaaGreatDoor
end
section
namespace Go.Proofs.YtnfhajhdpdidlaaGreatDoor
open Go.RowKit
def pinL (p b : List UInt8) : Bool := !b.isEmpty && Lib.hasPrefix p b && (decide (p.length = b.length) || b.getLast? == some 47 || p[b.length]? == some 47)
theorem pinL_nil (p : List UInt8) : pinL p [] = false := rfl
theorem pinL_no (p b : List UInt8) (h : Lib.hasPrefix p b = false) : pinL p b = false := by unfold pinL; rw [h]; simp
theorem pinL_yes (p b : List UInt8) (h : Lib.hasPrefix p b = true) (hb : b ≠ []) : pinL p b = (decide (p.length = b.length) || b.getLast? == some 47 || p[b.length]? == some 47) := by
 unfold pinL; rw [h, List.isEmpty_eq_false_iff.2 hb]; simp
theorem pre_len {p b : List UInt8} (h : Lib.hasPrefix p b = true) : b.length ≤ p.length := by
 unfold Lib.hasPrefix at h; exact (List.isPrefixOf_iff_prefix.1 h).length_le
theorem pre_eq {p b : List UInt8} (h : Lib.hasPrefix p b = true) (hl : p.length = b.length) : p = b := by
 unfold Lib.hasPrefix at h; exact ((List.isPrefixOf_iff_prefix.1 h).eq_of_length hl.symm).symm
theorem pre_self (p : List UInt8) : Lib.hasPrefix p p = true := by
 unfold Lib.hasPrefix; exact List.isPrefixOf_iff_prefix.2 (List.prefix_refl p)
theorem pin_self (p : List UInt8) : pinL p p = !p.isEmpty := by
 unfold pinL; rw [pre_self]; simp
theorem at_get (s : ByteArray) (k : Nat) (hk : k < s.size) : s.data.toList[k]? = some s[k] := by
 rw [List.getElem?_eq_getElem (by simpa using hk)]
 simp [ByteArray.getElem_eq_getElem_data]
theorem last_get (s : ByteArray) (k : Nat) (h : s.size = k + 1) : s.data.toList.getLast? = some (s[k]'(by omega)) := by
 rw [List.getLast?_eq_getElem?]
 have hl : s.data.toList.length = s.size := by simp
 rw [hl, show s.size - 1 = k from by omega]
 exact at_get s k (by omega)
theorem byte47 (c : UInt8) (h : c ≠ 47) : ((c.toNat : Int) == 47) = false := by
 rw [beq_eq_false_iff_ne]; intro e; apply h; apply UInt8.toNat_inj.1; show c.toNat = 47; omega
theorem pinCase (p b : ByteArray) :
  b = ⟨#[]⟩ ∨ (b.size ≠ 0 ∧ Lib.hasPrefix p.data.toList b.data.toList = false) ∨ (b.size ≠ 0 ∧ p = b) ∨
  (∃ k, ∃ hk : b.size = k + 1, b.size < p.size ∧ Lib.hasPrefix p.data.toList b.data.toList = true ∧ (b[k]'(by omega)) = 47) ∨
  (∃ k, ∃ hk : b.size = k + 1, ∃ hl : b.size < p.size, Lib.hasPrefix p.data.toList b.data.toList = true ∧ (b[k]'(by omega)) ≠ 47 ∧ p[b.size] = 47) ∨
  (∃ k, ∃ hk : b.size = k + 1, ∃ hl : b.size < p.size, Lib.hasPrefix p.data.toList b.data.toList = true ∧ (b[k]'(by omega)) ≠ 47 ∧ p[b.size] ≠ 47) := by
 have lp : p.data.toList.length = p.size := by simp
 have lb : b.data.toList.length = b.size := by simp
 by_cases h0 : b.size = 0
 ·have := mk_list b
  rw [List.length_eq_zero_iff.1 (show b.data.toList.length = 0 by omega)] at this
  exact .inl this.symm
 cases hp : Lib.hasPrefix p.data.toList b.data.toList with
 | false => exact .inr (.inl ⟨h0, rfl⟩)
 | true =>
  have hle := pre_len hp
  by_cases he : p.size = b.size
  ·refine .inr (.inr (.inl ⟨h0, ?_⟩))
   have := pre_eq hp (by omega)
   rw [← mk_list p, ← mk_list b, this]
  ·obtain ⟨k, hk⟩ : ∃ k, b.size = k + 1 := ⟨b.size - 1, by omega⟩
   have hlt : b.size < p.size := by omega
   by_cases h1 : (b[k]'(by omega)) = 47
   ·exact .inr (.inr (.inr (.inl ⟨k, hk, hlt, rfl, h1⟩)))
   ·by_cases h2 : p[b.size] = 47
    ·exact .inr (.inr (.inr (.inr (.inl ⟨k, hk, hlt, rfl, h1, h2⟩))))
    ·exact .inr (.inr (.inr (.inr (.inr ⟨k, hk, hlt, rfl, h1, h2⟩))))
theorem pin_last (p b : ByteArray) (k : Nat) (hk : b.size = k + 1) (hp : Lib.hasPrefix p.data.toList b.data.toList = true) (h : (b[k]'(by omega)) = 47) : pinL p.data.toList b.data.toList = true := by
 rw [pinL_yes _ _ hp (by intro e; have hl : b.data.toList.length = b.size := by simp
                         rw [e] at hl; simp at hl; omega), last_get b k hk, h]; simp
theorem pin_here (p b : ByteArray) (k : Nat) (hk : b.size = k + 1) (hl : b.size < p.size) (hp : Lib.hasPrefix p.data.toList b.data.toList = true) (h2 : p[b.size] = 47) : pinL p.data.toList b.data.toList = true := by
 have hl' : b.data.toList.length = b.size := by simp
 rw [pinL_yes _ _ hp (by intro e; rw [e] at hl'; simp at hl'; omega), hl', at_get p b.size hl, h2]; simp
theorem pin_none (p b : ByteArray) (k : Nat) (hk : b.size = k + 1) (hl : b.size < p.size) (hp : Lib.hasPrefix p.data.toList b.data.toList = true) (h : (b[k]'(by omega)) ≠ 47) (h2 : p[b.size] ≠ 47) : pinL p.data.toList b.data.toList = false := by
 have hl' : b.data.toList.length = b.size := by simp
 have hp' : p.data.toList.length = p.size := by simp
 rw [pinL_yes _ _ hp (by intro e; rw [e] at hl'; simp at hl'; omega), last_get b k hk, hl', at_get p b.size hl, hp']
 simp [h, h2]; omega
end Go.Proofs.YtnfhajhdpdidlaaGreatDoor
end
section
namespace Go.Proofs.YtnfhajhdpdidlaaGreatDoor
open Go.RowKit Go.Shelf
theorem l7Path (q : P) (a : Option Addr) (n c : Nat) (w : World) (hS : StrsOf a n q.ps w) (hs : q.tot ≤ 1048576) (hne : q.ps ≠ []) :
  Calls Tryz.prog 34 #[.agg (q.cells (.slice a n c))] w fun e w' => e = .returned (.string (mk (putL q.ps))) ∧ Below w.heap.size w w' := by
 have H0 : Hid (Wp w q (.slice a n c) (w.alloc (.cells #[(.string q.sc), (.string q.us), (.string q.pw), (.int .i64 q.hk), (.string q.hn), (.int .i64 q.ha), (.int .i64 q.po), (.slice a n c), (.string q.op), (.bool q.hq), (.string q.qu), (.bool q.hf), (.string q.fr)] 31))) := Wp.start w q _
 obtain ⟨r, hr⟩ := put_first q.ps hne
 have hpl := putL_len q.ps
 have htl : q.ps.length + tot q.ps ≤ 1048576 := by unfold P.tot at hs; omega
 have CP : Hid (∀ W, Below w.heap.size w W → Calls Tryz.prog 64 #[.slice a n c] W fun e w' => e = .returned (.string (mk (putL q.ps))) ∧ w' = W) := fun W d => specPathPut a n c q.ps W (hS.later d) (by omega)
 have hn0 : (mk (putL q.ps)).size ≠ 0 := by rw [mk_size, hr]; simp
 generalize mk (putL q.ps) = s at *
 have hf : (s.toList == []) = false ∧ s.toList.isEmpty = false := by
  have hl : s.data.toList.length = s.size := by simp
  have hzn : s.toList ≠ [] := by rw [ByteArray.toList_eq]; intro e; rw [e] at hl; simp at hl; omega
  exact ⟨beq_eq_false_iff_ne.2 hzn, List.isEmpty_eq_false_iff.2 hzn⟩
 obtain ⟨f1, f2⟩ := hf
 have HB := H0.out.bw
 clear hS hs hr hpl htl hne hn0
 unfold P.cells at *
 go_enter Tryz.func34, Tryz.ntmps34
 go_wp2_with fail
 refine (CP.out _ H0.out.bw).mono ?_
 rintro e W2 ⟨rfl, hW⟩
 have hW2 := hW.symm
 subst hW2
 go_wp2
 go_ret
 exact ⟨rfl, H0.out.bw⟩
theorem specPathOf (q : P) (a : Option Addr) (n c : Nat) (w : World) (hS : StrsOf a n q.ps w) (hs : q.tot ≤ 1048576) (hpo : q.po ≤ 9223372036854775807) (b : Bool) (hb : b = true ↔ (okP q ∧ 0 ≤ ownZ q.sc)) :
  Calls Tryz.prog 10 #[.agg (q.cells (.slice a n c))] w fun e w' => e = .returned (.string (pofT b (putL q.ps))) ∧ Below w.heap.size w w' := by
 have H0 : Hid (Wp w q (.slice a n c) (w.alloc (.cells #[(.string q.sc), (.string q.us), (.string q.pw), (.int .i64 q.hk), (.string q.hn), (.int .i64 q.ha), (.int .i64 q.po), (.slice a n c), (.string q.op), (.bool q.hq), (.string q.qu), (.bool q.hf), (.string q.fr)] 31))) := Wp.start w q _
 by_cases hok : okP q
 ·have CK : Hid (∀ W, Below w.heap.size w W → Calls Tryz.prog 31 #[.agg #[(.string q.sc), (.string q.us), (.string q.pw), (.int .i64 q.hk), (.string q.hn), (.int .i64 q.ha), (.int .i64 q.po), (.slice a n c), (.string q.op), (.bool q.hq), (.string q.qu), (.bool q.hf), (.string q.fr)]] W fun e w' => e = .returned (.bool true) ∧ Below W.heap.size W w') := fun W d => specUrlOk q a n c W (hS.later d) hs hpo true (by simp [hok])
  obtain ⟨g1, g2⟩ := ok_host q hok
  cases b with
  | false =>
   have HK0 : Hid (q.hk = 0) := by
    refine g1.1 ?_
    by_cases h : 0 ≤ ownZ q.sc
    ·have := hb.2 ⟨hok, h⟩; cases this
    ·omega
   unfold pofT
   rw [if_neg (by decide)]
   clear hS hs hpo hb hok g1 g2
   unfold P.cells at *
   go_enter Tryz.func10, Tryz.ntmps10
   go_wp2_with fail
   refine (CK.out _ H0.out.bw).mono ?_
   rintro e W1 ⟨rfl, d1⟩
   have HX1 : Hid (Wp w q (.slice a n c) W1) := H0.out.later d1
   clear d1 H0 CK
   obtain ⟨k0, k1, k2, k3, k4, k5, k6, k7, k8, k9, k10, k11, k12⟩ := Blk.cells13 (q := q) HX1.out.bx
   have hk1 : (q.hk == 0) = true := by rw [HK0.out]; rfl
   go_wp2
   go_ret
   exact ⟨rfl, HX1.out.bw⟩
  | true =>
   have ho := (hb.1 rfl).2
   have hk0 : ¬ q.hk = 0 := fun e => by have := g1.2 e; omega
   have hk1 : (q.hk == 0) = false := beq_eq_false_iff_ne.2 hk0
   obtain ⟨r, hr⟩ := put_first q.ps (g2 ho)
   obtain ⟨z0, z1⟩ := mk_first _ r hr
   have htl : q.ps.length + tot q.ps ≤ 1048576 := by unfold P.tot at hs; omega
   have hsz : (mk (putL q.ps)).size ≤ 1048576 := by rw [mk_size, putL_len]; omega
   have CP : Hid (∀ W, Below w.heap.size w W → Calls Tryz.prog 34 #[.agg #[(.string q.sc), (.string q.us), (.string q.pw), (.int .i64 q.hk), (.string q.hn), (.int .i64 q.ha), (.int .i64 q.po), (.slice a n c), (.string q.op), (.bool q.hq), (.string q.qu), (.bool q.hf), (.string q.fr)]] W fun e w' => e = .returned (.string (mk (putL q.ps))) ∧ Below W.heap.size W w') := fun W d => l7Path q a n c W (hS.later d) hs (g2 ho)
   unfold pofT
   rw [if_pos rfl]
   generalize mk (putL q.ps) = s at *
   have HZ : Hid (s[0] = 47) := z1
   have HC0 : Hid ((∀ j, 0 < j → (hj : j < s.size) → s[j] ≠ 47) → s.extract 0 (cutK s) = ⟨#[47]⟩) := cut_zero s z0 z1
   have HC1 : Hid (∀ k, (hk : k + 1 < s.size) → s[k + 1] = 47 → (∀ j, k + 1 < j → (hj : j < s.size) → s[j] ≠ 47) → cutK s = k + 1) := cut_more s
   generalize cutK s = K at *
   clear hS hs hpo hb hok g1 g2 hr htl z1 ho
   unfold P.cells at *
   go_enter Tryz.func10, Tryz.ntmps10
   go_wp2_with fail
   refine (CK.out _ H0.out.bw).mono ?_
   rintro e W1 ⟨rfl, d1⟩
   have HX1 : Hid (Wp w q (.slice a n c) W1) := H0.out.later d1
   clear d1 H0 CK
   obtain ⟨k0, k1, k2, k3, k4, k5, k6, k7, k8, k9, k10, k11, k12⟩ := Blk.cells13 (q := q) HX1.out.bx
   go_wp2_with fail
   refine (CP.out _ HX1.out.bw).mono ?_
   rintro e W2 ⟨rfl, d2⟩
   have HX2 : Hid (Below w.heap.size w W2) := HX1.out.bw.trans (d2.mono HX1.out.bw.size)
   clear d2 HX1 CP k0 k1 k2 k3 k4 k5 k6 k7 k8 k9 k10 k11 k12 hk0 hk1
   go_wp2
   go_loop [4] (fun i => ∃ k : Nat, k < s.size ∧ i = .int .i64 k ∧ Hid (∀ j, k < j → (hj : j < s.size) → s[j] ≠ 47)) (fun i => (intOf i).toNat)
   case atStart => exact ⟨s.size - 1, by omega, by go_num, fun j h1 h2 => by omega⟩
   case round =>
    obtain ⟨k, hk, rfl, HK⟩ := hrel
    by_cases hk0 : k = 0
    ·subst hk0
     have HE := HC0.out HK.out
     go_wp2
     exact bodyPost_ret (v := .string ⟨#[47]⟩) (by simp [results, Tryz.results10, go_sem]) rfl ⟨by first | rfl | rw [HE], HX2.out⟩
    ·obtain ⟨m, rfl⟩ : ∃ m, k = m + 1 := ⟨k - 1, by omega⟩
     by_cases hc : s[m + 1] = 47
     ·have e1 : ((s[m + 1].toNat : Int) == 47) = true := by rw [hc]; rfl
      have HE := HC1.out m hk hc HK.out
      subst HE
      go_wp2
      exact bodyPost_ret (v := .string (s.extract 0 (m + 1))) (by simp [results, Tryz.results10, go_sem]) rfl ⟨rfl, HX2.out⟩
     ·have e1 : ((s[m + 1].toNat : Int) == 47) = false := byte47 _ hc
      go_wp2
      go_round
      case rel =>
       refine ⟨m, by omega, by go_num, fun j h1 h2 => ?_⟩
       by_cases hj : j = m + 1
       ·subst hj; exact hc
       ·exact HK.out j (by omega) h2
      case measure => first | (simp [intOf]; done) | (simp [intOf]; omega)
 ·have hbf : b = false := by
   cases b with
   | true => exact absurd (hb.1 rfl).1 hok
   | false => rfl
  subst hbf
  have CK : Hid (∀ W, Below w.heap.size w W → Calls Tryz.prog 31 #[.agg #[(.string q.sc), (.string q.us), (.string q.pw), (.int .i64 q.hk), (.string q.hn), (.int .i64 q.ha), (.int .i64 q.po), (.slice a n c), (.string q.op), (.bool q.hq), (.string q.qu), (.bool q.hf), (.string q.fr)]] W fun e w' => e = .returned (.bool false) ∧ Below W.heap.size W w') := fun W d => specUrlOk q a n c W (hS.later d) hs hpo false (by simp [hok])
  unfold pofT
  rw [if_neg (by decide)]
  clear hS hs hpo hb hok
  unfold P.cells at *
  go_enter Tryz.func10, Tryz.ntmps10
  go_wp2_with fail
  refine (CK.out _ H0.out.bw).mono ?_
  rintro e W1 ⟨rfl, d1⟩
  have HX1 : Hid (Wp w q (.slice a n c) W1) := H0.out.later d1
  go_wp2
  go_ret
  exact ⟨rfl, HX1.out.bw⟩
end Go.Proofs.YtnfhajhdpdidlaaGreatDoor
end
section
namespace Go.Proofs.YtnfhajhdpdidlaaGreatDoor
open Go.RowKit Go.Shelf
theorem ext_take (l : List UInt8) (k : Nat) (hk : k ≤ l.length) : (mk l).extract 0 k = mk (l.take k) := by
 have e : l = l.take k ++ l.drop k := (List.take_append_drop k l).symm
 have h2 : (l.take k).length = k := by rw [List.length_take]; omega
 have := mk_take (l.take k) (l.drop k)
 rw [← e, h2] at this
 exact this
theorem pre_take (l : List UInt8) (k : Nat) : Lib.hasPrefix l (l.take k) = true := by
 unfold Lib.hasPrefix
 simp [List.take_prefix]
theorem pof_facts (l r : List UInt8) (h : l = 47 :: r) : ∃ k, pofT true l = mk (l.take k) ∧ 1 ≤ k ∧ k ≤ l.length ∧ pinL l (l.take k) = true := by
 obtain ⟨z0, z1⟩ := mk_first l r h
 have hsz : (mk l).size = l.length := mk_size l
 have hlen : 1 ≤ l.length := by rw [h]; simp
 rcases Lib.lastIndexByte_spec (mk l) 47 with ⟨_, h2⟩ | ⟨i, hi, e, hc, h2⟩
 ·exact absurd ((b47_iff _).2 z1) (by rw [← bang_get (mk l) 0 z0]; exact h2 0 z0)
 ·rw [bang_get (mk l) i hi] at hc
  have hil : i < l.length := by omega
  have hci : l[i]? = some 47 := by
   have h3 := at_get (mk l) i hi
   rw [mk_data] at h3
   rw [h3, (b47_iff _).1 hc]
  have hcut : cutK (mk l) = max i 1 := by unfold cutK; rw [e, Int.toNat_natCast]
  refine ⟨max i 1, ?_, by omega, by omega, ?_⟩
  ·unfold pofT
   rw [if_pos rfl, hcut, ext_take l _ (by omega)]
  ·have hne : l.take (max i 1) ≠ [] := by
    intro e2
    have := congrArg List.length e2
    rw [List.length_take, List.length_nil] at this
    omega
   have htl : (l.take (max i 1)).length = max i 1 := by rw [List.length_take]; omega
   rw [pinL_yes _ _ (pre_take l _) hne, htl]
   by_cases hi0 : i = 0
   ·subst hi0
    have : l.take (max 0 1) = [47] := by rw [h]; rfl
    rw [this]; simp
   ·rw [show max i 1 = i by omega, hci]; simp
end Go.Proofs.YtnfhajhdpdidlaaGreatDoor
end

/- impl.isOkWithHost, impl.PathOf. Plain facts on paths below paths. spec.PathOf. The law FnExactPathOf answers true, whatever the address. -/
import Derived.Test.YtnfhajhdpdidlaaGreatDoorB42
import Derived.Test.YtnfhajhdpdidlaaGreatDoorB12
import Derived.Test.YtnfhajhdpdidlaaGreatDoorCFnExactPathOf03
import Derived.Test.YtnfhajhdpdidlaaGreatDoorB02
import Derived.Lib.Strings
import Derived.Test.YtnfhajhdpdidlaaGreatDoorB41
import Derived.Test.YtnfhajhdpdidlaaGreatDoorCFnExactPathOf01
import Derived.Test.YtnfhajhdpdidlaaGreatDoorCFnExactPathOf02
set_option linter.unusedVariables false
set_option linter.unusedSimpArgs false
set_option maxHeartbeats 8000000
set_option maxRecDepth 100000
section
namespace Go.Proofs.YtnfhajhdpdidlaaGreatDoor
open Go.RowKit Go.Shelf
theorem hasHost_is (q : P) (v : Value) (b : Bool) (hb : b = true ↔ 0 ≤ ownZ q.sc) (W : World) :
  Calls Tryz.prog 67 #[.agg (q.cells v)] W fun e w' => e = .returned (.bool b) ∧ Below W.heap.size W w' := by
 have := hasHost (q.u v) W
 rw [show decide (0 ≤ ownZ (q.u v).sc) = b from by cases b with
  | true => exact decide_eq_true (hb.1 rfl)
  | false => exact decide_eq_false (fun h => by have := hb.2 h; cases this)] at this
 exact this
theorem isOkHost (q : P) (a : Option Addr) (n c : Nat) (w : World) (hL : Lean1 w) (hS : StrsOf a n q.ps w) (hs : q.tot ≤ 1048576) (hpo : q.po ≤ 9223372036854775807) (b : Bool) (hb : b = true ↔ (okP q ∧ 0 ≤ ownZ q.sc)) :
  Calls Tryz.prog 37 #[.agg (q.cells (.slice a n c))] w fun e w' => e = .returned (.bool b) ∧ Below w.heap.size w w' := by
 have H0 : Hid (Wp w q (.slice a n c) (w.alloc (.cells #[(.string q.sc), (.string q.us), (.string q.pw), (.int .i64 q.hk), (.string q.hn), (.int .i64 q.ha), (.int .i64 q.po), (.slice a n c), (.string q.op), (.bool q.hq), (.string q.qu), (.bool q.hf), (.string q.fr)] 31))) := Wp.start w q _
 by_cases ho : 0 ≤ ownZ q.sc
 ·have CK : Hid (∀ W, Below w.heap.size w W → Calls Tryz.prog 43 #[.agg (q.cells (.slice a n c))] W fun e w' => e = .returned (.bool b) ∧ Below W.heap.size W w') := fun W d => implUrlOk q a n c W (hL.below d) (hS.later d) hs hpo b (by rw [hb]; exact ⟨fun h => h.1, fun h => ⟨h, ho⟩⟩)
  have CH : Hid (∀ W, Calls Tryz.prog 67 #[.agg (q.cells (.slice a n c))] W fun e w' => e = .returned (.bool true) ∧ Below W.heap.size W w') := hasHost_is q _ true (by simp [ho])
  clear hS hs hpo hb hL ho
  unfold P.cells at *
  go_enter Tryz.func37, Tryz.ntmps37
  go_wp2_with fail
  refine (CH.out _).mono ?_
  rintro e W1 ⟨rfl, d1⟩
  have HX1 : Hid (Wp w q (.slice a n c) W1) := H0.out.later d1
  clear d1 H0 CH
  obtain ⟨k0, k1, k2, k3, k4, k5, k6, k7, k8, k9, k10, k11, k12⟩ := Blk.cells13 (q := q) HX1.out.bx
  go_wp2_with fail
  refine (CK.out _ HX1.out.bw).mono ?_
  rintro e W2 ⟨rfl, d2⟩
  have HX2 : Hid (Below w.heap.size w W2) := HX1.out.bw.trans (d2.mono HX1.out.bw.size)
  go_wp2
  go_ret
  exact ⟨rfl, HX2.out⟩
 ·have hbf : b = false := by
   cases b with
   | true => exact absurd (hb.1 rfl).2 ho
   | false => rfl
  subst hbf
  have CH : Hid (∀ W, Calls Tryz.prog 67 #[.agg (q.cells (.slice a n c))] W fun e w' => e = .returned (.bool false) ∧ Below W.heap.size W w') := hasHost_is q _ false (by simp [ho])
  clear hS hs hpo hb hL ho
  unfold P.cells at *
  go_enter Tryz.func37, Tryz.ntmps37
  go_wp2_with fail
  refine (CH.out _).mono ?_
  rintro e W1 ⟨rfl, d1⟩
  have HX1 : Hid (Wp w q (.slice a n c) W1) := H0.out.later d1
  clear d1 H0 CH
  go_wp2
  go_ret
  exact ⟨rfl, HX1.out.bw⟩
theorem implPathOf (q : P) (a : Option Addr) (n c : Nat) (w : World) (hL : Lean1 w) (hS : StrsOf a n q.ps w) (hs : q.tot ≤ 1048576) (hpo : q.po ≤ 9223372036854775807) (b : Bool) (hb : b = true ↔ (okP q ∧ 0 ≤ ownZ q.sc)) :
  Calls Tryz.prog 12 #[.agg (q.cells (.slice a n c))] w fun e w' => e = .returned (.string (pofT b (putL q.ps))) ∧ Below w.heap.size w w' := by
 have H0 : Hid (Wp w q (.slice a n c) (w.alloc (.cells #[(.string q.sc), (.string q.us), (.string q.pw), (.int .i64 q.hk), (.string q.hn), (.int .i64 q.ha), (.int .i64 q.po), (.slice a n c), (.string q.op), (.bool q.hq), (.string q.qu), (.bool q.hf), (.string q.fr)] 31))) := Wp.start w q _
 have CK : Hid (∀ W, Below w.heap.size w W → Calls Tryz.prog 37 #[.agg #[(.string q.sc), (.string q.us), (.string q.pw), (.int .i64 q.hk), (.string q.hn), (.int .i64 q.ha), (.int .i64 q.po), (.slice a n c), (.string q.op), (.bool q.hq), (.string q.qu), (.bool q.hf), (.string q.fr)]] W fun e w' => e = .returned (.bool b) ∧ Below W.heap.size W w') := fun W d => isOkHost q a n c W (hL.below d) (hS.later d) hs hpo b hb
 cases b with
 | false =>
  unfold pofT
  rw [if_neg (by decide)]
  clear hS hs hpo hb hL
  unfold P.cells at *
  go_enter Tryz.func12, Tryz.ntmps12
  go_wp2_with fail
  refine (CK.out _ H0.out.bw).mono ?_
  rintro e W1 ⟨rfl, d1⟩
  have HX1 : Hid (Wp w q (.slice a n c) W1) := H0.out.later d1
  go_wp2
  go_ret
  exact ⟨rfl, HX1.out.bw⟩
 | true =>
  unfold pofT
  rw [if_pos rfl]
  obtain ⟨hok, ho⟩ := hb.1 rfl
  obtain ⟨r, hr⟩ := put_first q.ps ((ok_host q hok).2 ho)
  obtain ⟨z0, z1⟩ := mk_first _ r hr
  have hpl := putL_len q.ps
  have htl : q.ps.length + tot q.ps ≤ 1048576 := by unfold P.tot at hs; omega
  have CP : Hid (∀ W, Below w.heap.size w W → Calls Tryz.prog 16 #[.slice a n c] W fun e w' => e = .returned (.string (mk (putL q.ps))) ∧ Below W.heap.size W w') := fun W d => implPathPut a n c q.ps W (hS.later d) (by omega)
  have hsz : (mk (putL q.ps)).size ≤ 1048576 := by rw [mk_size]; omega
  unfold cutK
  generalize mk (putL q.ps) = s at *
  obtain ⟨k, hk, hkl⟩ := last_cases s z0 z1
  have CL : Hid (∀ W, Calls Tryz.prog 38 #[.string s, .int .u8 47] W fun e w' => e = .returned (.int .i64 (k : Int)) ∧ w' = W) := fun W => by rw [← hkl]; exact Tryz.strings_LastIndexByte s 47 (by omega) W
  rw [hkl]
  have hm : max (k : Int).toNat 1 = max k 1 := by rw [Int.toNat_natCast]
  rw [hm]
  clear hS hs hpo hb hL hok ho hr hkl hpl htl hm z1
  unfold P.cells at *
  go_enter Tryz.func12, Tryz.ntmps12
  go_wp2_with fail
  refine (CK.out _ H0.out.bw).mono ?_
  rintro e W1 ⟨rfl, d1⟩
  have HX1 : Hid (Wp w q (.slice a n c) W1) := H0.out.later d1
  clear d1 H0 CK
  obtain ⟨k0, k1, k2, k3, k4, k5, k6, k7, k8, k9, k10, k11, k12⟩ := Blk.cells13 (q := q) HX1.out.bx
  go_wp2_with fail
  refine (CP.out _ HX1.out.bw).mono ?_
  rintro e W2 ⟨rfl, d2⟩
  have HX2 : Hid (Below w.heap.size w W2) := HX1.out.bw.trans (d2.mono HX1.out.bw.size)
  clear d2 HX1 CP k0 k1 k2 k3 k4 k5 k6 k7 k8 k9 k10 k11 k12
  go_wp2_with fail
  refine (CL.out _).mono ?_
  rintro e W3 ⟨rfl, hW⟩
  have hW2 := hW.symm
  subst hW2
  clear CL
  by_cases hk0 : k = 0
  ·subst hk0
   have e1 : max 0 1 = 1 := rfl
   go_wp2
   go_ret
   exact ⟨rfl, HX2.out⟩
  ·have e1 : max k 1 = k := by omega
   have e2 : ¬ ((k : Int) < 1) := by omega
   have e3 : (1 : Int) ≤ (k : Int) := by omega
   go_wp2
   go_ret
   exact ⟨by show Ending.returned (Value.string (s.extract 0 (max (k : Int) 1).toNat)) = _; rw [show (max (k : Int) 1).toNat = max k 1 by omega], HX2.out⟩
end Go.Proofs.YtnfhajhdpdidlaaGreatDoor
end
section
namespace Go.Proofs.YtnfhajhdpdidlaaGreatDoor
open Go.RowKit
def pinL (p b : List UInt8) : Bool := !b.isEmpty && Lib.hasPrefix p b && (decide (p.length = b.length) || b.getLast? == some 47 || p[b.length]? == some 47)
theorem pinL_nil (p : List UInt8) : pinL p [] = false := rfl
theorem pinL_no (p b : List UInt8) (h : Lib.hasPrefix p b = false) : pinL p b = false := by unfold pinL; rw [h]; simp
theorem pinL_yes (p b : List UInt8) (h : Lib.hasPrefix p b = true) (hb : b ≠ []) : pinL p b = (decide (p.length = b.length) || b.getLast? == some 47 || p[b.length]? == some 47) := by
 unfold pinL; rw [h, List.isEmpty_eq_false_iff.2 hb]; simp
theorem pre_len {p b : List UInt8} (h : Lib.hasPrefix p b = true) : b.length ≤ p.length := by
 unfold Lib.hasPrefix at h; exact (List.isPrefixOf_iff_prefix.1 h).length_le
theorem pre_eq {p b : List UInt8} (h : Lib.hasPrefix p b = true) (hl : p.length = b.length) : p = b := by
 unfold Lib.hasPrefix at h; exact ((List.isPrefixOf_iff_prefix.1 h).eq_of_length hl.symm).symm
theorem pre_self (p : List UInt8) : Lib.hasPrefix p p = true := by
 unfold Lib.hasPrefix; exact List.isPrefixOf_iff_prefix.2 (List.prefix_refl p)
theorem pin_self (p : List UInt8) : pinL p p = !p.isEmpty := by
 unfold pinL; rw [pre_self]; simp
theorem at_get (s : ByteArray) (k : Nat) (hk : k < s.size) : s.data.toList[k]? = some s[k] := by
 rw [List.getElem?_eq_getElem (by simpa using hk)]
 simp [ByteArray.getElem_eq_getElem_data]
theorem last_get (s : ByteArray) (k : Nat) (h : s.size = k + 1) : s.data.toList.getLast? = some (s[k]'(by omega)) := by
 rw [List.getLast?_eq_getElem?]
 have hl : s.data.toList.length = s.size := by simp
 rw [hl, show s.size - 1 = k from by omega]
 exact at_get s k (by omega)
theorem byte47 (c : UInt8) (h : c ≠ 47) : ((c.toNat : Int) == 47) = false := by
 rw [beq_eq_false_iff_ne]; intro e; apply h; apply UInt8.toNat_inj.1; show c.toNat = 47; omega
theorem pinCase (p b : ByteArray) :
  b = ⟨#[]⟩ ∨ (b.size ≠ 0 ∧ Lib.hasPrefix p.data.toList b.data.toList = false) ∨ (b.size ≠ 0 ∧ p = b) ∨
  (∃ k, ∃ hk : b.size = k + 1, b.size < p.size ∧ Lib.hasPrefix p.data.toList b.data.toList = true ∧ (b[k]'(by omega)) = 47) ∨
  (∃ k, ∃ hk : b.size = k + 1, ∃ hl : b.size < p.size, Lib.hasPrefix p.data.toList b.data.toList = true ∧ (b[k]'(by omega)) ≠ 47 ∧ p[b.size] = 47) ∨
  (∃ k, ∃ hk : b.size = k + 1, ∃ hl : b.size < p.size, Lib.hasPrefix p.data.toList b.data.toList = true ∧ (b[k]'(by omega)) ≠ 47 ∧ p[b.size] ≠ 47) := by
 have lp : p.data.toList.length = p.size := by simp
 have lb : b.data.toList.length = b.size := by simp
 by_cases h0 : b.size = 0
 ·have := mk_list b
  rw [List.length_eq_zero_iff.1 (show b.data.toList.length = 0 by omega)] at this
  exact .inl this.symm
 cases hp : Lib.hasPrefix p.data.toList b.data.toList with
 | false => exact .inr (.inl ⟨h0, rfl⟩)
 | true =>
  have hle := pre_len hp
  by_cases he : p.size = b.size
  ·refine .inr (.inr (.inl ⟨h0, ?_⟩))
   have := pre_eq hp (by omega)
   rw [← mk_list p, ← mk_list b, this]
  ·obtain ⟨k, hk⟩ : ∃ k, b.size = k + 1 := ⟨b.size - 1, by omega⟩
   have hlt : b.size < p.size := by omega
   by_cases h1 : (b[k]'(by omega)) = 47
   ·exact .inr (.inr (.inr (.inl ⟨k, hk, hlt, rfl, h1⟩)))
   ·by_cases h2 : p[b.size] = 47
    ·exact .inr (.inr (.inr (.inr (.inl ⟨k, hk, hlt, rfl, h1, h2⟩))))
    ·exact .inr (.inr (.inr (.inr (.inr ⟨k, hk, hlt, rfl, h1, h2⟩))))
theorem pin_last (p b : ByteArray) (k : Nat) (hk : b.size = k + 1) (hp : Lib.hasPrefix p.data.toList b.data.toList = true) (h : (b[k]'(by omega)) = 47) : pinL p.data.toList b.data.toList = true := by
 rw [pinL_yes _ _ hp (by intro e; have hl : b.data.toList.length = b.size := by simp
                         rw [e] at hl; simp at hl; omega), last_get b k hk, h]; simp
theorem pin_here (p b : ByteArray) (k : Nat) (hk : b.size = k + 1) (hl : b.size < p.size) (hp : Lib.hasPrefix p.data.toList b.data.toList = true) (h2 : p[b.size] = 47) : pinL p.data.toList b.data.toList = true := by
 have hl' : b.data.toList.length = b.size := by simp
 rw [pinL_yes _ _ hp (by intro e; rw [e] at hl'; simp at hl'; omega), hl', at_get p b.size hl, h2]; simp
theorem pin_none (p b : ByteArray) (k : Nat) (hk : b.size = k + 1) (hl : b.size < p.size) (hp : Lib.hasPrefix p.data.toList b.data.toList = true) (h : (b[k]'(by omega)) ≠ 47) (h2 : p[b.size] ≠ 47) : pinL p.data.toList b.data.toList = false := by
 have hl' : b.data.toList.length = b.size := by simp
 have hp' : p.data.toList.length = p.size := by simp
 rw [pinL_yes _ _ hp (by intro e; rw [e] at hl'; simp at hl'; omega), last_get b k hk, hl', at_get p b.size hl, hp']
 simp [h, h2]; omega
end Go.Proofs.YtnfhajhdpdidlaaGreatDoor
end
section
namespace Go.Proofs.YtnfhajhdpdidlaaGreatDoor
open Go.RowKit Go.Shelf
theorem l7Path (q : P) (a : Option Addr) (n c : Nat) (w : World) (hS : StrsOf a n q.ps w) (hs : q.tot ≤ 1048576) (hne : q.ps ≠ []) :
  Calls Tryz.prog 34 #[.agg (q.cells (.slice a n c))] w fun e w' => e = .returned (.string (mk (putL q.ps))) ∧ Below w.heap.size w w' := by
 have H0 : Hid (Wp w q (.slice a n c) (w.alloc (.cells #[(.string q.sc), (.string q.us), (.string q.pw), (.int .i64 q.hk), (.string q.hn), (.int .i64 q.ha), (.int .i64 q.po), (.slice a n c), (.string q.op), (.bool q.hq), (.string q.qu), (.bool q.hf), (.string q.fr)] 31))) := Wp.start w q _
 obtain ⟨r, hr⟩ := put_first q.ps hne
 have hpl := putL_len q.ps
 have htl : q.ps.length + tot q.ps ≤ 1048576 := by unfold P.tot at hs; omega
 have CP : Hid (∀ W, Below w.heap.size w W → Calls Tryz.prog 64 #[.slice a n c] W fun e w' => e = .returned (.string (mk (putL q.ps))) ∧ w' = W) := fun W d => specPathPut a n c q.ps W (hS.later d) (by omega)
 have hn0 : (mk (putL q.ps)).size ≠ 0 := by rw [mk_size, hr]; simp
 generalize mk (putL q.ps) = s at *
 have hf : (s.toList == []) = false ∧ s.toList.isEmpty = false := by
  have hl : s.data.toList.length = s.size := by simp
  have hzn : s.toList ≠ [] := by rw [ByteArray.toList_eq]; intro e; rw [e] at hl; simp at hl; omega
  exact ⟨beq_eq_false_iff_ne.2 hzn, List.isEmpty_eq_false_iff.2 hzn⟩
 obtain ⟨f1, f2⟩ := hf
 have HB := H0.out.bw
 clear hS hs hr hpl htl hne hn0
 unfold P.cells at *
 go_enter Tryz.func34, Tryz.ntmps34
 go_wp2_with fail
 refine (CP.out _ H0.out.bw).mono ?_
 rintro e W2 ⟨rfl, hW⟩
 have hW2 := hW.symm
 subst hW2
 go_wp2
 go_ret
 exact ⟨rfl, H0.out.bw⟩
theorem specPathOf (q : P) (a : Option Addr) (n c : Nat) (w : World) (hS : StrsOf a n q.ps w) (hs : q.tot ≤ 1048576) (hpo : q.po ≤ 9223372036854775807) (b : Bool) (hb : b = true ↔ (okP q ∧ 0 ≤ ownZ q.sc)) :
  Calls Tryz.prog 10 #[.agg (q.cells (.slice a n c))] w fun e w' => e = .returned (.string (pofT b (putL q.ps))) ∧ Below w.heap.size w w' := by
 have H0 : Hid (Wp w q (.slice a n c) (w.alloc (.cells #[(.string q.sc), (.string q.us), (.string q.pw), (.int .i64 q.hk), (.string q.hn), (.int .i64 q.ha), (.int .i64 q.po), (.slice a n c), (.string q.op), (.bool q.hq), (.string q.qu), (.bool q.hf), (.string q.fr)] 31))) := Wp.start w q _
 by_cases hok : okP q
 ·have CK : Hid (∀ W, Below w.heap.size w W → Calls Tryz.prog 31 #[.agg #[(.string q.sc), (.string q.us), (.string q.pw), (.int .i64 q.hk), (.string q.hn), (.int .i64 q.ha), (.int .i64 q.po), (.slice a n c), (.string q.op), (.bool q.hq), (.string q.qu), (.bool q.hf), (.string q.fr)]] W fun e w' => e = .returned (.bool true) ∧ Below W.heap.size W w') := fun W d => specUrlOk q a n c W (hS.later d) hs hpo true (by simp [hok])
  obtain ⟨g1, g2⟩ := ok_host q hok
  cases b with
  | false =>
   have HK0 : Hid (q.hk = 0) := by
    refine g1.1 ?_
    by_cases h : 0 ≤ ownZ q.sc
    ·have := hb.2 ⟨hok, h⟩; cases this
    ·omega
   unfold pofT
   rw [if_neg (by decide)]
   clear hS hs hpo hb hok g1 g2
   unfold P.cells at *
   go_enter Tryz.func10, Tryz.ntmps10
   go_wp2_with fail
   refine (CK.out _ H0.out.bw).mono ?_
   rintro e W1 ⟨rfl, d1⟩
   have HX1 : Hid (Wp w q (.slice a n c) W1) := H0.out.later d1
   clear d1 H0 CK
   obtain ⟨k0, k1, k2, k3, k4, k5, k6, k7, k8, k9, k10, k11, k12⟩ := Blk.cells13 (q := q) HX1.out.bx
   have hk1 : (q.hk == 0) = true := by rw [HK0.out]; rfl
   go_wp2
   go_ret
   exact ⟨rfl, HX1.out.bw⟩
  | true =>
   have ho := (hb.1 rfl).2
   have hk0 : ¬ q.hk = 0 := fun e => by have := g1.2 e; omega
   have hk1 : (q.hk == 0) = false := beq_eq_false_iff_ne.2 hk0
   obtain ⟨r, hr⟩ := put_first q.ps (g2 ho)
   obtain ⟨z0, z1⟩ := mk_first _ r hr
   have htl : q.ps.length + tot q.ps ≤ 1048576 := by unfold P.tot at hs; omega
   have hsz : (mk (putL q.ps)).size ≤ 1048576 := by rw [mk_size, putL_len]; omega
   have CP : Hid (∀ W, Below w.heap.size w W → Calls Tryz.prog 34 #[.agg #[(.string q.sc), (.string q.us), (.string q.pw), (.int .i64 q.hk), (.string q.hn), (.int .i64 q.ha), (.int .i64 q.po), (.slice a n c), (.string q.op), (.bool q.hq), (.string q.qu), (.bool q.hf), (.string q.fr)]] W fun e w' => e = .returned (.string (mk (putL q.ps))) ∧ Below W.heap.size W w') := fun W d => l7Path q a n c W (hS.later d) hs (g2 ho)
   unfold pofT
   rw [if_pos rfl]
   generalize mk (putL q.ps) = s at *
   have HZ : Hid (s[0] = 47) := z1
   have HC0 : Hid ((∀ j, 0 < j → (hj : j < s.size) → s[j] ≠ 47) → s.extract 0 (cutK s) = ⟨#[47]⟩) := cut_zero s z0 z1
   have HC1 : Hid (∀ k, (hk : k + 1 < s.size) → s[k + 1] = 47 → (∀ j, k + 1 < j → (hj : j < s.size) → s[j] ≠ 47) → cutK s = k + 1) := cut_more s
   generalize cutK s = K at *
   clear hS hs hpo hb hok g1 g2 hr htl z1 ho
   unfold P.cells at *
   go_enter Tryz.func10, Tryz.ntmps10
   go_wp2_with fail
   refine (CK.out _ H0.out.bw).mono ?_
   rintro e W1 ⟨rfl, d1⟩
   have HX1 : Hid (Wp w q (.slice a n c) W1) := H0.out.later d1
   clear d1 H0 CK
   obtain ⟨k0, k1, k2, k3, k4, k5, k6, k7, k8, k9, k10, k11, k12⟩ := Blk.cells13 (q := q) HX1.out.bx
   go_wp2_with fail
   refine (CP.out _ HX1.out.bw).mono ?_
   rintro e W2 ⟨rfl, d2⟩
   have HX2 : Hid (Below w.heap.size w W2) := HX1.out.bw.trans (d2.mono HX1.out.bw.size)
   clear d2 HX1 CP k0 k1 k2 k3 k4 k5 k6 k7 k8 k9 k10 k11 k12 hk0 hk1
   go_wp2
   go_loop [4] (fun i => ∃ k : Nat, k < s.size ∧ i = .int .i64 k ∧ Hid (∀ j, k < j → (hj : j < s.size) → s[j] ≠ 47)) (fun i => (intOf i).toNat)
   case atStart => exact ⟨s.size - 1, by omega, by go_num, fun j h1 h2 => by omega⟩
   case round =>
    obtain ⟨k, hk, rfl, HK⟩ := hrel
    by_cases hk0 : k = 0
    ·subst hk0
     have HE := HC0.out HK.out
     go_wp2
     exact bodyPost_ret (v := .string ⟨#[47]⟩) (by simp [results, Tryz.results10, go_sem]) rfl ⟨by first | rfl | rw [HE], HX2.out⟩
    ·obtain ⟨m, rfl⟩ : ∃ m, k = m + 1 := ⟨k - 1, by omega⟩
     by_cases hc : s[m + 1] = 47
     ·have e1 : ((s[m + 1].toNat : Int) == 47) = true := by rw [hc]; rfl
      have HE := HC1.out m hk hc HK.out
      subst HE
      go_wp2
      exact bodyPost_ret (v := .string (s.extract 0 (m + 1))) (by simp [results, Tryz.results10, go_sem]) rfl ⟨rfl, HX2.out⟩
     ·have e1 : ((s[m + 1].toNat : Int) == 47) = false := byte47 _ hc
      go_wp2
      go_round
      case rel =>
       refine ⟨m, by omega, by go_num, fun j h1 h2 => ?_⟩
       by_cases hj : j = m + 1
       ·subst hj; exact hc
       ·exact HK.out j (by omega) h2
      case measure => first | (simp [intOf]; done) | (simp [intOf]; omega)
 ·have hbf : b = false := by
   cases b with
   | true => exact absurd (hb.1 rfl).1 hok
   | false => rfl
  subst hbf
  have CK : Hid (∀ W, Below w.heap.size w W → Calls Tryz.prog 31 #[.agg #[(.string q.sc), (.string q.us), (.string q.pw), (.int .i64 q.hk), (.string q.hn), (.int .i64 q.ha), (.int .i64 q.po), (.slice a n c), (.string q.op), (.bool q.hq), (.string q.qu), (.bool q.hf), (.string q.fr)]] W fun e w' => e = .returned (.bool false) ∧ Below W.heap.size W w') := fun W d => specUrlOk q a n c W (hS.later d) hs hpo false (by simp [hok])
  unfold pofT
  rw [if_neg (by decide)]
  clear hS hs hpo hb hok
  unfold P.cells at *
  go_enter Tryz.func10, Tryz.ntmps10
  go_wp2_with fail
  refine (CK.out _ H0.out.bw).mono ?_
  rintro e W1 ⟨rfl, d1⟩
  have HX1 : Hid (Wp w q (.slice a n c) W1) := H0.out.later d1
  go_wp2
  go_ret
  exact ⟨rfl, HX1.out.bw⟩
end Go.Proofs.YtnfhajhdpdidlaaGreatDoor
end
section
namespace Go.Proofs.YtnfhajhdpdidlaaGreatDoor
open Go.RowKit Go.Shelf
theorem fnExactPathOf_walk (w : World) (hL : Lean1 w) (q : P) (a : Option Addr) (n c : Nat) (hS : StrsOf a n q.ps w) (hz : Sz q) (hpo : q.po ≤ 9223372036854775807) :
  Calls Tryz.prog 3 #[.agg (q.cells (.slice a n c))] w fun e w' => e = .returned (.bool true) ∧ Below w.heap.size w w' := by
 have hn : n = q.ps.length := hS.1
 obtain ⟨b, hb⟩ : ∃ b : Bool, b = true ↔ (okP q ∧ 0 ≤ ownZ q.sc) := by
  by_cases h : okP q ∧ 0 ≤ ownZ q.sc
  ·exact ⟨true, iff_of_true rfl h⟩
  ·exact ⟨false, iff_of_false (by decide) h⟩
 obtain ⟨t, ht0⟩ : ∃ t : ByteArray, t = pofT b (putL q.ps) := ⟨_, rfl⟩
 have H0 : Hid (La w q (.slice a n c) (w.alloc (.cells (q.cells (.slice a n c)) 26))) := La.start w q _
 have CS : Hid (∀ W, Below w.heap.size w W → Calls Tryz.prog 9 #[.agg #[(.string q.sc), (.string q.us), (.string q.pw), (.int .i64 q.hk), (.string q.hn), (.int .i64 q.ha), (.int .i64 q.po), (.slice a n c), (.string q.op), (.bool q.hq), (.string q.qu), (.bool q.hf), (.string q.fr)], .int .i64 1048576] W fun e w' => ∃ r : Int, e = .returned (.int .i64 r) ∧ Below W.heap.size W w' ∧ Hid (0 ≤ r → q.tot ≤ 1048576)) := fun W d => by
  refine (szUrl q a n c 1048576 W (hS.later d) hz (by decide) (by decide)).mono ?_
  rintro e w' ⟨r, rfl, d2, h1, h2⟩
  exact ⟨r, rfl, d2, fun h => by have := h2 h; omega⟩
 have HTN : Hid (q.ps.length ≤ q.tot) := by show _ ≤ _; unfold P.tot; omega
 have CT : Hid (∀ W, q.tot ≤ 1048576 → Below w.heap.size w W → Calls Tryz.prog 11 #[.agg #[(.string q.sc), (.string q.us), (.string q.pw), (.int .i64 q.hk), (.string q.hn), (.int .i64 q.ha), (.int .i64 q.po), (.slice a n c), (.string q.op), (.bool q.hq), (.string q.qu), (.bool q.hf), (.string q.fr)]] W fun e w' => ∃ g, e = .returned (.agg #[(.string q.sc), (.string q.us), (.string q.pw), (.int .i64 q.hk), (.string q.hn), (.int .i64 q.ha), (.int .i64 q.po), (.slice (some ⟨g, 0, none⟩) n n), (.string q.op), (.bool q.hq), (.string q.qu), (.bool q.hf), (.string q.fr)]) ∧ StrsOf (some ⟨g, 0, none⟩) n q.ps w' ∧ Below W.heap.size W w') := fun W ht d => by
  refine (toUrl q a n c W (hS.later d) (by have := HTN.out; omega)).mono ?_
  rintro e w' ⟨g, rfl, o, d2⟩
  obtain ⟨a1, c1, h1, h2, s1⟩ := o.strs
  rw [← hn] at h1 s1
  injection h1 with e1 e2 e3
  rw [← e1] at s1
  exact ⟨g, rfl, s1, d2⟩
 have CO : Hid (∀ g W, q.tot ≤ 1048576 → StrsOf (some ⟨g, 0, none⟩) n q.ps W → Calls Tryz.prog 10 #[.agg #[(.string q.sc), (.string q.us), (.string q.pw), (.int .i64 q.hk), (.string q.hn), (.int .i64 q.ha), (.int .i64 q.po), (.slice (some ⟨g, 0, none⟩) n n), (.string q.op), (.bool q.hq), (.string q.qu), (.bool q.hf), (.string q.fr)]] W fun e w' => e = .returned (.string t) ∧ Below W.heap.size W w') := fun g W ht s => by rw [ht0]; exact specPathOf q _ n _ W s ht hpo b hb
 have CI : Hid (∀ g W, q.tot ≤ 1048576 → Below w.heap.size w W → StrsOf (some ⟨g, 0, none⟩) n q.ps W → Calls Tryz.prog 12 #[.agg #[(.string q.sc), (.string q.us), (.string q.pw), (.int .i64 q.hk), (.string q.hn), (.int .i64 q.ha), (.int .i64 q.po), (.slice (some ⟨g, 0, none⟩) n n), (.string q.op), (.bool q.hq), (.string q.qu), (.bool q.hf), (.string q.fr)]] W fun e w' => e = .returned (.string t) ∧ Below W.heap.size W w') := fun g W ht d s => by rw [ht0]; exact implPathOf q _ n _ W (hL.below d) s ht hpo b hb
 have CE : Hid (∀ g g' W, q.tot ≤ 1048576 → StrsOf (some ⟨g, 0, none⟩) n q.ps W → StrsOf (some ⟨g', 0, none⟩) n q.ps W → Calls Tryz.prog 13 #[.agg #[(.string q.sc), (.string q.us), (.string q.pw), (.int .i64 q.hk), (.string q.hn), (.int .i64 q.ha), (.int .i64 q.po), (.slice (some ⟨g, 0, none⟩) n n), (.string q.op), (.bool q.hq), (.string q.qu), (.bool q.hf), (.string q.fr)], .agg #[(.string q.sc), (.string q.us), (.string q.pw), (.int .i64 q.hk), (.string q.hn), (.int .i64 q.ha), (.int .i64 q.po), (.slice (some ⟨g', 0, none⟩) n n), (.string q.op), (.bool q.hq), (.string q.qu), (.bool q.hf), (.string q.fr)]] W fun e w' => e = .returned (.bool true) ∧ Below W.heap.size W w') := fun g g' W ht s s' => by
  subst hn
  exact eqUrl q _ _ _ _ W s s' (by have := HTN.out; omega)
 clear hS hz hL hpo HTN hn hb ht0
 unfold P.cells at H0 ⊢
 go_enter Tryz.func3, Tryz.ntmps3
 go_wp2_with fail
 refine (CS.out _ H0.out.bw).mono ?_
 rintro e W1 ⟨r, rfl, d1, ht⟩
 have HL1 : Hid (La w q (.slice a n c) W1) := H0.out.later d1
 clear d1 H0 CS
 by_cases hr : r < 0
 ·clear ht CT CO CI CE
  go_wp2
  go_ret
  exact ⟨rfl, HL1.out.bw⟩
 have HT : Hid (q.tot ≤ 1048576) := ht.out (by omega)
 clear ht
 obtain ⟨k0, k1, k2, k3, k4, k5, k6, k7, k8, k9, k10, k11, k12⟩ := HL1.out.cells
 go_wp2_with fail
 refine (CT.out _ HT.out HL1.out.bw).mono ?_
 rintro e W2 ⟨g2, rfl, s2, d2⟩
 have HL2 : Hid (La w q (.slice a n c) W2) := HL1.out.later d2
 clear d2 HL1 k0 k1 k2 k3 k4 k5 k6 k7 k8 k9 k10 k11 k12 hr
 go_wp2_with fail
 refine (CO.out g2 _ HT.out s2).mono ?_
 rintro e W3 ⟨rfl, d3⟩
 have HL3 : Hid (La w q (.slice a n c) W3) := HL2.out.later d3
 clear d3 HL2 s2 CO
 obtain ⟨k0, k1, k2, k3, k4, k5, k6, k7, k8, k9, k10, k11, k12⟩ := HL3.out.cells
 go_wp2_with fail
 refine (CT.out _ HT.out HL3.out.bw).mono ?_
 rintro e W4 ⟨g4, rfl, s4, d4⟩
 have HL4 : Hid (La w q (.slice a n c) W4) := HL3.out.later d4
 clear d4 HL3 k0 k1 k2 k3 k4 k5 k6 k7 k8 k9 k10 k11 k12
 obtain ⟨V, hV⟩ : ∃ V, V = W4.alloc (.cells #[(.string q.sc), (.string q.us), (.string q.pw), (.int .i64 q.hk), (.string q.hn), (.int .i64 q.ha), (.int .i64 q.po), (.slice (some ⟨g4, 0, none⟩) n n), (.string q.op), (.bool q.hq), (.string q.qu), (.bool q.hf), (.string q.fr)] 31) := ⟨_, rfl⟩
 have HBV : Hid (Below W4.heap.size W4 V) := by show Below _ _ _; rw [hV]; exact (Below.refl _ _).alloc (Nat.le_refl _) _
 have HLV : Hid (La w q (.slice a n c) V) := HL4.out.later HBV.out
 have HSV : Hid (StrsOf (some ⟨g4, 0, none⟩) n q.ps V) := s4.later HBV.out
 have HXV : Hid (Blk W4.heap.size #[(.string q.sc), (.string q.us), (.string q.pw), (.int .i64 q.hk), (.string q.hn), (.int .i64 q.ha), (.int .i64 q.po), (.slice (some ⟨g4, 0, none⟩) n n), (.string q.op), (.bool q.hq), (.string q.qu), (.bool q.hf), (.string q.fr)] 31 V) := by show Blk _ _ _ _; rw [hV]; exact Blk.new W4 _ _
 clear s4 HL4 HBV
 go_wp2_with fail
 rw [← hV]
 clear hV
 refine (CI.out g4 _ HT.out HLV.out.bw HSV.out).mono ?_
 rintro e W5 ⟨rfl, d5⟩
 have HL5 : Hid (La w q (.slice a n c) W5) := HLV.out.later d5
 have HS5 : Hid (StrsOf (some ⟨g4, 0, none⟩) n q.ps W5) := HSV.out.later d5
 have HX5 : Hid (Blk W4.heap.size #[(.string q.sc), (.string q.us), (.string q.pw), (.int .i64 q.hk), (.string q.hn), (.int .i64 q.ha), (.int .i64 q.po), (.slice (some ⟨g4, 0, none⟩) n n), (.string q.op), (.bool q.hq), (.string q.qu), (.bool q.hf), (.string q.fr)] 31 W5) := HXV.out.below d5 HXV.out.lt
 clear d5 HLV HSV HXV CI
 have CT5 : Hid (∀ W, Below W5.heap.size W5 W → Calls Tryz.prog 11 #[.agg #[(.string q.sc), (.string q.us), (.string q.pw), (.int .i64 q.hk), (.string q.hn), (.int .i64 q.ha), (.int .i64 q.po), (.slice a n c), (.string q.op), (.bool q.hq), (.string q.qu), (.bool q.hf), (.string q.fr)]] W fun e w' => ∃ g, e = .returned (.agg #[(.string q.sc), (.string q.us), (.string q.pw), (.int .i64 q.hk), (.string q.hn), (.int .i64 q.ha), (.int .i64 q.po), (.slice (some ⟨g, 0, none⟩) n n), (.string q.op), (.bool q.hq), (.string q.qu), (.bool q.hf), (.string q.fr)]) ∧ StrsOf (some ⟨g, 0, none⟩) n q.ps w' ∧ Below W.heap.size W w') := fun W d => CT.out W HT.out (HL5.out.later d).bw
 have CE5 : Hid (∀ g W, Below W5.heap.size W5 W → StrsOf (some ⟨g, 0, none⟩) n q.ps W → Calls Tryz.prog 13 #[.agg #[(.string q.sc), (.string q.us), (.string q.pw), (.int .i64 q.hk), (.string q.hn), (.int .i64 q.ha), (.int .i64 q.po), (.slice (some ⟨g4, 0, none⟩) n n), (.string q.op), (.bool q.hq), (.string q.qu), (.bool q.hf), (.string q.fr)], .agg #[(.string q.sc), (.string q.us), (.string q.pw), (.int .i64 q.hk), (.string q.hn), (.int .i64 q.ha), (.int .i64 q.po), (.slice (some ⟨g, 0, none⟩) n n), (.string q.op), (.bool q.hq), (.string q.qu), (.bool q.hf), (.string q.fr)]] W fun e w' => e = .returned (.bool true) ∧ Below W.heap.size W w') := fun g W d s => CE.out g4 g W HT.out (HS5.out.later d) s
 have HXW : Hid (∀ W, Below W5.heap.size W5 W → Blk W4.heap.size #[(.string q.sc), (.string q.us), (.string q.pw), (.int .i64 q.hk), (.string q.hn), (.int .i64 q.ha), (.int .i64 q.po), (.slice (some ⟨g4, 0, none⟩) n n), (.string q.op), (.bool q.hq), (.string q.qu), (.bool q.hf), (.string q.fr)] 31 W) := fun W d => HX5.out.below d HX5.out.lt
 obtain ⟨k0, k1, k2, k3, k4, k5, k6, k7, k8, k9, k10, k11, k12⟩ := HL5.out.cells
 obtain ⟨x0, x1, x2, x3, x4, x5, x6, x7, x8, x9, x10, x11, x12⟩ := Blk.cells13a HX5.out
 have HB5 : Hid (Below w.heap.size w W5) := HL5.out.bw
 clear CT CE HT HL5 HS5 HX5
 go_wp2
 go_region_with (first
  | (go_at_call 11; refine (CT5.out _ ?hd).mono ?_; (case hd => first | exact Below.refl _ _ | exact (Below.refl _ _).drew); rintro e W6 ⟨g6, rfl, s6, d6⟩; have HD6 : Hid (Below W5.heap.size W5 W6) := (by first | exact d6 | exact ((Below.refl _ W5).drew).trans d6); have HS6 : Hid (StrsOf (some ⟨g6, 0, none⟩) n q.ps W6) := s6; clear d6 s6 k0 k1 k2 k3 k4 k5 k6 k7 k8 k9 k10 k11 k12 x0 x1 x2 x3 x4 x5 x6 x7 x8 x9 x10 x11 x12; obtain ⟨x0, x1, x2, x3, x4, x5, x6, x7, x8, x9, x10, x11, x12⟩ := Blk.cells13a (HXW.out W6 HD6.out))
  | (go_at_call 13; refine (CE5.out g6 _ HD6.out HS6.out).mono ?_; rintro e W7 ⟨rfl, d7⟩)
  | fail)
 all_goals
  have HFIN : Hid (Below w.heap.size w W7) := HB5.out.trans ((HD6.out.trans (d7.mono HD6.out.size)).mono HB5.out.size)
  clear d7 x0 x1 x2 x3 x4 x5 x6 x7 x8 x9 x10 x11 x12
  go_wp2
  go_ret
  exact ⟨rfl, HFIN.out⟩
end Go.Proofs.YtnfhajhdpdidlaaGreatDoor
end

/- impl.HostPut: a host, written. PathPut, of impl and of spec: a slash ahead of each piece. spec.l1Dec and l2Four: numbers in decimals. Numbers of at most five figures, written: strconv.Itoa and spec.l1Dec. impl.tailWrite, impl.authorityWrite, impl.urlWrite: an address, written. -/
import Derived.Test.YtnfhajhdpdidlaaGreatDoorB11
import Derived.Handy
import Derived.Test.YtnfhajhdpdidlaaGreatDoorB04
import Derived.Deep.RegionHeld3
import Derived.Deep.RegionWith
import Derived.Test.YtnfhajhdpdidlaaGreatDoorB10
set_option linter.unusedVariables false
set_option linter.unusedSimpArgs false
set_option maxHeartbeats 2000000
set_option maxRecDepth 100000
section
namespace Go.Proofs.YtnfhajhdpdidlaaGreatDoor
open Go.RowKit Go.Shelf
def putT (k : Int) (s : ByteArray) (a : Int) : List UInt8 := if named k s a = true then s.data.toList else if numbered k s a = true then fourT a else []
theorem put_named {k : Int} {s : ByteArray} {a : Int} (h : named k s a = true) : putT k s a = s.data.toList := by unfold putT; rw [if_pos h]
theorem put_numbered {k : Int} {s : ByteArray} {a : Int} (h1 : named k s a = false) (h : numbered k s a = true) : putT k s a = fourT a := by unfold putT; rw [if_neg (by rw [h1]; simp), if_pos h]
theorem put_none {k : Int} {s : ByteArray} {a : Int} (h1 : named k s a = false) (h : numbered k s a = false) : putT k s a = [] := by unfold putT; rw [if_neg (by rw [h1]; simp), if_neg (by rw [h]; simp)]
theorem fourT_len (a : Int) : (fourT a).length ≤ 15 := preT_len a 4
theorem putT_len (k : Int) (s : ByteArray) (a : Int) : (putT k s a).length ≤ 60 := by
 unfold putT
 split
 ·rename_i h
  have := (named_facts h).2.2
  have hl : s.data.toList.length = s.size := by simp
  omega
 ·split
  ·have := fourT_len a; omega
  ·simp
theorem cloneTo (s : ByteArray) (w : World) (hs : s.size ≤ 60) : Calls Tryz.prog 230 #[.string s] w fun e w' => e = .returned (.string s) ∧ Below w.heap.size w w' := by
 have CC : Hid (∀ W, Calls Tryz.prog 231 #[.string s] W fun e w' => e = .returned (.string s) ∧ Below W.heap.size W w') := fun W => Tryz.stringslite_Clone s W (by omega)
 go_enter Tryz.func230, Tryz.ntmps230
 go_wp2_with fail
 refine (CC.out _).mono ?_
 rintro e W1 ⟨rfl, b1⟩
 go_wp2
 go_ret
 exact ⟨rfl, b1⟩
theorem putNamed (s : ByteArray) (w : World) (hs : s.size ≤ 60) : Calls Tryz.prog 229 #[.string s] w fun e w' => e = .returned (.string s) ∧ Below w.heap.size w w' := by
 go_enter Tryz.func229, Tryz.ntmps229
 go_wp2_with fail
 refine (cloneTo s _ hs).mono ?_
 rintro e W1 ⟨rfl, b1⟩
 go_wp2
 go_ret
 exact ⟨rfl, b1⟩
theorem implPut (k : Int) (s : ByteArray) (a : Int) (w : World) (hm : ∃ m, w.cell? ⟨0, 0, none⟩ = some (.int .i64 m)) (hB : 4 < w.heap.size) (ht : Lib.TabIs Tryz.prog w "internal/strconv.uint64pow10" .u64 Lib.pow10Tab) (hs : s.size ≤ 1048576) :
  Calls Tryz.prog 105 #[.agg #[.int .i64 k, .string s, .int .i64 a]] w fun e w' => e = .returned (.string (mk (putT k s a))) ∧ Below w.heap.size w w' := by
 have hlt : 0 < w.heap.size := by
  obtain ⟨m, hm⟩ := hm
  exact cell_lt hm
 have HM : Hid (∀ W, Below w.heap.size w W → ∃ m, W.cell? ⟨0, 0, none⟩ = some (.int .i64 m)) := by
  obtain ⟨m, hm⟩ := hm
  intro W b
  exact ⟨m, (b.cell (p := ⟨0, 0, none⟩) hlt).trans hm⟩
 have HF : Hid (∀ W, Below w.heap.size w W → Calls Tryz.prog 131 #[.agg #[.int .i64 k, .string s, .int .i64 a]] W fun e w' => e = .returned (formV k s a) ∧ Below W.heap.size W w') := fun W b => hostFormOf k s a W (HM.out W b) hs
 have HT : Hid (∀ W, Below w.heap.size w W → Lib.TabIs Tryz.prog W "internal/strconv.uint64pow10" .u64 Lib.pow10Tab) := fun W b => tab_below ht b hB
 clear hm ht HM hlt
 cases h1 : named k s a with
 | true =>
  rw [form_named h1] at HF
  rw [put_named h1, mk_list]
  have h60 := (named_facts h1).2.2
  clear h1
  go_enter Tryz.func105, Tryz.ntmps105
  go_wp2_with fail
  refine (HF.out _ ((Below.refl _ w).alloc (Nat.le_refl _) _)).mono ?_
  rintro e W1 ⟨rfl, b1⟩
  have B1 : Below w.heap.size w W1 := box_below b1
  clear b1
  go_wp2_with fail
  refine (putNamed s _ h60).mono ?_
  rintro e W2 ⟨rfl, b2⟩
  have B2 : Below w.heap.size w W2 := B1.trans (b2.mono B1.size)
  go_wp2
  go_ret
  exact ⟨rfl, B2⟩
 | false =>
  cases h2 : numbered k s a with
  | true =>
   rw [form_numbered h1 h2] at HF
   rw [put_numbered h1 h2]
   obtain ⟨h0, h9⟩ := (numbered_facts h2).2.imp id (fun h => h.1)
   clear h1 h2
   have CP : Hid (∀ W, Below w.heap.size w W → Calls Tryz.prog 232 #[.int .i64 a] W fun e w' => e = .returned (.string (mk (fourT a))) ∧ Below W.heap.size W w') := fun W b => put a W h0 h9 (Nat.lt_of_lt_of_le hB b.size) (HT.out W b)
   generalize mk (fourT a) = r at *
   go_enter Tryz.func105, Tryz.ntmps105
   go_wp2_with fail
   refine (HF.out _ ((Below.refl _ w).alloc (Nat.le_refl _) _)).mono ?_
   rintro e W1 ⟨rfl, b1⟩
   have B1 : Below w.heap.size w W1 := box_below b1
   clear b1
   go_wp2_with fail
   refine (CP.out _ B1).mono ?_
   rintro e W2 ⟨rfl, b2⟩
   have B2 : Below w.heap.size w W2 := B1.trans (b2.mono B1.size)
   go_wp2
   go_ret
   exact ⟨rfl, B2⟩
  | false =>
   rw [form_none h1 h2] at HF
   rw [put_none h1 h2]
   clear h1 h2
   go_enter Tryz.func105, Tryz.ntmps105
   go_wp2_with fail
   refine (HF.out _ ((Below.refl _ w).alloc (Nat.le_refl _) _)).mono ?_
   rintro e W1 ⟨rfl, b1⟩
   have B1 : Below w.heap.size w W1 := box_below b1
   clear b1
   go_wp2
   go_ret
   exact ⟨rfl, B1⟩
end Go.Proofs.YtnfhajhdpdidlaaGreatDoor
end
section
namespace Go.Proofs.YtnfhajhdpdidlaaGreatDoor
open Go.RowKit Go.Shelf
def putL (ss : List (List UInt8)) : List UInt8 := ss.flatMap fun p => 47 :: p
theorem putL_snoc (ss : List (List UInt8)) (k : Nat) (hk : k < ss.length) : putL (ss.take (k + 1)) = putL (ss.take k) ++ 47 :: ss[k] := by
 unfold putL; rw [List.take_succ_eq_append_getElem hk, List.flatMap_append]; simp
theorem putL_len (ss : List (List UInt8)) : (putL ss).length = ss.length + tot ss := by
 induction ss with
 | nil => rfl
 | cons p ps ih =>
  have e1 : putL (p :: ps) = (47 :: p) ++ putL ps := rfl
  have e2 : tot (p :: ps) = p.length + tot ps := by simp [tot]
  rw [e1, e2, List.length_append, ih]; simp; omega
theorem tot_take (ss : List (List UInt8)) (k : Nat) : tot (ss.take k) ≤ tot ss := by
 conv => rhs; rw [← List.take_append_drop k ss]
 unfold tot
 rw [List.map_append, List.sum_append]; omega
theorem putL_take (ss : List (List UInt8)) (k : Nat) : (putL (ss.take k)).length ≤ ss.length + tot ss := by
 rw [putL_len]; have := tot_take ss k; have := List.length_take_le k ss; have := List.length_take_le' k ss; omega
theorem implPathPut (a : Option Addr) (len cap : Nat) (ss : List (List UInt8)) (w : World) (h : StrsOf a len ss w) (hl : ss.length + tot ss ≤ 1000000000) :
  Calls Tryz.prog 16 #[.slice a len cap] w fun e w' => e = .returned (.string (mk (putL ss))) ∧ Below w.heap.size w w' := by
 have HLEN : Hid (len = ss.length) := h.1
 have hll : len ≤ 1000000000 := by have := HLEN.out; omega
 go_enter Tryz.func16, Tryz.ntmps16
 go_wp2
 go_loopw [8] (fun i wr => ∃ k : Nat, k ≤ len ∧ i = .int .i64 k ∧ Lib.IsBuilderF 67 5 w.heap.size w.heap.size (Lib.byteCells (putL (ss.take k))) wr ∧ Below w.heap.size w wr) (fun i wr => len - (intOf i).toNat)
 case atStart =>
  refine ⟨0, Nat.zero_le _, rfl, Lib.IsBuilderF.of (Lib.fresh_isBuilder _ _ w), (Below.refl _ w).alloc (Nat.le_refl _) _⟩
 case round =>
  obtain ⟨k, hk, rfl, hI, hbw⟩ := hrel
  have hsz : w.heap.size ≤ wr.heap.size := hbw.size
  by_cases hp : k < len
  ·have hki : (k : Int) < (len : Int) := by omega
   have hkl : k < ss.length := by have := HLEN.out; omega
   obtain ⟨b, off, z, rfl, hz, hzm, hzs⟩ := (h.later hbw).at k hkl
   have hq := putL_take ss (k + 1)
   have HS := putL_snoc ss k hkl
   have hlen : (Lib.byteCells (putL (ss.take k))).length + 1 ≤ 140737488355328 := by
    rw [Lib.byteCells_length]; have := putL_take ss k; omega
   have hlen2 : (Lib.byteCells (putL (ss.take k)) ++ [Value.int .u8 47]).length + z.size ≤ 140737488355328 := by
    rw [HS] at hq; simp [Lib.byteCells_length] at hq ⊢; omega
   have HP : Hid (Lib.byteCells (putL (ss.take (k + 1))) = (Lib.byteCells (putL (ss.take k)) ++ [Value.int .u8 47]) ++ Lib.strCells z) := by
    rw [HS, hzm, Lib.byteCells_append, List.append_assoc]; rfl
   clear HS hq hzm hzs
   go_wp2_with (first
    | (go_at_call 45; refine (writeByte_k w.heap.size w.heap.size _ _ _ hI hlen hsz).mono ?_; rintro e W1 ⟨rfl, g1, b1, _⟩)
    | (go_at_call 46; refine (writeString_k w.heap.size w.heap.size _ _ _ (Or.inr g1) hlen2 (by have := b1.size; omega)).mono ?_; rintro e W2 ⟨rfl, g2, b2, _⟩))
   go_roundw
   case rel => exact ⟨k + 1, by omega, by go_num, Or.inr (by rw [HP.out]; exact g2), hbw.trans (b1.trans b2)⟩
   case measure => simp [intOf]; omega
  ·have hkk : k = len := by omega
   subst hkk
   rw [List.take_of_length_le (by have := HLEN.out; omega)] at hI
   go_wp2_with (go_at_call 47; refine (Tryz.Builder_String_any_k w.heap.size w.heap.size _ _ hI hsz).mono ?_; rintro e W1 ⟨rfl, _, b1, _⟩)
   go_ret
   exact ⟨rfl, hbw.trans b1⟩
theorem specPathPut (a : Option Addr) (len cap : Nat) (ss : List (List UInt8)) (w : World) (h : StrsOf a len ss w) (hl : ss.length + tot ss ≤ 1000000000) :
  Calls Tryz.prog 64 #[.slice a len cap] w fun e w' => e = .returned (.string (mk (putL ss))) ∧ w' = w := by
 have HLEN : Hid (len = ss.length) := h.1
 have hll : len ≤ 1000000000 := by have := HLEN.out; omega
 go_enter Tryz.func64, Tryz.ntmps64
 go_wp2
 go_loop [3, 4] (fun o i => ∃ (k : Nat) (x : ByteArray), k ≤ len ∧ i = .int .i64 k ∧ o = .string x ∧ x.size ≤ 1000000000 ∧ Hid (x = mk (putL (ss.take k)))) (fun _ i => len - (intOf i).toNat)
 case atStart => exact ⟨0, _, Nat.zero_le _, rfl, rfl, by decide, rfl⟩
 case round =>
  obtain ⟨k, x, hk, rfl, rfl, hx, HX⟩ := hrel
  by_cases hp : k < len
  ·have hki : (k : Int) < (len : Int) := by omega
   have hkl : k < ss.length := by have := HLEN.out; omega
   obtain ⟨b, off, z, rfl, hz, hzm, hzs⟩ := h.at k hkl
   have hq := putL_take ss (k + 1)
   have HS := putL_snoc ss k hkl
   have HE : Hid ((x ++ ⟨#[47]⟩) ++ z = mk (putL (ss.take (k + 1)))) := by
    rw [HX.out, HS, hzm]; apply ByteArray.ext; apply Array.ext'; simp [mk]
   have hsz : ((x ++ ⟨#[47]⟩) ++ z).size ≤ 1000000000 := by rw [HE.out, mk_size]; omega
   have hsz2 : x.size + 1 + z.size ≤ 1000000000 := by rw [ByteArray.size_append, ByteArray.size_append] at hsz; exact hsz
   clear HS hq hzm hzs
   go_wp2
   go_round
   case rel => exact ⟨k + 1, _, by omega, by go_num, rfl, hsz, HE⟩
   case measure => simp [intOf]; omega
  ·have hkk : k = len := by omega
   subst hkk
   have HE := HX.out
   rw [List.take_of_length_le (by have := HLEN.out; omega)] at HE
   subst HE
   go_wp2
   go_ret
   exact ⟨rfl, rfl⟩
end Go.Proofs.YtnfhajhdpdidlaaGreatDoor
end
section
namespace Go.Proofs.YtnfhajhdpdidlaaGreatDoor
open Go.RowKit Go.Shelf
def figC (n : Int) : UInt8 := UInt8.ofNat (48 + n.toNat)
theorem dg_one (n : Int) (h0 : 0 ≤ n) (h : n < 10) : dg n = [figC n] := by
 unfold dg figC; rw [Lib.decDigits, dif_pos (by omega)]
theorem dg_more (n : Int) (h : 10 ≤ n) : dg n = dg (n / 10) ++ [figC (n % 10)] := by
 unfold dg figC; rw [Lib.decDigits, dif_neg (by omega)]
 have e1 : n.toNat / 10 = (n / 10).toNat := by omega
 have e2 : n.toNat % 10 = (n % 10).toNat := by omega
 rw [e1, e2]
theorem conv_one (g : Nat) (c : UInt8) (W : World) (x : Int) (hx : x = (c.toNat : Int)) (hg : W.heap[g]? = some (.cells #[.int .u8 x] 5)) :
  (convert 35 9 (.slice (some ⟨g, 0, none⟩) 1 1)).run Tryz.prog W = .ok (.string (mk [c])) W := by
 have h : OwnB 0 (.slice (some ⟨g, 0, none⟩) 1 1) [c] W := ⟨rfl, .inr ⟨g, 1, #[.int .u8 x], rfl, Nat.zero_le _, hg, Nat.le_refl _, by decide, rfl, by subst hx; rfl⟩⟩
 exact ownB_text h
theorem fig_val (n : Int) (h0 : 0 ≤ n) (h : n < 10) : 48 + n = ((figC n).toNat : Int) := by
 unfold figC; rw [UInt8.toNat_ofNat']; omega
theorem l1Dec_one (n : Int) (w : World) (h0 : 0 ≤ n) (h : n < 10) :
  Calls Tryz.prog 79 #[.int .i64 n] w fun e w' => e = .returned (.string (mk (dg n))) ∧ Below w.heap.size w w' := by
 have HD : Hid (dg n = [figC n]) := dg_one n h0 h
 have hw1 : IntKind.i64.wrap (48 + n) = 48 + n := by rw [IntKind.wrap_i64]; omega
 have hw2 : IntKind.u8.wrap (48 + n) = 48 + n := by rw [IntKind.wrap_u8]; omega
 have hcv := conv_one w.heap.size _ (w.alloc (.cells #[.int .u8 (48 + n)] 5)) (48 + n) (fig_val n h0 h) (heap_alloc_new w _)
 go_enter Tryz.func79, Tryz.ntmps79
 go_wp2
 go_ret
 exact ⟨by rw [HD.out]; rfl, (Below.refl _ w).alloc (Nat.le_refl _) _⟩
theorem mk_app (a b : List UInt8) : mk (a ++ b) = mk a ++ mk b := by
 apply ByteArray.ext
 simp [mk, ByteArray.data_append]
theorem dec_below1 {w W1 : World} {o : Obj} (b : Below w.drew.heap.size w.drew W1) : Below w.heap.size w (W1.alloc o) :=
 have h : Below w.heap.size w W1 := (Below.refl _ w).drew.trans b
 h.alloc h.size _
theorem dec_below2 {w W1 : World} {o : Obj} (b : Below ((w.alloc o).drew).heap.size (w.alloc o).drew W1) : Below w.heap.size w W1 :=
 have h : Below w.heap.size w (w.alloc o).drew := ((Below.refl _ w).alloc (Nat.le_refl _) _).drew
 h.trans (b.mono h.size)
theorem dec_below3 {w W1 : World} {o : Obj} (b : Below (w.drew.alloc o).heap.size (w.drew.alloc o) W1) : Below w.heap.size w W1 :=
 have h : Below w.heap.size w (w.drew.alloc o) := (Below.refl _ w).drew.alloc (Nat.le_refl _) _
 h.trans (b.mono h.size)
theorem l1Dec_more (n : Int) (w : World) (h0 : 10 ≤ n) (h : n < 256)
  (HC : ∀ W, Calls Tryz.prog 79 #[.int .i64 (n / 10)] W fun e w' => e = .returned (.string (mk (dg (n / 10)))) ∧ Below W.heap.size W w') :
  Calls Tryz.prog 79 #[.int .i64 n] w fun e w' => e = .returned (.string (mk (dg n))) ∧ Below w.heap.size w w' := by
 have HD : Hid (dg n = dg (n / 10) ++ [figC (n % 10)]) := dg_more n h0
 have hw1 : IntKind.i64.wrap (48 + n % 10) = 48 + n % 10 := by rw [IntKind.wrap_i64]; omega
 have hw2 : IntKind.u8.wrap (48 + n % 10) = 48 + n % 10 := by rw [IntKind.wrap_u8]; omega
 have ht1 : IntKind.i64.wrap (n.tdiv 10) = n / 10 := by rw [Int.tdiv_eq_ediv_of_nonneg (by omega), IntKind.wrap_i64]; omega
 have ht2 : n.tmod 10 = n % 10 := Int.tmod_eq_emod_of_nonneg (by omega)
 have hdv : (mk (dg (n / 10))).size ≤ 3 := by rw [mk_size]; exact dg_len _ (by omega)
 have HFV : Hid (48 + n % 10 = ((figC (n % 10)).toNat : Int)) := fig_val (n % 10) (by omega) (by omega)
 obtain ⟨d, hd⟩ : ∃ d, d = mk (dg (n / 10)) := ⟨_, rfl⟩
 rw [← hd] at hdv
 have HC2 : Hid (∀ W, Calls Tryz.prog 79 #[.int .i64 (n / 10)] W fun e w' => e = .returned (.string d) ∧ Below W.heap.size W w') := by rw [hd]; exact HC
 have HDD : Hid (d = mk (dg (n / 10))) := hd
 clear HC hd
 obtain ⟨q, hq⟩ : ∃ q, q = mk [figC (n % 10)] := ⟨_, rfl⟩
 have hqs : q.size = 1 := by rw [hq, mk_size]; rfl
 have z3 : ¬ (9223372036854775807 < d.size + q.size) := by omega
 have z4 : d.size + q.size ≤ 9223372036854775807 := by omega
 have HQ : Hid (q = mk [figC (n % 10)]) := hq
 have cA : ∀ W : World, (convert 35 9 (.slice (some ⟨W.heap.size, 0, none⟩) 1 1)).run Tryz.prog (W.alloc (.cells #[.int .u8 (48 + n % 10)] 5)) = .ok (.string q) (W.alloc (.cells #[.int .u8 (48 + n % 10)] 5)) := fun W => by
  rw [hq]; exact conv_one W.heap.size (figC (n % 10)) _ (48 + n % 10) HFV.out (heap_alloc_new W _)
 have cB : (convert 35 9 (.slice (some ⟨w.heap.size, 0, none⟩) 1 1)).run Tryz.prog (w.drew.alloc (.cells #[.int .u8 (48 + n % 10)] 5)) = .ok (.string q) (w.drew.alloc (.cells #[.int .u8 (48 + n % 10)] 5)) := cA w.drew
 clear hq hqs hdv
 go_enter Tryz.func79, Tryz.ntmps79
 go_wp2
 go_region_with (first
  | (go_at_call 79; refine (HC2.out _).mono ?_; rintro e W1 ⟨rfl, bW⟩)
  | (rw [conv_one _ (figC (n % 10)) _ (48 + n % 10) HFV.out (by first | exact heap_alloc_new _ _ | exact heap_alloc_new w _ | exact heap_alloc_new W1 _ | exact (bW.block _ (Array.getElem?_eq_some_iff.1 (heap_alloc_new w _)).1).trans (heap_alloc_new w _)), ← HQ.out])
  | fail)
 all_goals
  go_wp2
  go_ret
  refine ⟨by rw [HD.out, mk_app, ← HDD.out, ← HQ.out]; rfl, ?_⟩
  first
   | exact dec_below1 bW
   | exact dec_below2 bW
   | exact dec_below3 bW
theorem l1Dec (n : Int) (w : World) (h0 : 0 ≤ n) (h : n < 256) :
  Calls Tryz.prog 79 #[.int .i64 n] w fun e w' => e = .returned (.string (mk (dg n))) ∧ Below w.heap.size w w' := by
 by_cases h1 : n < 10
 ·exact l1Dec_one n w h0 h1
 ·refine l1Dec_more n w (by omega) h (fun W => ?_)
  by_cases h2 : n / 10 < 10
  ·exact l1Dec_one _ W (by omega) h2
  ·exact l1Dec_more _ W (by omega) (by omega) (fun W' => l1Dec_one _ W' (by omega) (by omega))
theorem four_sum (a : Int) (h0 : 0 ≤ a) (h1 : a ≤ 4294967295) : mk (fourT a) = mk (dg (a / 16777216)) ++ mk [46] ++ mk (dg (a / 65536 % 256)) ++ mk [46] ++ mk (dg (a / 256 % 256)) ++ mk [46] ++ mk (dg (a % 256)) := by
 unfold fourT pre3 pre2 pre1
 have e : a / 16777216 % 256 = a / 16777216 := by omega
 rw [e]
 simp only [← mk_app, List.append_assoc]
theorem l2Four (a : Int) (w : World) (h0 : 0 ≤ a) (h1 : a ≤ 4294967295) :
  Calls Tryz.prog 109 #[.int .i64 a] w fun e w' => e = .returned (.string (mk (fourT a))) ∧ Below w.heap.size w w' := by
 have HS : Hid (mk (fourT a) = mk (dg (a / 16777216)) ++ mk [46] ++ mk (dg (a / 65536 % 256)) ++ mk [46] ++ mk (dg (a / 256 % 256)) ++ mk [46] ++ mk (dg (a % 256))) := four_sum a h0 h1
 have C0 : Hid (∀ W, Calls Tryz.prog 79 #[.int .i64 (a / 16777216)] W fun e w' => e = .returned (.string (mk (dg (a / 16777216)))) ∧ Below W.heap.size W w') := fun W => l1Dec _ W (by omega) (by omega)
 have C1 : Hid (∀ W, Calls Tryz.prog 79 #[.int .i64 (a / 65536 % 256)] W fun e w' => e = .returned (.string (mk (dg (a / 65536 % 256)))) ∧ Below W.heap.size W w') := fun W => l1Dec _ W (by omega) (by omega)
 have C2 : Hid (∀ W, Calls Tryz.prog 79 #[.int .i64 (a / 256 % 256)] W fun e w' => e = .returned (.string (mk (dg (a / 256 % 256)))) ∧ Below W.heap.size W w') := fun W => l1Dec _ W (by omega) (by omega)
 have C3 : Hid (∀ W, Calls Tryz.prog 79 #[.int .i64 (a % 256)] W fun e w' => e = .returned (.string (mk (dg (a % 256)))) ∧ Below W.heap.size W w') := fun W => l1Dec _ W (by omega) (by omega)
 have s0 : (mk (dg (a / 16777216))).size ≤ 3 := by rw [mk_size]; exact dg_len _ (by omega)
 have s1 : (mk (dg (a / 65536 % 256))).size ≤ 3 := by rw [mk_size]; exact dg_len _ (by omega)
 have s2 : (mk (dg (a / 256 % 256))).size ≤ 3 := by rw [mk_size]; exact dg_len _ (by omega)
 have s3 : (mk (dg (a % 256))).size ≤ 3 := by rw [mk_size]; exact dg_len _ (by omega)
 generalize mk (dg (a / 16777216)) = d0 at *
 generalize mk (dg (a / 65536 % 256)) = d1 at *
 generalize mk (dg (a / 256 % 256)) = d2 at *
 generalize mk (dg (a % 256)) = d3 at *
 go_enter Tryz.func109, Tryz.ntmps109
 go_wp2_with fail
 refine (C0.out _).mono ?_
 rintro e W1 ⟨rfl, b1⟩
 go_wp2_with fail
 refine (C1.out _).mono ?_
 rintro e W2 ⟨rfl, b2⟩
 go_wp2_with fail
 refine (C2.out _).mono ?_
 rintro e W3 ⟨rfl, b3⟩
 go_wp2_with fail
 refine (C3.out _).mono ?_
 rintro e W4 ⟨rfl, b4⟩
 have B2 : Below w.heap.size w W2 := b1.trans (b2.mono b1.size)
 have B3 : Below w.heap.size w W3 := B2.trans (b3.mono B2.size)
 have B4 : Below w.heap.size w W4 := B3.trans (b4.mono B3.size)
 clear b1 b2 b3 b4 B2 B3
 go_wp2
 go_ret
 exact ⟨by rw [HS.out]; rfl, B4⟩
end Go.Proofs.YtnfhajhdpdidlaaGreatDoor
end
section
namespace Go.Proofs.YtnfhajhdpdidlaaGreatDoor
open Go.RowKit Go.Shelf
theorem dg_len5 (x : Int) (h : x < 100000) : (dg x).length ≤ 5 := by
 unfold dg
 obtain ⟨n, hn, hl⟩ : ∃ n, n = x.toNat ∧ n < 100000 := ⟨_, rfl, by omega⟩
 rw [← hn]
 rw [Lib.decDigits]
 split
 ·simp
 ·rw [Lib.decDigits]
  split
  ·simp
  ·rw [Lib.decDigits]
   split
   ·simp
   ·rw [Lib.decDigits]
    split
    ·simp
    ·rw [Lib.decDigits]
     split
     ·simp
     ·omega
theorem itoaM (x : Int) (h0 : 0 ≤ x) (h1 : x < 100000) (W : World) (ht : Lib.TabIs Tryz.prog W "internal/strconv.uint64pow10" .u64 Lib.pow10Tab) :
  Calls Tryz.prog 106 #[.int .i64 x] W fun e w' => e = .returned (.string (mk (dg x))) ∧ Below W.heap.size W w' := by
 refine (Tryz.strconv_Itoa x (by omega) (by omega) W ht).mono ?_
 rintro e w' ⟨rfl, k, os, rfl⟩
 exact ⟨by rw [itoa_dg x h0]; rfl, Lib.below_grow _ _ (Nat.le_refl _) k os⟩
theorem l1Dec_step (n : Int) (w : World) (h0 : 10 ≤ n) (h : n < 100000)
  (HC : ∀ W, Calls Tryz.prog 79 #[.int .i64 (n / 10)] W fun e w' => e = .returned (.string (mk (dg (n / 10)))) ∧ Below W.heap.size W w') :
  Calls Tryz.prog 79 #[.int .i64 n] w fun e w' => e = .returned (.string (mk (dg n))) ∧ Below w.heap.size w w' := by
 have HD : Hid (dg n = dg (n / 10) ++ [figC (n % 10)]) := dg_more n h0
 have hw1 : IntKind.i64.wrap (48 + n % 10) = 48 + n % 10 := by rw [IntKind.wrap_i64]; omega
 have hw2 : IntKind.u8.wrap (48 + n % 10) = 48 + n % 10 := by rw [IntKind.wrap_u8]; omega
 have ht1 : IntKind.i64.wrap (n.tdiv 10) = n / 10 := by rw [Int.tdiv_eq_ediv_of_nonneg (by omega), IntKind.wrap_i64]; omega
 have ht2 : n.tmod 10 = n % 10 := Int.tmod_eq_emod_of_nonneg (by omega)
 have hdv : (mk (dg (n / 10))).size ≤ 5 := by rw [mk_size]; exact dg_len5 _ (by omega)
 have HFV : Hid (48 + n % 10 = ((figC (n % 10)).toNat : Int)) := fig_val (n % 10) (by omega) (by omega)
 obtain ⟨d, hd⟩ : ∃ d, d = mk (dg (n / 10)) := ⟨_, rfl⟩
 rw [← hd] at hdv
 have HC2 : Hid (∀ W, Calls Tryz.prog 79 #[.int .i64 (n / 10)] W fun e w' => e = .returned (.string d) ∧ Below W.heap.size W w') := by rw [hd]; exact HC
 have HDD : Hid (d = mk (dg (n / 10))) := hd
 clear HC hd
 obtain ⟨q, hq⟩ : ∃ q, q = mk [figC (n % 10)] := ⟨_, rfl⟩
 have hqs : q.size = 1 := by rw [hq, mk_size]; rfl
 have z3 : ¬ (9223372036854775807 < d.size + q.size) := by omega
 have z4 : d.size + q.size ≤ 9223372036854775807 := by omega
 have HQ : Hid (q = mk [figC (n % 10)]) := hq
 have cA : ∀ W : World, (convert 35 9 (.slice (some ⟨W.heap.size, 0, none⟩) 1 1)).run Tryz.prog (W.alloc (.cells #[.int .u8 (48 + n % 10)] 5)) = .ok (.string q) (W.alloc (.cells #[.int .u8 (48 + n % 10)] 5)) := fun W => by
  rw [hq]; exact conv_one W.heap.size (figC (n % 10)) _ (48 + n % 10) HFV.out (heap_alloc_new W _)
 have cB : (convert 35 9 (.slice (some ⟨w.heap.size, 0, none⟩) 1 1)).run Tryz.prog (w.drew.alloc (.cells #[.int .u8 (48 + n % 10)] 5)) = .ok (.string q) (w.drew.alloc (.cells #[.int .u8 (48 + n % 10)] 5)) := cA w.drew
 clear hq hqs hdv
 go_enter Tryz.func79, Tryz.ntmps79
 go_wp2
 go_region_with (first
  | (go_at_call 79; refine (HC2.out _).mono ?_; rintro e W1 ⟨rfl, bW⟩)
  | (rw [conv_one _ (figC (n % 10)) _ (48 + n % 10) HFV.out (by first | exact heap_alloc_new _ _ | exact heap_alloc_new w _ | exact heap_alloc_new W1 _ | exact (bW.block _ (Array.getElem?_eq_some_iff.1 (heap_alloc_new w _)).1).trans (heap_alloc_new w _)), ← HQ.out])
  | fail)
 all_goals
  go_wp2
  go_ret
  refine ⟨by rw [HD.out, mk_app, ← HDD.out, ← HQ.out]; rfl, ?_⟩
  first
   | exact dec_below1 bW
   | exact dec_below2 bW
   | exact dec_below3 bW
theorem l1DecF : ∀ (f : Nat) (n : Int) (w : World), 0 ≤ n → n < 100000 → n ≤ (f : Int) →
  Calls Tryz.prog 79 #[.int .i64 n] w fun e w' => e = .returned (.string (mk (dg n))) ∧ Below w.heap.size w w' := by
 intro f
 induction f with
 | zero => intro n w h0 h hf; exact l1Dec_one n w h0 (by omega)
 | succ f ih =>
  intro n w h0 h hf
  by_cases h1 : n < 10
  ·exact l1Dec_one n w h0 h1
  ·exact l1Dec_step n w (by omega) h (fun W => ih (n / 10) W (by omega) (by omega) (by omega))
theorem l1DecM (n : Int) (w : World) (h0 : 0 ≤ n) (h : n < 100000) :
  Calls Tryz.prog 79 #[.int .i64 n] w fun e w' => e = .returned (.string (mk (dg n))) ∧ Below w.heap.size w w' := l1DecF n.toNat n w h0 h (by omega)
end Go.Proofs.YtnfhajhdpdidlaaGreatDoor
end
section
namespace Go.Proofs.YtnfhajhdpdidlaaGreatDoor
open Go.RowKit Go.Shelf
def Bd (B b : Nat) (l : List UInt8) (w : World) : Prop := Lib.IsBuilderF 67 5 B b (Lib.byteCells l) w
theorem Bd.new (w : World) : Bd w.heap.size w.heap.size [] (w.alloc (.cells #[.pointer none, .slice none 0 0] 67)) := Lib.IsBuilderF.of (Lib.fresh_isBuilder _ _ w)
def P.tot (p : P) : Nat := p.sc.size + p.us.size + p.pw.size + p.hn.size + p.op.size + p.qu.size + p.fr.size + p.ps.length + Go.Proofs.YtnfhajhdpdidlaaGreatDoor.tot p.ps
def P.cells (p : P) (v : Value) : Array Value := #[.string p.sc, .string p.us, .string p.pw, .int .i64 p.hk, .string p.hn, .int .i64 p.ha, .int .i64 p.po, v, .string p.op, .bool p.hq, .string p.qu, .bool p.hf, .string p.fr]
theorem text_len (s : ByteArray) : s.data.toList.length = s.size := by simp
structure Wr (w : World) (p : P) (v : Value) (n : Nat) (l : List UInt8) (W : World) : Prop where
 make ::
 len : l.length ≤ n
 blk : Blk w.heap.size (p.cells v) 31 W
 bd : Bd (w.heap.size + 1) (w.heap.size + 1) l W
 bw : Below w.heap.size w W
 sz : w.heap.size + 1 ≤ W.heap.size
theorem Wr.start (w : World) (p : P) (v : Value) : Wr w p v 0 [] ((w.alloc (.cells (p.cells v) 31)).alloc (.cells #[.pointer none, .slice none 0 0] 67)) where
 len := Nat.le_refl _
 blk := Blk.alloc (Blk.new w _ _) _
 bd := by
  have := Bd.new (w.alloc (.cells (p.cells v) 31))
  rw [show (w.alloc (Obj.cells (p.cells v) 31)).heap.size = w.heap.size + 1 by simp] at this
  exact this
 bw := ((Below.refl _ w).alloc (Nat.le_refl _) _).alloc (by simp) _
 sz := by simp
theorem Wr.cells {w W : World} {p : P} {v : Value} {l : List UInt8} {n : Nat} (h : Wr w p v n l W) :
  W.cell? ⟨w.heap.size, 0, none⟩ = some (.string p.sc) ∧ W.cell? ⟨w.heap.size, 1, none⟩ = some (.string p.us) ∧ W.cell? ⟨w.heap.size, 2, none⟩ = some (.string p.pw) ∧ W.cell? ⟨w.heap.size, 3, none⟩ = some (.int .i64 p.hk) ∧ W.cell? ⟨w.heap.size, 4, none⟩ = some (.string p.hn) ∧ W.cell? ⟨w.heap.size, 5, none⟩ = some (.int .i64 p.ha) ∧ W.cell? ⟨w.heap.size, 6, none⟩ = some (.int .i64 p.po) ∧ W.cell? ⟨w.heap.size, 7, none⟩ = some v ∧ W.cell? ⟨w.heap.size, 8, none⟩ = some (.string p.op) ∧ W.cell? ⟨w.heap.size, 9, none⟩ = some (.bool p.hq) ∧ W.cell? ⟨w.heap.size, 10, none⟩ = some (.string p.qu) ∧ W.cell? ⟨w.heap.size, 11, none⟩ = some (.bool p.hf) ∧ W.cell? ⟨w.heap.size, 12, none⟩ = some (.string p.fr) :=
 ⟨h.blk.cell 0, h.blk.cell 1, h.blk.cell 2, h.blk.cell 3, h.blk.cell 4, h.blk.cell 5, h.blk.cell 6, h.blk.cell 7, h.blk.cell 8, h.blk.cell 9, h.blk.cell 10, h.blk.cell 11, h.blk.cell 12⟩
theorem Wr.step {w W W' : World} {p : P} {v : Value} {l l' : List UInt8} {n n' : Nat} (h : Wr w p v n l W) (hd : Bd (w.heap.size + 1) (w.heap.size + 1) l' W') (b : Below (w.heap.size + 1) W W') (hn : l'.length ≤ n') : Wr w p v n' l' W' where
 len := hn
 blk := h.blk.below b (Nat.lt_succ_self _)
 bd := hd
 bw := h.bw.trans (b.mono (Nat.le_succ _))
 sz := Nat.le_trans h.sz b.size
theorem Wr.later {w W W' : World} {p : P} {v : Value} {l : List UInt8} {n : Nat} (h : Wr w p v n l W) (b : Below W.heap.size W W') : Wr w p v n l W' :=
 h.step (builder_below h.bd b) (b.mono h.sz) h.len
theorem Wr.wb {w W : World} {p : P} {v : Value} {l : List UInt8} {n : Nat} (h : Wr w p v n l W) (c : UInt8) (z : Int) (hz : (c.toNat : Int) = z) (hl : n ≤ 1000000000) :
  Calls Tryz.prog 45 #[.pointer (some ⟨w.heap.size + 1, 0, none⟩), .int .u8 z] W fun e w' => e = .returned .nilIface ∧ Wr w p v (n + 1) (l ++ [c]) w' := by
 subst hz
 have hn := h.len
 refine (writeByte_k _ _ _ _ W h.bd (by rw [Lib.byteCells_length]; omega) h.sz).mono ?_
 rintro e w' ⟨rfl, g1, b1, _⟩
 exact ⟨rfl, h.step (Or.inr (by rw [Lib.byteCells_append]; exact g1)) b1 (by rw [List.length_append]; simp only [List.length_cons, List.length_nil]; omega)⟩
theorem Wr.ws {w W : World} {p : P} {v : Value} {l : List UInt8} {n : Nat} (h : Wr w p v n l W) (s : ByteArray) (hl : n + s.size ≤ 1000000000) :
  Calls Tryz.prog 46 #[.pointer (some ⟨w.heap.size + 1, 0, none⟩), .string s] W fun e w' => e = .returned (.tuple #[.int .i64 s.size, .nilIface]) ∧ Wr w p v (n + s.size) (l ++ s.data.toList) w' := by
 have hn := h.len
 have hsl := text_len s
 refine (writeString_k _ _ _ _ W h.bd (by rw [Lib.byteCells_length]; omega) h.sz).mono ?_
 rintro e w' ⟨rfl, g1, b1, _⟩
 exact ⟨rfl, h.step (Or.inr (by rw [Lib.byteCells_append]; exact g1)) b1 (by rw [List.length_append]; omega)⟩
theorem Wr.str {w W : World} {p : P} {v : Value} {l : List UInt8} {n : Nat} (h : Wr w p v n l W) :
  Calls Tryz.prog 47 #[.pointer (some ⟨w.heap.size + 1, 0, none⟩)] W fun e w' => e = .returned (.string (mk l)) ∧ Below w.heap.size w w' := by
 refine (Tryz.Builder_String_any_k _ _ l W h.bd h.sz).mono ?_
 rintro e w' ⟨rfl, _, b1, _⟩
 exact ⟨rfl, h.bw.trans (b1.mono (Nat.le_succ _))⟩
theorem text_none (s : ByteArray) (h : s.data.toList = []) : s = ⟨#[]⟩ := by
 have := mk_list s
 rw [h] at this
 exact this.symm
theorem text_full (s : ByteArray) (h : s.data.toList ≠ []) : (s.toList == []) = false ∧ s.toList.isEmpty = false := by
 have hzn : s.toList ≠ [] := by rw [ByteArray.toList_eq]; exact h
 exact ⟨beq_eq_false_iff_ne.2 hzn, List.isEmpty_eq_false_iff.2 hzn⟩
def queL (p : P) : List UInt8 := if p.hq = true then 63 :: p.qu.data.toList else []
def frgL (p : P) : List UInt8 := if p.hf = true then 35 :: p.fr.data.toList else []
def tailL (p : P) : List UInt8 := queL p ++ frgL p
theorem tailL_len (p : P) : (tailL p).length ≤ p.qu.size + p.fr.size + 2 := by
 unfold tailL queL frgL
 have h1 := text_len p.qu
 have h2 := text_len p.fr
 rw [List.length_append]
 by_cases a : p.hq = true <;> by_cases b : p.hf = true <;> simp [a, b] <;> omega
def pwL (p : P) : List UInt8 := if p.pw.data.toList = [] then [] else 58 :: p.pw.data.toList
def atL' (p : P) : List UInt8 := if p.us.data.toList = [] ∧ p.pw.data.toList = [] then [] else [64]
def porL (p : P) : List UInt8 := if 0 ≤ p.po then 58 :: dg p.po else []
def autL (p : P) : List UInt8 := p.us.data.toList ++ (pwL p ++ (atL' p ++ (putT p.hk p.hn p.ha ++ porL p)))
def mainL (p : P) : List UInt8 := if 0 ≤ ownZ p.sc then [47, 47] ++ (autL p ++ putL p.ps) else p.op.data.toList
def writL (p : P) : List UInt8 := p.sc.data.toList ++ ([58] ++ (mainL p ++ tailL p))
theorem tailWrite (p : P) (v : Value) (w : World) (hs : p.tot ≤ 1048576) :
  Calls Tryz.prog 70 #[.agg (p.cells v)] w fun e w' => e = .returned (.string (mk (tailL p))) ∧ Below w.heap.size w w' := by
 have HT : Hid (tailL p = queL p ++ frgL p) := rfl
 have hq1 : p.qu.size ≤ 1048576 := by unfold P.tot at hs; omega
 have hf1 : p.fr.size ≤ 1048576 := by unfold P.tot at hs; omega
 have hp1 : p.pw.size ≤ 1048576 := by unfold P.tot at hs; omega
 have hu1 : p.us.size ≤ 1048576 := by unfold P.tot at hs; omega
 have hs1 : p.sc.size ≤ 1048576 := by unfold P.tot at hs; omega
 have ho1 : p.op.size ≤ 1048576 := by unfold P.tot at hs; omega
 have hn1 : p.hn.size ≤ 1048576 := by unfold P.tot at hs; omega
 have H0 : Hid (Wr w p v 0 [] ((w.alloc (.cells (p.cells v) 31)).alloc (.cells #[.pointer none, .slice none 0 0] 67))) := Wr.start w p v
 obtain ⟨k0, k1, k2, k3, k4, k5, k6, k7, k8, k9, k10, k11, k12⟩ := H0.out.cells
 unfold P.cells at H0 ⊢
 clear hs
 cases hq : p.hq with
 | true =>
  cases hf : p.hf with
  | true =>
   have HF : Hid (frgL p = 35 :: p.fr.data.toList) := by show _ = _; unfold frgL; rw [hf]; rfl
   have HQ : Hid (queL p = 63 :: p.qu.data.toList) := by show _ = _; unfold queL; rw [hq]; rfl
   rw [hq, hf] at H0
   rw [hq] at k9
   rw [hf] at k11
   go_enter Tryz.func70, Tryz.ntmps70
   go_wp2_with fail
   refine (H0.out.wb 63 _ rfl (by omega)).mono ?_
   rintro e W1 ⟨rfl, h1⟩
   have H1 : Hid (Wr w p v (0 + 1) (([]) ++ [63]) W1) := h1
   clear k0 k1 k2 k3 k4 k5 k6 k7 k8 k9 k10 k11 k12
   obtain ⟨k0, k1, k2, k3, k4, k5, k6, k7, k8, k9, k10, k11, k12⟩ := h1.cells
   clear h1 H0
   go_wp2_with fail
   refine (H1.out.ws p.qu (by omega)).mono ?_
   rintro e W2 ⟨rfl, h2⟩
   have H2 : Hid (Wr w p v (0 + 1 + (p.qu).size) ((([]) ++ [63]) ++ p.qu.data.toList) W2) := h2
   clear k0 k1 k2 k3 k4 k5 k6 k7 k8 k9 k10 k11 k12
   obtain ⟨k0, k1, k2, k3, k4, k5, k6, k7, k8, k9, k10, k11, k12⟩ := h2.cells
   clear h2 H1
   go_wp2_with fail
   refine (H2.out.wb 35 _ rfl (by omega)).mono ?_
   rintro e W3 ⟨rfl, h3⟩
   have H3 : Hid (Wr w p v (0 + 1 + (p.qu).size + 1) (((([]) ++ [63]) ++ p.qu.data.toList) ++ [35]) W3) := h3
   clear k0 k1 k2 k3 k4 k5 k6 k7 k8 k9 k10 k11 k12
   obtain ⟨k0, k1, k2, k3, k4, k5, k6, k7, k8, k9, k10, k11, k12⟩ := h3.cells
   clear h3 H2
   go_wp2_with fail
   refine (H3.out.ws p.fr (by omega)).mono ?_
   rintro e W4 ⟨rfl, h4⟩
   have H4 : Hid (Wr w p v (0 + 1 + (p.qu).size + 1 + (p.fr).size) ((((([]) ++ [63]) ++ p.qu.data.toList) ++ [35]) ++ p.fr.data.toList) W4) := h4
   clear k0 k1 k2 k3 k4 k5 k6 k7 k8 k9 k10 k11 k12
   obtain ⟨k0, k1, k2, k3, k4, k5, k6, k7, k8, k9, k10, k11, k12⟩ := h4.cells
   clear h4 H3
   go_wp2_with fail
   refine H4.out.str.mono ?_
   rintro e W5 ⟨rfl, b⟩
   go_wp2
   go_ret
   refine ⟨?_, b⟩
   rw [HT.out, HQ.out, HF.out]
   simp [mk_data]
  | false =>
   have HF : Hid (frgL p = []) := by show _ = _; unfold frgL; rw [hf]; rfl
   have HQ : Hid (queL p = 63 :: p.qu.data.toList) := by show _ = _; unfold queL; rw [hq]; rfl
   rw [hq, hf] at H0
   rw [hq] at k9
   rw [hf] at k11
   go_enter Tryz.func70, Tryz.ntmps70
   go_wp2_with fail
   refine (H0.out.wb 63 _ rfl (by omega)).mono ?_
   rintro e W1 ⟨rfl, h1⟩
   have H1 : Hid (Wr w p v (0 + 1) (([]) ++ [63]) W1) := h1
   clear k0 k1 k2 k3 k4 k5 k6 k7 k8 k9 k10 k11 k12
   obtain ⟨k0, k1, k2, k3, k4, k5, k6, k7, k8, k9, k10, k11, k12⟩ := h1.cells
   clear h1 H0
   go_wp2_with fail
   refine (H1.out.ws p.qu (by omega)).mono ?_
   rintro e W2 ⟨rfl, h2⟩
   have H2 : Hid (Wr w p v (0 + 1 + (p.qu).size) ((([]) ++ [63]) ++ p.qu.data.toList) W2) := h2
   clear k0 k1 k2 k3 k4 k5 k6 k7 k8 k9 k10 k11 k12
   obtain ⟨k0, k1, k2, k3, k4, k5, k6, k7, k8, k9, k10, k11, k12⟩ := h2.cells
   clear h2 H1
   go_wp2_with fail
   refine H2.out.str.mono ?_
   rintro e W3 ⟨rfl, b⟩
   go_wp2
   go_ret
   refine ⟨?_, b⟩
   rw [HT.out, HQ.out, HF.out]
   simp [mk_data]
 | false =>
  cases hf : p.hf with
  | true =>
   have HF : Hid (frgL p = 35 :: p.fr.data.toList) := by show _ = _; unfold frgL; rw [hf]; rfl
   have HQ : Hid (queL p = []) := by show _ = _; unfold queL; rw [hq]; rfl
   rw [hq, hf] at H0
   rw [hq] at k9
   rw [hf] at k11
   go_enter Tryz.func70, Tryz.ntmps70
   go_wp2_with fail
   refine (H0.out.wb 35 _ rfl (by omega)).mono ?_
   rintro e W1 ⟨rfl, h1⟩
   have H1 : Hid (Wr w p v (0 + 1) (([]) ++ [35]) W1) := h1
   clear k0 k1 k2 k3 k4 k5 k6 k7 k8 k9 k10 k11 k12
   obtain ⟨k0, k1, k2, k3, k4, k5, k6, k7, k8, k9, k10, k11, k12⟩ := h1.cells
   clear h1 H0
   go_wp2_with fail
   refine (H1.out.ws p.fr (by omega)).mono ?_
   rintro e W2 ⟨rfl, h2⟩
   have H2 : Hid (Wr w p v (0 + 1 + (p.fr).size) ((([]) ++ [35]) ++ p.fr.data.toList) W2) := h2
   clear k0 k1 k2 k3 k4 k5 k6 k7 k8 k9 k10 k11 k12
   obtain ⟨k0, k1, k2, k3, k4, k5, k6, k7, k8, k9, k10, k11, k12⟩ := h2.cells
   clear h2 H1
   go_wp2_with fail
   refine H2.out.str.mono ?_
   rintro e W3 ⟨rfl, b⟩
   go_wp2
   go_ret
   refine ⟨?_, b⟩
   rw [HT.out, HQ.out, HF.out]
   simp [mk_data]
  | false =>
   have HF : Hid (frgL p = []) := by show _ = _; unfold frgL; rw [hf]; rfl
   have HQ : Hid (queL p = []) := by show _ = _; unfold queL; rw [hq]; rfl
   rw [hq, hf] at H0
   rw [hq] at k9
   rw [hf] at k11
   go_enter Tryz.func70, Tryz.ntmps70
   go_wp2_with fail
   refine H0.out.str.mono ?_
   rintro e W1 ⟨rfl, b⟩
   go_wp2
   go_ret
   refine ⟨?_, b⟩
   rw [HT.out, HQ.out, HF.out]
   simp [mk_data]
end Go.Proofs.YtnfhajhdpdidlaaGreatDoor
end

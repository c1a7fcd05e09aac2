/- impl.hostRead, hostOf, HostGet: a host, read. impl.HostGet: a host, read of a text. Plain facts on addresses: what is read of a text. impl.urlReader's state readAuthority. impl.urlReader's run: from state to state. -/
import Derived.Test.YtnfhajhdpdidlaaGreatDoorB09
import Derived.Test.YtnfhajhdpdidlaaGreatDoorB08
import Derived.Test.YtnfhajhdpdidlaaGreatDoorB04
import Derived.Lib.LastIndexByte
set_option linter.unusedVariables false
set_option linter.unusedSimpArgs false
set_option maxHeartbeats 4000000
set_option maxRecDepth 100000
section
namespace Go.Proofs.YtnfhajhdpdidlaaGreatDoor
open Go.RowKit Go.Shelf
def hostV (t : List UInt8) : Value := if endsL t = true then (if fourOk t = true then .iface 138 (.int .i64 (fourZ t)) else .nilIface) else if nameL t = true then .iface 137 (.string (mk t)) else .nilIface
def hostKind (t : List UInt8) : Int := if endsL t = true then (if fourOk t = true then 2 else 0) else if nameL t = true then 1 else 0
def hostName (t : List UInt8) : ByteArray := if endsL t = true then ⟨#[]⟩ else if nameL t = true then mk t else ⟨#[]⟩
def hostAddr (t : List UInt8) : Int := if endsL t = true then (if fourOk t = true then fourZ t else 0) else 0
def hostAgg (t : List UInt8) : Value := .agg #[.int .i64 (hostKind t), .string (hostName t), .int .i64 (hostAddr t)]
theorem hostRead (s : ByteArray) (w : World) (hm : ∃ m, w.cell? ⟨0, 0, none⟩ = some (.int .i64 m)) (hs : s.size ≤ 1000000) :
  Calls Tryz.prog 171 #[.string s] w fun e w' => e = .returned (hostV s.data.toList) ∧ Below w.heap.size w w' := by
 have CE := endsWithNumber s w hm hs
 have hG : ∀ {m}, w.cell? ⟨0, 0, none⟩ = some (.int .i64 m) → 0 < w.heap.size := fun h => cell_in h
 have keep : ∀ W, Below w.heap.size w W → ∃ m, W.cell? ⟨0, 0, none⟩ = some (.int .i64 m) := by
  intro W hW
  obtain ⟨m, hm⟩ := hm
  exact ⟨m, by rw [hW.cell (p := ⟨_, 0, none⟩) (hG hm)]; exact hm⟩
 have CF : Hid (∀ W, Below w.heap.size w W → Calls Tryz.prog 193 #[.string s] W fun e w' => e = .returned (.tuple #[.int .i64 (fourZ s.data.toList), .bool (fourOk s.data.toList)]) ∧ Below W.heap.size W w') := fun W hW => implFour s W (by omega) (keep W hW)
 have CN : Hid (∀ W, Below w.heap.size w W → Calls Tryz.prog 154 #[.string s] W fun e w' => e = .returned (.bool (nameL s.data.toList)) ∧ Below W.heap.size W w') := fun W hW => isHostName s W (keep W hW) (by omega)
 have CE2 : Hid (Calls Tryz.prog 155 #[.string s] w fun e w' => e = .returned (.bool (endsL s.data.toList)) ∧ Below w.heap.size w w') := CE
 clear CE keep hG hm
 cases he : endsL s.data.toList with
 | true =>
  rw [he] at CE2
  cases hf : fourOk s.data.toList with
  | true =>
   rw [hf] at CF
   have HV : Hid (hostV s.data.toList = .iface 138 (.int .i64 (fourZ s.data.toList))) := by show _ = _; unfold hostV; rw [if_pos he, if_pos hf]
   generalize fourZ s.data.toList = z at *
   clear he hf
   go_enter Tryz.func171, Tryz.ntmps171
   go_wp2_with fail
   refine CE2.out.mono ?_
   rintro e W1 ⟨rfl, b1⟩
   go_wp2_with fail
   refine (CF.out _ b1).mono ?_
   rintro e W2 ⟨rfl, b2⟩
   go_wp2
   go_ret
   exact ⟨by rw [HV.out]; rfl, b1.trans (b2.mono b1.size)⟩
  | false =>
   rw [hf] at CF
   have HV : Hid (hostV s.data.toList = .nilIface) := by show _ = _; unfold hostV; rw [if_pos he, if_neg (by rw [hf]; decide)]
   generalize fourZ s.data.toList = z at *
   clear he hf
   go_enter Tryz.func171, Tryz.ntmps171
   go_wp2_with fail
   refine CE2.out.mono ?_
   rintro e W1 ⟨rfl, b1⟩
   go_wp2_with fail
   refine (CF.out _ b1).mono ?_
   rintro e W2 ⟨rfl, b2⟩
   go_wp2
   go_ret
   exact ⟨by rw [HV.out]; rfl, b1.trans (b2.mono b1.size)⟩
 | false =>
  rw [he] at CE2
  cases hf : nameL s.data.toList with
  | true =>
   rw [hf] at CN
   have HV : Hid (hostV s.data.toList = .iface 137 (.string s)) := by show _ = _; unfold hostV; rw [if_neg (by rw [he]; decide), if_pos hf, mk_list]
   clear he hf
   go_enter Tryz.func171, Tryz.ntmps171
   go_wp2_with fail
   refine CE2.out.mono ?_
   rintro e W1 ⟨rfl, b1⟩
   go_wp2_with fail
   refine (CN.out _ b1).mono ?_
   rintro e W2 ⟨rfl, b2⟩
   go_wp2
   go_ret
   exact ⟨by rw [HV.out]; rfl, b1.trans (b2.mono b1.size)⟩
  | false =>
   rw [hf] at CN
   have HV : Hid (hostV s.data.toList = .nilIface) := by show _ = _; unfold hostV; rw [if_neg (by rw [he]; decide), if_neg (by rw [hf]; decide)]
   clear he hf
   go_enter Tryz.func171, Tryz.ntmps171
   go_wp2_with fail
   refine CE2.out.mono ?_
   rintro e W1 ⟨rfl, b1⟩
   go_wp2_with fail
   refine (CN.out _ b1).mono ?_
   rintro e W2 ⟨rfl, b2⟩
   go_wp2
   go_ret
   exact ⟨by rw [HV.out]; rfl, b1.trans (b2.mono b1.size)⟩
theorem hostOfNamed (s : ByteArray) (w : World) :
  Calls Tryz.prog 170 #[.iface 137 (.string s)] w fun e w' => e = .returned (.agg #[.int .i64 1, .string s, .int .i64 0]) ∧ Below w.heap.size w w' := by
 have tn := ta_named (.string s) (w.alloc (.cells #[.int .i64 0, .string ⟨#[]⟩, .int .i64 0] 29))
 go_enter Tryz.func170, Tryz.ntmps170
 go_wp2
 exact bodyPost_ret (v := .agg #[.int .i64 1, .string s, .int .i64 0]) (by simp [results, Tryz.results170, go_sem]) rfl ⟨rfl, (Below.refl _ w).alloc (Nat.le_refl _) _⟩
theorem hostOfNumbered (a : Int) (w : World) :
  Calls Tryz.prog 170 #[.iface 138 (.int .i64 a)] w fun e w' => e = .returned (.agg #[.int .i64 2, .string ⟨#[]⟩, .int .i64 a]) ∧ Below w.heap.size w w' := by
 have tn := ta_miss (.int .i64 a) (w.alloc (.cells #[.int .i64 0, .string ⟨#[]⟩, .int .i64 0] 29))
 have tm := ta_numbered (.int .i64 a) (w.alloc (.cells #[.int .i64 0, .string ⟨#[]⟩, .int .i64 0] 29))
 go_enter Tryz.func170, Tryz.ntmps170
 go_wp2
 exact bodyPost_ret (v := .agg #[.int .i64 2, .string ⟨#[]⟩, .int .i64 a]) (by simp [results, Tryz.results170, go_sem]) rfl ⟨rfl, (Below.refl _ w).alloc (Nat.le_refl _) _⟩
theorem hostOfNil (w : World) :
  Calls Tryz.prog 170 #[.nilIface] w fun e w' => e = .returned (.agg #[.int .i64 0, .string ⟨#[]⟩, .int .i64 0]) ∧ Below w.heap.size w w' := by
 have tn := ta_nil1 (w.alloc (.cells #[.int .i64 0, .string ⟨#[]⟩, .int .i64 0] 29))
 have tm := ta_nil2 (w.alloc (.cells #[.int .i64 0, .string ⟨#[]⟩, .int .i64 0] 29))
 go_enter Tryz.func170, Tryz.ntmps170
 go_wp2
 exact bodyPost_ret (v := .agg #[.int .i64 0, .string ⟨#[]⟩, .int .i64 0]) (by simp [results, Tryz.results170, go_sem]) rfl ⟨rfl, (Below.refl _ w).alloc (Nat.le_refl _) _⟩
theorem hostOf (t : List UInt8) (w : World) :
  Calls Tryz.prog 170 #[hostV t] w fun e w' => e = .returned (hostAgg t) ∧ Below w.heap.size w w' := by
 unfold hostV hostAgg hostKind hostName hostAddr
 by_cases h1 : endsL t = true
 ·by_cases h2 : fourOk t = true
  ·simp only [if_pos h1, if_pos h2]; exact hostOfNumbered _ w
  ·simp only [if_pos h1, if_neg h2]; exact hostOfNil w
 ·by_cases h2 : nameL t = true
  ·simp only [if_neg h1, if_pos h2]; exact hostOfNamed _ w
  ·simp only [if_neg h1, if_neg h2]; exact hostOfNil w
end Go.Proofs.YtnfhajhdpdidlaaGreatDoor
end
section
namespace Go.Proofs.YtnfhajhdpdidlaaGreatDoor
open Go.RowKit Go.Shelf
def readL (l : List UInt8) : List UInt8 := low (dec l)
def hostOkL (l : List UInt8) : Bool := decide (hostKind l ≠ 0)
def getAgg (l : List UInt8) : Value := if l.length ≤ 200 then hostAgg (readL l) else .agg #[.int .i64 0, .string ⟨#[]⟩, .int .i64 0]
def getOk (l : List UInt8) : Bool := if l.length ≤ 200 then hostOkL (readL l) else false
theorem implHostGet (s : ByteArray) (w : World) (hm : ∃ m, w.cell? ⟨0, 0, none⟩ = some (.int .i64 m)) (hs : s.size ≤ 1048576) :
  Calls Tryz.prog 147 #[.string s] w fun e w' => e = .returned (.tuple #[getAgg s.data.toList, .bool (getOk s.data.toList)]) ∧ Below w.heap.size w w' := by
 have hl : s.data.toList.length = s.size := by simp
 by_cases hL : s.size ≤ 200
 ·have hLi : (s.size : Int) ≤ 200 := by omega
  have hdl := dec_le s.data.toList
  obtain ⟨t, ht⟩ : ∃ t, t = readL s.data.toList := ⟨_, rfl⟩
  have htl : t.length ≤ 200 := by rw [ht]; unfold readL; rw [low_length]; omega
  have keep : ∀ W, Below w.heap.size w W → ∃ m, W.cell? ⟨0, 0, none⟩ = some (.int .i64 m) := by
   intro W hW
   obtain ⟨m, hm⟩ := hm
   exact ⟨m, by rw [hW.cell (p := ⟨_, 0, none⟩) (cell_in hm)]; exact hm⟩
  have C1 : Hid (∀ W, Calls Tryz.prog 172 #[.string s] W fun e w' => e = .returned (.string (mk (dec s.data.toList))) ∧ Below W.heap.size W w') := by
   intro W
   refine (implDecode s W (by unfold maxLen; omega)).mono ?_
   rintro e w' ⟨rfl, b⟩
   exact ⟨by rw [decode_small _ (by omega)]; rfl, b⟩
  have C2 : Hid (∀ W, Calls Tryz.prog 93 #[.string (mk (dec s.data.toList))] W fun e w' => e = .returned (.string (mk t)) ∧ Below W.heap.size W w') := by
   intro W; rw [ht]; exact implLower (mk (dec s.data.toList)) W (by rw [mk_size]; omega)
  have C3 : Hid (∀ W, Below w.heap.size w W → Calls Tryz.prog 171 #[.string (mk t)] W fun e w' => e = .returned (hostV t) ∧ Below W.heap.size W w') := by
   intro W hW; exact hostRead (mk t) W (keep W hW) (by rw [mk_size]; omega)
  have C4 : Hid (∀ W, Calls Tryz.prog 170 #[hostV t] W fun e w' => e = .returned (.agg #[.int .i64 (hostKind t), .string (hostName t), .int .i64 (hostAddr t)]) ∧ Below W.heap.size W w') := fun W => hostOf t W
  have HG : Hid (getAgg s.data.toList = .agg #[.int .i64 (hostKind t), .string (hostName t), .int .i64 (hostAddr t)]) := by show _ = _; unfold getAgg; rw [if_pos (by omega), ← ht]; rfl
  have HO : Hid (getOk s.data.toList = (hostKind t != 0)) := by
   show _ = _
   unfold getOk hostOkL
   rw [if_pos (by omega), ← ht, Bool.eq_iff_iff, decide_eq_true_eq, bne_iff_ne]
  generalize hostKind t = kd at *
  generalize hostName t = nm at *
  generalize hostAddr t = ad at *
  generalize hostV t = hv at *
  generalize mk (dec s.data.toList) = ds at *
  clear ht htl hdl keep hm
  generalize mk t = tt at *
  go_enter Tryz.func147, Tryz.ntmps147
  go_wp2_with fail
  refine (C1.out _).mono ?_
  rintro e W1 ⟨rfl, d1⟩
  have b1 : Below w.heap.size w W1 := ((Below.refl _ w).alloc (Nat.le_refl _) _).trans (d1.mono (by simp))
  have hh1 : W1.heap[w.heap.size]? = some (.cells #[.int .i64 0, .string ⟨#[]⟩, .int .i64 0] 29 (0, 0)) := (d1.block _ (by simp)).trans (heap_alloc_new w _)
  go_wp2_with fail
  refine (C2.out _).mono ?_
  rintro e W2 ⟨rfl, d2⟩
  have b2 := b1.trans (d2.mono b1.size)
  have hh2 := (d2.block _ (Array.getElem?_eq_some_iff.1 hh1).1).trans hh1
  go_wp2_with fail
  refine (C3.out _ b2).mono ?_
  rintro e W3 ⟨rfl, d3⟩
  have b3 := b2.trans (d3.mono b2.size)
  have hh3 := (d3.block _ (Array.getElem?_eq_some_iff.1 hh2).1).trans hh2
  go_wp2_with fail
  refine (C4.out _).mono ?_
  rintro e W4 ⟨rfl, d4⟩
  have b4 := b3.trans (d4.mono b3.size)
  have hh4 := (d4.block _ (Array.getElem?_eq_some_iff.1 hh3).1).trans hh3
  have hlt4 : w.heap.size < W4.heap.size := (Array.getElem?_eq_some_iff.1 hh4).1
  have c0 : W4.cell? ⟨w.heap.size, 0, none⟩ = some (.int .i64 0) := by rw [Lib.cell_of_heap hh4]; rfl
  have c1 : W4.cell? ⟨w.heap.size, 1, none⟩ = some (.string ⟨#[]⟩) := by rw [Lib.cell_of_heap hh4]; rfl
  have c2 : W4.cell? ⟨w.heap.size, 2, none⟩ = some (.int .i64 0) := by rw [Lib.cell_of_heap hh4]; rfl
  have f0 : W4.frozen? ⟨w.heap.size, 0, none⟩ = false := Lib.frozen_of_heap hh4 0
  have f1 : W4.frozen? ⟨w.heap.size, 1, none⟩ = false := Lib.frozen_of_heap hh4 1
  have f2 : W4.frozen? ⟨w.heap.size, 2, none⟩ = false := Lib.frozen_of_heap hh4 2
  have hne : w.heap.size ≠ W4.heap.size := by omega
  clear C1 C2 C3 C4 b1 b2 b3 d1 d2 d3 d4 hh1 hh2 hh3
  go_wp2
  go_region
  go_wp2
  refine bodyPost_ret (v := .tuple #[.agg #[.int .i64 kd, .string nm, .int .i64 ad], .bool (kd != 0)]) (by simp [results, Tryz.results147, go_sem, c0, c1, c2, hlt4]) rfl ⟨by rw [HG.out, HO.out], ?_⟩
  exact ((((b4.setCell (p := ⟨w.heap.size, 0, none⟩) (Nat.le_refl _) _).setCell (p := ⟨w.heap.size, 1, none⟩) (Nat.le_refl _) _).setCell (p := ⟨w.heap.size, 2, none⟩) (Nat.le_refl _) _).alloc (by simp; omega) _).drew
 ·have hLi : (200 : Int) < (s.size : Int) := by omega
  have HG : Hid (getAgg s.data.toList = .agg #[.int .i64 0, .string ⟨#[]⟩, .int .i64 0]) := by show _ = _; unfold getAgg; rw [if_neg (by omega)]
  have HO : Hid (getOk s.data.toList = false) := by show _ = _; unfold getOk; rw [if_neg (by omega)]
  go_enter Tryz.func147, Tryz.ntmps147
  go_wp2
  exact bodyPost_ret (v := .tuple #[.agg #[.int .i64 0, .string ⟨#[]⟩, .int .i64 0], .bool false]) (by simp [results, Tryz.results147, go_sem]) rfl ⟨by rw [HG.out, HO.out], (Below.refl _ w).alloc (Nat.le_refl _) _⟩
end Go.Proofs.YtnfhajhdpdidlaaGreatDoor
end
section
namespace Go.Proofs.YtnfhajhdpdidlaaGreatDoor
open Go.RowKit Go.Shelf
structure P where
 sc : ByteArray
 us : ByteArray
 pw : ByteArray
 hk : Int
 hn : ByteArray
 ha : Int
 po : Int
 ps : List (List UInt8)
 op : ByteArray
 hq : Bool
 qu : ByteArray
 hf : Bool
 fr : ByteArray
def P.zero : P := ⟨⟨#[]⟩, ⟨#[]⟩, ⟨#[]⟩, 0, ⟨#[]⟩, 0, 0, [], ⟨#[]⟩, false, ⟨#[]⟩, false, ⟨#[]⟩⟩
def P.u (p : P) (v : Value) : U := ⟨p.sc, p.us, p.pw, p.hk, p.hn, p.ha, p.po, v, p.op, p.hq, p.qu, p.hf, p.fr⟩
def fragP (p : P) (l : List UInt8) : P := if passB [35] l = true then { p with hf := true, fr := wrT 3 l.tail } else p
def queP (p : P) (l : List UInt8) : P := if passB [63] l = true then fragP { p with hq := true, qu := wrT 2 (upL [35] l.tail) } (l.tail.drop (upL [35] l.tail).length) else fragP p l
def opqP (p : P) (l : List UInt8) : P := queP { p with op := wrT 5 (upL [63, 35] l) } (l.drop (upL [63, 35] l).length)
def patP (p : P) (l : List UInt8) : P := queP { p with ps := pathL (upL [63, 35] l) } (l.drop (upL [63, 35] l).length)
def atSplit : List UInt8 → Option (List UInt8 × List UInt8)
 | [] => none
 | c :: r => match atSplit r with
  | some (a, b) => some (c :: a, b)
  | none => if c = 64 then some ([], r) else none
theorem at_none (l : List UInt8) (h : atSplit l = none) : ∀ c ∈ l, c ≠ 64 := by
 induction l with
 | nil => simp
 | cons c r ih =>
  unfold atSplit at h
  cases hr : atSplit r with
  | some q => rw [hr] at h; simp at h
  | none =>
   rw [hr] at h
   simp only [ite_eq_right_iff] at h
   intro d hd
   rcases List.mem_cons.1 hd with rfl | hd
   ·intro e; exact absurd (h e) (by simp)
   ·exact ih hr d hd
theorem at_some (l a b : List UInt8) (h : atSplit l = some (a, b)) : l = a ++ 64 :: b ∧ ∀ c ∈ b, c ≠ 64 := by
 induction l generalizing a b with
 | nil => simp [atSplit] at h
 | cons c r ih =>
  unfold atSplit at h
  cases hr : atSplit r with
  | some q =>
   rw [hr] at h
   obtain ⟨a', b'⟩ := q
   simp only [Option.some.injEq, Prod.mk.injEq] at h
   obtain ⟨rfl, rfl⟩ := h
   obtain ⟨e, hb⟩ := ih a' b' hr
   exact ⟨by rw [e]; rfl, hb⟩
  | none =>
   rw [hr] at h
   by_cases hc : c = 64
   ·subst hc
    simp only [if_true, Option.some.injEq, Prod.mk.injEq] at h
    obtain ⟨rfl, rfl⟩ := h
    exact ⟨rfl, at_none r hr⟩
   ·simp [hc] at h
theorem at_split (a b : List UInt8) (h : ∀ c ∈ b, c ≠ 64) : atSplit (a ++ 64 :: b) = some (a, b) := by
 have hb : atSplit b = none := by
  induction b with
  | nil => rfl
  | cons c r ih =>
   have hc : c ≠ 64 := h c (by simp)
   unfold atSplit
   rw [ih (fun d hd => h d (by simp [hd]))]
   simp [hc]
 induction a with
 | nil => show atSplit (64 :: b) = _; unfold atSplit; rw [hb]; simp
 | cons c r ih => show atSplit (c :: (r ++ 64 :: b)) = _; unfold atSplit; rw [ih]
theorem at_free (l : List UInt8) (h : ∀ c ∈ l, c ≠ 64) : atSplit l = none := by
 induction l with
 | nil => rfl
 | cons c r ih =>
  have hc : c ≠ 64 := h c (by simp)
  unfold atSplit
  rw [ih (fun d hd => h d (by simp [hd]))]
  simp [hc]
theorem data_at (l : List UInt8) (j : Nat) (hj : j < l.length) : (((mk l).data[j]!).toNat : Int) = (l[j].toNat : Int) := by
 have : (mk l).data = l.toArray := rfl
 rw [this, Array.getElem!_eq_getD, Array.getD_eq_getD_getElem?]
 simp [hj]
theorem last_none (l : List UInt8) (h : atSplit l = none) : Lib.lastIndexByte (mk l) 64 = -1 := by
 rcases Lib.lastIndexByte_spec (mk l) 64 with ⟨e, _⟩ | ⟨i, hi, e, hc, _⟩
 ·exact e
 ·rw [mk_size] at hi
  rw [data_at l i hi] at hc
  exact absurd (UInt8.toNat_inj.1 (by rw [show (64 : UInt8).toNat = 64 from rfl]; omega)) (at_none l h l[i] (List.getElem_mem hi))
theorem last_some (l a b : List UInt8) (h : atSplit l = some (a, b)) : Lib.lastIndexByte (mk l) 64 = (a.length : Int) := by
 obtain ⟨rfl, hb⟩ := at_some l a b h
 have hla : a.length < (a ++ 64 :: b).length := by simp
 have h64 : (((mk (a ++ 64 :: b)).data[a.length]!).toNat : Int) = 64 := by
  rw [data_at _ _ hla, List.getElem_append_right (Nat.le_refl _)]; simp
 rcases Lib.lastIndexByte_spec (mk (a ++ 64 :: b)) 64 with ⟨_, hn⟩ | ⟨i, hi, e, hc, hn⟩
 ·exact absurd h64 (hn a.length (by rw [mk_size]; exact hla))
 ·rw [e]
  rw [mk_size] at hi
  rcases Nat.lt_trichotomy i a.length with hlt | heq | hgt
  ·exact absurd h64 (hn a.length hlt (by rw [mk_size]; exact hla))
  ·rw [heq]
  ·rw [data_at _ i hi] at hc
   have : (a ++ 64 :: b)[i] ∈ b := by
    rw [List.getElem_append_right (by omega)]
    obtain ⟨k, hk⟩ : ∃ k, i - a.length = k + 1 := ⟨i - a.length - 1, by omega⟩
    simp only [hk, List.getElem_cons_succ]
    exact List.getElem_mem _
   exact absurd (UInt8.toNat_inj.1 (by rw [show (64 : UInt8).toNat = 64 from rfl]; omega)) (hb _ this)
def behind (l : List UInt8) : List UInt8 := (l.drop (upL [58] l).length).tail
theorem up_all (S l : List UInt8) (h : ∀ c ∈ l, among S c = false) : upL S l = l := by
 have := up_stop S l l.length (fun c hc => h c (List.mem_of_mem_take hc)) (fun c hc => by rw [List.getElem?_eq_none (Nat.le_refl _)] at hc; cases hc)
 rw [this, List.take_length]
theorem up_hit (S a b : List UInt8) (c : UInt8) (h : ∀ d ∈ a, among S d = false) (hc : among S c = true) : upL S (a ++ c :: b) = a := by
 have := up_stop S (a ++ c :: b) a.length (fun d hd => h d (by rw [List.take_left] at hd; exact hd)) (fun d hd => by
  rw [List.getElem?_append_right (Nat.le_refl _)] at hd; simp at hd; rw [← hd]; exact hc)
 rw [this, List.take_left]
theorem up_cases (S l : List UInt8) : (upL S l = l ∧ ∀ c ∈ l, among S c = false) ∨ ∃ a c b, l = a ++ c :: b ∧ upL S l = a ∧ among S c = true ∧ ∀ d ∈ a, among S d = false := by
 induction l with
 | nil => exact .inl ⟨rfl, by simp⟩
 | cons c r ih =>
  cases hc : among S c with
  | true => exact .inr ⟨[], c, r, rfl, by simp [upL, hc], hc, by simp⟩
  | false =>
   rcases ih with ⟨e, h⟩ | ⟨a, d, b, e, hu, hd, h⟩
   ·refine .inl ⟨by unfold upL at e ⊢; rw [List.takeWhile_cons, if_pos (by simp [hc]), e], ?_⟩
    intro x hx; rcases List.mem_cons.1 hx with rfl | hx
    ·exact hc
    ·exact h x hx
   ·refine .inr ⟨c :: a, d, b, by rw [e]; rfl, by unfold upL at hu ⊢; rw [List.takeWhile_cons, if_pos (by simp [hc]), hu], hd, ?_⟩
    intro x hx; rcases List.mem_cons.1 hx with rfl | hx
    ·exact hc
    ·exact h x hx
theorem among_one (b c : UInt8) : among [b] c = (c == b) := by rw [Bool.eq_iff_iff]; simp [among]
theorem cut_colon (l : List UInt8) : (Lib.cut l [58]).1 = upL [58] l ∧ (Lib.cut l [58]).2.1 = behind l := by
 have hi : Lib.index l [58] = Lib.indexByte l 58 := Lib.index_one l 58
 unfold Lib.cut behind
 rw [hi]
 rcases up_cases [58] l with ⟨e, h⟩ | ⟨a, c, b, e, hu, hc, h⟩
 ·have hno : Lib.indexByte l 58 < 0 := by
   apply among_no
   cases hm : among l 58 with
   | false => rfl
   | true =>
    have : (58 : UInt8) ∈ l := by unfold among at hm; simpa using hm
    have := h 58 this
    simp [among] at this
  rw [if_neg (by omega), e]
  exact ⟨rfl, by simp⟩
 ·have hc' : c = 58 := by simpa [among] using hc
  subst hc'
  have hx : Lib.indexByte l 58 = (a.length : Int) := by
   have h0 : 0 ≤ Lib.indexByte l 58 := among_yes (by rw [e]; simp [among])
   obtain ⟨o, ho⟩ := Int.eq_ofNat_of_zero_le h0
   obtain ⟨ho1, ho2⟩ := Lib.indexByte_some ho
   rw [ho]
   rcases Nat.lt_trichotomy o a.length with hlt | heq | hgt
   ·exfalso
    rw [e, List.getElem?_append_left hlt, List.getElem?_eq_getElem hlt] at ho1
    have := h a[o] (List.getElem_mem hlt)
    simp at ho1
    rw [ho1] at this
    simp [among] at this
   ·rw [heq]
   ·exfalso
    exact ho2 a.length hgt (by rw [e, List.getElem?_append_right (Nat.le_refl _)]; simp)
  rw [hx, if_pos (by omega), hu, e]
  simp
def whoP (p : P) (l : List UInt8) : P := match atSplit l with
 | some (a, _) => { p with us := wrT 4 (upL [58] a), pw := wrT 4 (behind a) }
 | none => p
def whereL (l : List UInt8) : List UInt8 := match atSplit l with
 | some (_, b) => b
 | none => l
def gk (l : List UInt8) : Int := if l.length ≤ 200 then hostKind (readL l) else 0
def gn (l : List UInt8) : ByteArray := if l.length ≤ 200 then hostName (readL l) else ⟨#[]⟩
def ga (l : List UInt8) : Int := if l.length ≤ 200 then hostAddr (readL l) else 0
theorem getAgg_eq (l : List UInt8) : getAgg l = .agg #[.int .i64 (gk l), .string (gn l), .int .i64 (ga l)] := by
 unfold getAgg gk gn ga
 by_cases h : l.length ≤ 200
 ·rw [if_pos h, if_pos h, if_pos h, if_pos h]; rfl
 ·rw [if_neg h, if_neg h, if_neg h, if_neg h]
def autB (p : P) (l : List UInt8) : Bool := getOk (upL [58] (whereL l)) && portB (behind (whereL l)) (ownZ p.sc)
def autQ (p : P) (l : List UInt8) : P := { whoP p l with hk := gk (upL [58] (whereL l)), hn := gn (upL [58] (whereL l)), ha := ga (upL [58] (whereL l)), po := portV (behind (whereL l)) (ownZ p.sc) }
def autP (p : P) (l : List UInt8) : Option P := if autB p l = true then some (autQ p l) else none
def hosP (p : P) (l : List UInt8) : Option P := (autP p (upL [47, 92, 63, 35] l)).map fun q => patP q (l.drop (upL [47, 92, 63, 35] l).length)
def slaP (p : P) (l : List UInt8) : Option P := hosP p (l.dropWhile (among [47, 92]))
def schP (p : P) (l : List UInt8) : Option P :=
 if passB [58] (l.drop (upL [58] l).length) = true ∧ schL (low (upL [58] l)) = true then
  (if 0 ≤ ownZ (mk (low (upL [58] l))) then slaP { p with sc := mk (low (upL [58] l)), po := -1 } (l.drop ((upL [58] l).length + 1)) else some (opqP { p with sc := mk (low (upL [58] l)), po := -1 } (l.drop ((upL [58] l).length + 1))))
 else none
end Go.Proofs.YtnfhajhdpdidlaaGreatDoor
end
section
namespace Go.Proofs.YtnfhajhdpdidlaaGreatDoor
open Go.RowKit Go.Shelf
theorem grownBy_drewN {a b : World} {row : Option Nat} (h : a.grownBy b row) (n : Nat) : a.grownBy (b.drewN n) row := ⟨h.os, h.tape, h.output, h.size, h.block⟩
theorem cutC (l : List UInt8) (m : Int) (w : World) (hl : l.length ≤ 1000) (hm : w.cell? ⟨0, 0, none⟩ = some (.int .i64 m)) :
  Calls Tryz.prog 146 #[.string (mk l), .string ⟨#[58]⟩] w fun e w' => ∃ f, e = .returned (.tuple #[.string (mk (upL [58] l)), .string (mk (behind l)), .bool f]) ∧ ∃ n, w' = w.drewN n := by
 refine (Tryz.strings_Cut (mk l) ⟨#[58]⟩ m w (by rw [mk_size]; omega) hm).mono ?_
 rintro e w' ⟨rfl, n, rfl⟩
 obtain ⟨e1, e2⟩ := cut_colon l
 refine ⟨(Lib.cut l [58]).2.2, ?_, n, rfl⟩
 show Ending.returned (.tuple #[.string (mk (Lib.cut l [58]).1), .string (mk (Lib.cut l [58]).2.1), .bool (Lib.cut l [58]).2.2]) = _
 rw [e1, e2]
theorem lastC (l : List UInt8) (w : World) (hl : l.length ≤ 1000) :
  Calls Tryz.prog 38 #[.string (mk l), .int .u8 64] w fun e w' => e = .returned (.int .i64 (Lib.lastIndexByte (mk l) 64)) ∧ w' = w := Tryz.strings_LastIndexByte (mk l) 64 (by rw [mk_size]; omega) w
theorem mk_take (a b : List UInt8) : (mk (a ++ b)).extract 0 a.length = mk a := by
 apply ByteArray.ext
 rw [ByteArray.data_extract]
 simp [mk]
theorem mk_drop (a b : List UInt8) (c : UInt8) : (mk (a ++ c :: b)).extract (a.length + 1) (mk (a ++ c :: b)).size = mk b := by
 apply ByteArray.ext
 rw [mk_size, ByteArray.data_extract]
 have e : a ++ c :: b = (a ++ [c]) ++ b := by simp
 rw [e]
 apply Array.ext'
 simp only [mk, List.extract_eq_take_drop, List.extract_toArray, List.size_toArray]
 simp
 exact List.take_of_length_le (by omega)
theorem behindC_le (l : List UInt8) : (behind l).length ≤ l.length := by
 unfold behind; rw [List.length_tail, List.length_drop]; omega
theorem whereL_le (l : List UInt8) : (whereL l).length ≤ l.length := by
 unfold whereL
 cases h : atSplit l with
 | none => exact Nat.le_refl _
 | some q =>
  obtain ⟨a, b⟩ := q
  obtain ⟨e, _⟩ := at_some l a b h
  rw [e]; simp; omega
theorem who_sc (p : P) (l : List UInt8) : (whoP p l).sc = p.sc := by
 unfold whoP; cases atSplit l <;> rfl
def autF (p : P) (l : List UInt8) : Nat := if autB p l = true then 149 else 92
def autU (p : P) (l : List UInt8) : P := if autB p l = true then autQ p l else whoP p l
theorem readAuthority (g : Nat) (t : ByteArray) (i : Nat) (p : P) (v : Value) (x : Bool) (w : World) (h : UR g t i (p.u v) x w) (hE : Eof w) (hM : MaxL w) (hg : g ≠ 1) (hg2 : g ≠ 0) (hi : i ≤ t.size) (ht : t.size ≤ 1000)
  (L : List UInt8) (hL : upL [47, 92, 63, 35] (t.data.toList.drop i) = L) (K : Nat) (HK : Hid (K = autF p L)) (q : P) (HQ : Hid (q = autU p L)) :
  Calls Tryz.prog 121 #[.pointer (some ⟨g, 0, none⟩)] w fun e w' => e = .returned (.func (.func K) #[.pointer (some ⟨g, 0, none⟩)] #[]) ∧ UR g t (i + L.length) (q.u v) x w' ∧ w.grownBy w' (some g) := by
 have hgl := Rdr.lt h
 have H0 : Hid (UR g t i (p.u v) x w) := h
 have HE : Hid (∀ W, w.grownBy W (some g) → Eof W) := fun W k => hE.grown k hg
 have HM : Hid (∀ W, w.grownBy W (some g) → MaxL W) := fun W k => hM.grown k hg2
 have hul := up_len [47, 92, 63, 35] t i hi
 rw [hL] at hul
 have hLl : L.length ≤ 1000 := by omega
 have HL : Hid (upL (ByteArray.mk #[47, 92, 63, 35]).data.toList (t.data.toList.drop i) = L) := hL
 have HRL : Hid ((whereL L).length ≤ 1000) := by
  show _ ≤ _
  have := whereL_le L; omega
 have HSC : Hid (((whoP p L).u v).sc = p.sc) := who_sc p L
 obtain ⟨hk, hhk⟩ : ∃ k, k = gk (upL [58] (whereL L)) := ⟨_, rfl⟩
 obtain ⟨hn, hhn⟩ : ∃ k, k = gn (upL [58] (whereL L)) := ⟨_, rfl⟩
 obtain ⟨ha, hha⟩ : ∃ k, k = ga (upL [58] (whereL L)) := ⟨_, rfl⟩
 obtain ⟨ho, hho⟩ : ∃ k, k = getOk (upL [58] (whereL L)) := ⟨_, rfl⟩
 obtain ⟨po, hpo⟩ : ∃ k, k = portV (behind (whereL L)) (ownZ p.sc) := ⟨_, rfl⟩
 obtain ⟨pb, hpb⟩ : ∃ k, k = portB (behind (whereL L)) (ownZ p.sc) := ⟨_, rfl⟩
 obtain ⟨own, hown⟩ : ∃ k, k = ownZ p.sc := ⟨_, rfl⟩
 have CHO : Hid (∀ W, MaxL W → Calls Tryz.prog 147 #[.string (mk (upL [58] (whereL L)))] W fun e w' => e = .returned (.tuple #[.agg #[.int .i64 hk, .string hn, .int .i64 ha], .bool ho]) ∧ Below W.heap.size W w') := by
  intro W hW
  have hup := upL_le [58] (whereL L)
  have hRL := HRL.out
  refine (implHostGet (mk (upL [58] (whereL L))) W hW (by rw [mk_size]; omega)).mono ?_
  rintro e w' ⟨rfl, b⟩
  refine ⟨?_, b⟩
  rw [mk_data, getAgg_eq, hhk, hhn, hha, hho]
 have CSP : Hid (∀ W, Calls Tryz.prog 44 #[.string p.sc] W fun e w' => e = .returned (.int .i64 own) ∧ w' = W) := fun W => by rw [hown]; exact schemePort p.sc W
 have CPR : Hid (∀ W, Calls Tryz.prog 148 #[.string (mk (behind (whereL L))), .int .i64 own] W fun e w' => e = .returned (.tuple #[.int .i64 po, .bool pb]) ∧ Below W.heap.size W w') := by
  intro W
  have hbl := behindC_le (whereL L)
  have hRL := HRL.out
  rw [hpo, hpb, hown]
  exact portRead (mk (behind (whereL L))) (ownZ p.sc) W (by rw [mk_size]; omega)
 have HB : Hid ((ho = false → K = 92 ∧ q = whoP p L) ∧ (pb = false → K = 92 ∧ q = whoP p L) ∧ (ho = true → pb = true → K = 149 ∧ q = { whoP p L with hk := hk, hn := hn, ha := ha, po := po })) := by
  refine ⟨?_, ?_, ?_⟩
  ·intro h
   have e : autB p L = false := by unfold autB; rw [← hho, h]; rfl
   rw [HK.out, HQ.out]; unfold autF autU; rw [e]; exact ⟨rfl, rfl⟩
  ·intro h
   have e : autB p L = false := by unfold autB; rw [← hpb, h, Bool.and_false]
   rw [HK.out, HQ.out]; unfold autF autU; rw [e]; exact ⟨rfl, rfl⟩
  ·intro h h'
   have e : autB p L = true := by unfold autB; rw [← hpb, h', ← hho, h]; rfl
   rw [HK.out, HQ.out]; unfold autF autU autQ; rw [e, hhk, hhn, hha, hpo]; exact ⟨rfl, rfl⟩
 clear h hE hL hhk hhn hha hho hpo hpb hown HK HQ
 cases hsp : atSplit L with
 | none =>
  have hla : Lib.lastIndexByte (mk L) 64 = -1 := last_none L hsp
  have CLA : Hid (∀ W, Calls Tryz.prog 38 #[.string (mk L), .int .u8 64] W fun e w' => e = .returned (.int .i64 (-1)) ∧ w' = W) := fun W => by rw [← hla]; exact lastC L W hLl
  have HWL : Hid (whereL L = L) := by show _ = _; unfold whereL; rw [hsp]
  have HWP : Hid (whoP p L = p) := by show _ = _; unfold whoP; rw [hsp]
  clear hsp hla
  go_enter Tryz.func121, Tryz.ntmps121
  go_wp2_with fail
  refine (upTo g t i _ ⟨#[47, 92, 63, 35]⟩ _ H0.out (HE.out _ (World.grownBy.refl w _)) hg hi ht).mono ?_
  rintro e W5 ⟨rfl, hR5, hG5⟩
  rw [HL.out] at hR5 ⊢
  have HU5 : Hid (UR g t (i + L.length) ((whoP p L).u v) x W5) := by rw [HWP.out]; exact hR5
  have HG5 : Hid (w.grownBy W5 (some g)) := hG5
  clear hR5 hG5 HL H0 HWP
  go_wp2_with fail
  refine (CLA.out _).mono ?_
  rintro e W5' ⟨rfl, hW5⟩
  have hW5' := hW5.symm
  subst hW5'
  have HX : Hid (mk L = mk (whereL L)) := by rw [HWL.out]; rfl
  clear HWL
  rw [HX.out]
  have hrl : (whereL L).length ≤ 1000 := HRL.out
  obtain ⟨m5, hm5⟩ := HM.out _ HG5.out
  go_wp2_with fail
  refine (cutC (whereL L) m5 _ hrl hm5).mono ?_
  rintro e W6 ⟨f6, rfl, n6, rfl⟩
  have HU6 : Hid (UR g t (i + L.length) ((whoP p L).u v) x (W5.drewN n6)) := HU5.out
  have HG6 : Hid (w.grownBy (W5.drewN n6) (some g)) := grownBy_drewN HG5.out n6
  clear HU5 HG5 hm5
  generalize W5.drewN n6 = W6 at *
  go_wp2_with fail
  refine (CHO.out _ (HM.out _ HG6.out)).mono ?_
  rintro e W7 ⟨rfl, d7⟩
  have hU7 : UR g t (i + L.length) ((whoP p L).u v) x W7 := HU6.out.grown d7 (Rdr.lt HU6.out)
  have HG7 : Hid (w.grownBy W7 (some g)) := grown_low HG6.out d7 HG6.out.size
  have hgl7 : g < W7.heap.size := Rdr.lt hU7
  have hU8 : UR g t (i + L.length) ((whoP p L).u v) x (W7.alloc (.cells #[.int .i64 hk, .string hn, .int .i64 ha] 29)) := Blk.alloc hU7 _
  have HG8 : Hid (w.grownBy (W7.alloc (.cells #[.int .i64 hk, .string hn, .int .i64 ha] 29)) (some g)) := grown_then HG7.out (World.grownBy_alloc W7 _ _)
  have c3 : (W7.alloc (.cells #[.int .i64 hk, .string hn, .int .i64 ha] 29)).cell? ⟨g, 3, none⟩ = some (.string p.sc) := (hU8.cell 0 _ rfl).trans (by rw [HSC.out])
  have HN8 : Hid (Blk W7.heap.size #[.int .i64 hk, .string hn, .int .i64 ha] 29 (W7.alloc (.cells #[.int .i64 hk, .string hn, .int .i64 ha] 29))) := Blk.new W7 _ _
  have HU8 : Hid (UR g t (i + L.length) ((whoP p L).u v) x (W7.alloc (.cells #[.int .i64 hk, .string hn, .int .i64 ha] 29))) := hU8
  have c7 := hU7.cell 0 _ rfl
  clear hU8 d7 HU6 HG6
  go_wp2_with fail
  refine (CSP.out _).mono ?_
  rintro e W8 ⟨rfl, hW8⟩
  have hW8' := hW8.symm
  subst hW8'
  go_wp2_with fail
  refine (CPR.out _).mono ?_
  rintro e W9 ⟨rfl, d9⟩
  have hU9 : UR g t (i + L.length) ((whoP p L).u v) x W9 := HU8.out.grown d9 (Rdr.lt HU8.out)
  have HG9 : Hid (w.grownBy W9 (some g)) := grown_low HG8.out d9 HG8.out.size
  have hN9 : Blk W7.heap.size #[.int .i64 hk, .string hn, .int .i64 ha] 29 W9 := HN8.out.below d9 (Blk.lt HN8.out)
  obtain ⟨j3, j4, j5, j6, j7, j8, j9, j10, j11, j12, j13, j14, j15, j16⟩ := hU9.all
  have f6' := hU9.free 6
  have f7' := hU9.free 7
  have f8' := hU9.free 8
  have f9' := hU9.free 9
  have h0 : W9.cell? ⟨W7.heap.size, 0, none⟩ = some (.int .i64 hk) := hN9.cell 0
  have h1 : W9.cell? ⟨W7.heap.size, 1, none⟩ = some (.string hn) := hN9.cell 1
  have h2 : W9.cell? ⟨W7.heap.size, 2, none⟩ = some (.int .i64 ha) := hN9.cell 2
  have HU9 : Hid (UR g t (i + L.length) ((whoP p L).u v) x W9) := hU9
  have hUa := hU9.set 3 (.int .i64 hk) ({ (whoP p L).u v with hk := hk }) x rfl
  have hUb := hUa.set 4 (.string hn) ({ (whoP p L).u v with hk := hk, hn := hn }) x rfl
  have hUc := hUb.set 5 (.int .i64 ha) ({ (whoP p L).u v with hk := hk, hn := hn, ha := ha }) x rfl
  have HUd : Hid (UR g t (i + L.length) ({ (whoP p L).u v with hk := hk, hn := hn, ha := ha, po := po }) x ((((W9.setCell ⟨g, 6, none⟩ (.int .i64 hk)).setCell ⟨g, 7, none⟩ (.string hn)).setCell ⟨g, 8, none⟩ (.int .i64 ha)).setCell ⟨g, 9, none⟩ (.int .i64 po))) := hUc.set 6 (.int .i64 po) _ x rfl
  have HGd : Hid (w.grownBy ((((W9.setCell ⟨g, 6, none⟩ (.int .i64 hk)).setCell ⟨g, 7, none⟩ (.string hn)).setCell ⟨g, 8, none⟩ (.int .i64 ha)).setCell ⟨g, 9, none⟩ (.int .i64 po)) (some g)) := grown_then (grown_then (grown_then (grown_then HG9.out (grown_set W9 g 6 _)) (grown_set _ g 7 _)) (grown_set _ g 8 _)) (grown_set _ g 9 _)
  clear hU9 hN9 hUa hUb hUc d9 HN8 HU8 HG8 hU7 HG7 c7
  have hne : g ≠ W7.heap.size := by omega
  cases ho with
  | false =>
   obtain ⟨hb1, hb2⟩ := HB.out.1 rfl
   have HKe : Hid (K = _) := hb1
   have HQe : Hid (q = _) := hb2
   clear HB hb1 hb2
   go_wp2
   go_ret
   rw [HKe.out, HQe.out]
   exact ⟨rfl, HU9.out, HG9.out⟩
  | true =>
   cases pb with
   | false =>
    obtain ⟨hb1, hb2⟩ := HB.out.2.1 rfl
    have HKe : Hid (K = _) := hb1
    have HQe : Hid (q = _) := hb2
    clear HB hb1 hb2
    go_wp2
    go_ret
    rw [HKe.out, HQe.out]
    exact ⟨rfl, HU9.out, HG9.out⟩
   | true =>
    obtain ⟨hb1, hb2⟩ := HB.out.2.2 rfl rfl
    have HKe : Hid (K = _) := hb1
    have HQe : Hid (q = _) := hb2
    clear HB hb1 hb2
    go_wp2
    go_ret
    rw [HKe.out, HQe.out]
    exact ⟨rfl, HUd.out, HGd.out⟩
 | some ab =>
  obtain ⟨a, b⟩ := ab
  have hla : Lib.lastIndexByte (mk L) 64 = (a.length : Int) := last_some L a b hsp
  have CLA : Hid (∀ W, Calls Tryz.prog 38 #[.string (mk L), .int .u8 64] W fun e w' => e = .returned (.int .i64 (a.length : Int)) ∧ w' = W) := fun W => by rw [← hla]; exact lastC L W hLl
  have HWL : Hid (whereL L = b) := by show _ = _; unfold whereL; rw [hsp]
  have HWP : Hid (whoP p L = { p with us := wrT 4 (upL [58] a), pw := wrT 4 (behind a) }) := by show _ = _; unfold whoP; rw [hsp]
  obtain ⟨hab, _⟩ := at_some L a b hsp
  have hal : a.length < L.length := by rw [hab]; simp
  have hal2 : a.length + 1 ≤ (mk L).size := by rw [mk_size]; omega
  have hx1 : (mk L).extract 0 a.length = mk a := by rw [hab]; exact mk_take a _
  have hx2 : (mk L).extract (a.length + 1) (mk L).size = mk (whereL L) := by
   rw [HWL.out]
   conv => lhs; rw [hab]
   exact mk_drop a b 64
  have hua := upL_le [58] a
  have hba := behindC_le a
  clear hsp hla hab HWL
  go_enter Tryz.func121, Tryz.ntmps121
  go_wp2_with fail
  refine (upTo g t i _ ⟨#[47, 92, 63, 35]⟩ _ H0.out (HE.out _ (World.grownBy.refl w _)) hg hi ht).mono ?_
  rintro e W1 ⟨rfl, hR1, hG1⟩
  rw [HL.out] at hR1 ⊢
  have HU1 : Hid (UR g t (i + L.length) (p.u v) x W1) := hR1
  have HG1 : Hid (w.grownBy W1 (some g)) := hG1
  clear hR1 hG1 HL H0
  obtain ⟨m1, hm1⟩ := HM.out _ HG1.out
  go_wp2_with fail
  refine (CLA.out _).mono ?_
  rintro e W1' ⟨rfl, rfl⟩
  go_wp2_with fail
  try rw [hx1]
  refine (cutC a m1 _ (by omega) hm1).mono ?_
  rintro e W2 ⟨f2, rfl, n2, rfl⟩
  have HU2 : Hid (UR g t (i + L.length) (p.u v) x (W1'.drewN n2)) := HU1.out
  have HG2 : Hid (w.grownBy (W1'.drewN n2) (some g)) := grownBy_drewN HG1.out n2
  clear HU1 HG1 hm1
  generalize W1'.drewN n2 = W2 at *
  go_wp2_with fail
  refine (encAt 4 (upL [58] a) _ (by omega)).mono ?_
  rintro e W3 ⟨rfl, d3⟩
  have hU3 : UR g t (i + L.length) (p.u v) x W3 := HU2.out.grown d3 (Rdr.lt HU2.out)
  have HG3 : Hid (w.grownBy W3 (some g)) := grown_low HG2.out d3 HG2.out.size
  have c4 : W3.cell? ⟨g, 4, none⟩ = some (.string p.us) := hU3.cell 1 _ rfl
  have f4 := hU3.free 4
  have HU3 : Hid (UR g t (i + L.length) ({ p with us := wrT 4 (upL [58] a) }.u v) x (W3.setCell ⟨g, 4, none⟩ (.string (wrT 4 (upL [58] a))))) := hU3.set 1 _ _ _ rfl
  have HG3' : Hid (w.grownBy (W3.setCell ⟨g, 4, none⟩ (.string (wrT 4 (upL [58] a)))) (some g)) := grown_then HG3.out (grown_set W3 g 4 _)
  clear hU3 HG3 d3 HU2 HG2
  go_wp2_with fail
  refine (encAt 4 (behind a) _ (by omega)).mono ?_
  rintro e W4 ⟨rfl, d4⟩
  have hU4 : UR g t (i + L.length) ({ p with us := wrT 4 (upL [58] a) }.u v) x W4 := HU3.out.grown d4 (Rdr.lt HU3.out)
  have HG4 : Hid (w.grownBy W4 (some g)) := grown_low HG3'.out d4 HG3'.out.size
  have c5 : W4.cell? ⟨g, 5, none⟩ = some (.string p.pw) := hU4.cell 2 _ rfl
  have f5 := hU4.free 5
  have HU5 : Hid (UR g t (i + L.length) ((whoP p L).u v) x (W4.setCell ⟨g, 5, none⟩ (.string (wrT 4 (behind a))))) := by
   rw [HWP.out]; exact hU4.set 2 _ _ _ rfl
  have HG5 : Hid (w.grownBy (W4.setCell ⟨g, 5, none⟩ (.string (wrT 4 (behind a)))) (some g)) := grown_then HG4.out (grown_set W4 g 5 _)
  clear hU4 HG4 d4 HU3 HG3' HWP c4 f4
  have hrl : (whereL L).length ≤ 1000 := HRL.out
  obtain ⟨m5, hm5⟩ := HM.out _ HG5.out
  go_wp2_with fail
  try rw [hx2]
  clear c5 f5
  generalize W4.setCell ⟨g, 5, none⟩ (.string (wrT 4 (behind a))) = W5 at *
  refine (cutC (whereL L) m5 _ hrl hm5).mono ?_
  rintro e W6 ⟨f6, rfl, n6, rfl⟩
  have HU6 : Hid (UR g t (i + L.length) ((whoP p L).u v) x (W5.drewN n6)) := HU5.out
  have HG6 : Hid (w.grownBy (W5.drewN n6) (some g)) := grownBy_drewN HG5.out n6
  clear HU5 HG5 hm5
  generalize W5.drewN n6 = W6 at *
  go_wp2_with fail
  refine (CHO.out _ (HM.out _ HG6.out)).mono ?_
  rintro e W7 ⟨rfl, d7⟩
  have hU7 : UR g t (i + L.length) ((whoP p L).u v) x W7 := HU6.out.grown d7 (Rdr.lt HU6.out)
  have HG7 : Hid (w.grownBy W7 (some g)) := grown_low HG6.out d7 HG6.out.size
  have hgl7 : g < W7.heap.size := Rdr.lt hU7
  have hU8 : UR g t (i + L.length) ((whoP p L).u v) x (W7.alloc (.cells #[.int .i64 hk, .string hn, .int .i64 ha] 29)) := Blk.alloc hU7 _
  have HG8 : Hid (w.grownBy (W7.alloc (.cells #[.int .i64 hk, .string hn, .int .i64 ha] 29)) (some g)) := grown_then HG7.out (World.grownBy_alloc W7 _ _)
  have c3 : (W7.alloc (.cells #[.int .i64 hk, .string hn, .int .i64 ha] 29)).cell? ⟨g, 3, none⟩ = some (.string p.sc) := (hU8.cell 0 _ rfl).trans (by rw [HSC.out])
  have HN8 : Hid (Blk W7.heap.size #[.int .i64 hk, .string hn, .int .i64 ha] 29 (W7.alloc (.cells #[.int .i64 hk, .string hn, .int .i64 ha] 29))) := Blk.new W7 _ _
  have HU8 : Hid (UR g t (i + L.length) ((whoP p L).u v) x (W7.alloc (.cells #[.int .i64 hk, .string hn, .int .i64 ha] 29))) := hU8
  have c7 := hU7.cell 0 _ rfl
  clear hU8 d7 HU6 HG6
  go_wp2_with fail
  refine (CSP.out _).mono ?_
  rintro e W8 ⟨rfl, hW8⟩
  have hW8' := hW8.symm
  subst hW8'
  go_wp2_with fail
  refine (CPR.out _).mono ?_
  rintro e W9 ⟨rfl, d9⟩
  have hU9 : UR g t (i + L.length) ((whoP p L).u v) x W9 := HU8.out.grown d9 (Rdr.lt HU8.out)
  have HG9 : Hid (w.grownBy W9 (some g)) := grown_low HG8.out d9 HG8.out.size
  have hN9 : Blk W7.heap.size #[.int .i64 hk, .string hn, .int .i64 ha] 29 W9 := HN8.out.below d9 (Blk.lt HN8.out)
  obtain ⟨j3, j4, j5, j6, j7, j8, j9, j10, j11, j12, j13, j14, j15, j16⟩ := hU9.all
  have f6' := hU9.free 6
  have f7' := hU9.free 7
  have f8' := hU9.free 8
  have f9' := hU9.free 9
  have h0 : W9.cell? ⟨W7.heap.size, 0, none⟩ = some (.int .i64 hk) := hN9.cell 0
  have h1 : W9.cell? ⟨W7.heap.size, 1, none⟩ = some (.string hn) := hN9.cell 1
  have h2 : W9.cell? ⟨W7.heap.size, 2, none⟩ = some (.int .i64 ha) := hN9.cell 2
  have HU9 : Hid (UR g t (i + L.length) ((whoP p L).u v) x W9) := hU9
  have hUa := hU9.set 3 (.int .i64 hk) ({ (whoP p L).u v with hk := hk }) x rfl
  have hUb := hUa.set 4 (.string hn) ({ (whoP p L).u v with hk := hk, hn := hn }) x rfl
  have hUc := hUb.set 5 (.int .i64 ha) ({ (whoP p L).u v with hk := hk, hn := hn, ha := ha }) x rfl
  have HUd : Hid (UR g t (i + L.length) ({ (whoP p L).u v with hk := hk, hn := hn, ha := ha, po := po }) x ((((W9.setCell ⟨g, 6, none⟩ (.int .i64 hk)).setCell ⟨g, 7, none⟩ (.string hn)).setCell ⟨g, 8, none⟩ (.int .i64 ha)).setCell ⟨g, 9, none⟩ (.int .i64 po))) := hUc.set 6 (.int .i64 po) _ x rfl
  have HGd : Hid (w.grownBy ((((W9.setCell ⟨g, 6, none⟩ (.int .i64 hk)).setCell ⟨g, 7, none⟩ (.string hn)).setCell ⟨g, 8, none⟩ (.int .i64 ha)).setCell ⟨g, 9, none⟩ (.int .i64 po)) (some g)) := grown_then (grown_then (grown_then (grown_then HG9.out (grown_set W9 g 6 _)) (grown_set _ g 7 _)) (grown_set _ g 8 _)) (grown_set _ g 9 _)
  clear hU9 hN9 hUa hUb hUc d9 HN8 HU8 HG8 hU7 HG7 c7
  have hne : g ≠ W7.heap.size := by omega
  cases ho with
  | false =>
   obtain ⟨hb1, hb2⟩ := HB.out.1 rfl
   have HKe : Hid (K = _) := hb1
   have HQe : Hid (q = _) := hb2
   clear HB hb1 hb2
   go_wp2
   go_ret
   rw [HKe.out, HQe.out]
   exact ⟨rfl, HU9.out, HG9.out⟩
  | true =>
   cases pb with
   | false =>
    obtain ⟨hb1, hb2⟩ := HB.out.2.1 rfl
    have HKe : Hid (K = _) := hb1
    have HQe : Hid (q = _) := hb2
    clear HB hb1 hb2
    go_wp2
    go_ret
    rw [HKe.out, HQe.out]
    exact ⟨rfl, HU9.out, HG9.out⟩
   | true =>
    obtain ⟨hb1, hb2⟩ := HB.out.2.2 rfl rfl
    have HKe : Hid (K = _) := hb1
    have HQe : Hid (q = _) := hb2
    clear HB hb1 hb2
    go_wp2
    go_ret
    rw [HKe.out, HQe.out]
    exact ⟨rfl, HUd.out, HGd.out⟩
end Go.Proofs.YtnfhajhdpdidlaaGreatDoor
end
section
namespace Go.Proofs.YtnfhajhdpdidlaaGreatDoor
open Go.RowKit Go.Shelf
abbrev St := Bool × Bool × Bool
abbrev St.sch : St := (false, false, false)
abbrev St.ref : St := (false, false, true)
abbrev St.opq : St := (false, true, false)
abbrev St.sla : St := (false, true, true)
abbrev St.aut : St := (true, false, false)
abbrev St.pat : St := (true, false, true)
abbrev St.que : St := (true, true, false)
abbrev St.fra : St := (true, true, true)
def St.fn : St → Nat
 | (false, false, false) => 57
 | (false, false, true) => 92
 | (false, true, false) => 95
 | (false, true, true) => 94
 | (true, false, false) => 121
 | (true, false, true) => 149
 | (true, true, false) => 123
 | (true, true, true) => 152
def St.rank : St → Nat
 | (false, false, false) => 8
 | (false, true, true) => 7
 | (true, false, false) => 6
 | (true, false, true) => 5
 | (false, true, false) => 4
 | (true, true, false) => 3
 | (true, true, true) => 2
 | (false, false, true) => 1
def St.out (st : St) (p : P) (l : List UInt8) : Option P := match st with
 | (false, false, false) => schP p l
 | (false, false, true) => none
 | (false, true, false) => some (opqP p l)
 | (false, true, true) => slaP p l
 | (true, false, false) => hosP p l
 | (true, false, true) => some (patP p l)
 | (true, true, false) => some (queP p l)
 | (true, true, true) => some (fragP p l)
def stV (g : Nat) (st : St) : Value := .func (.func st.fn) #[.pointer (some ⟨g, 0, none⟩)] #[]
def fnRank (k : Nat) : Nat :=
 if k = St.sch.fn then 8 else if k = St.sla.fn then 7 else if k = St.aut.fn then 6 else if k = St.pat.fn then 5 else if k = St.opq.fn then 4 else if k = St.que.fn then 3 else if k = St.fra.fn then 2 else 1
def rkV (s : Value) : Nat := match s with
 | .func (.func k) _ _ => fnRank k
 | _ => 0
theorem fnRank_pos (k : Nat) : 1 ≤ fnRank k := by unfold fnRank; (repeat' split) <;> omega
theorem rk_st (g : Nat) (st : St) : rkV (stV g st) = st.rank := by rcases st with ⟨_ | _, _ | _, _ | _⟩ <;> rfl
def At (g : Nat) (t : ByteArray) (i : Nat) (p : P) (x : Bool) (w : World) : Prop := ∃ v, UR g t i (p.u v) x w ∧ OwnS (g + 1) v p.ps w
def Fin (g : Nat) (t : ByteArray) (R : Option P) (w : World) : Prop := match R with
 | some q => ∃ i, i ≤ t.size ∧ At g t i q false w
 | none => ∃ i u, UR g t i u true w
theorem At.own {g : Nat} {t : ByteArray} {j : Nat} {p q : P} {x : Bool} {v : Value} {w w' : World} (hO : OwnS (g + 1) v p.ps w) (hg : w.grownBy w' (some g)) (hU : UR g t j (q.u v) x w') (he : q.ps = p.ps) : At g t j q x w' :=
 ⟨v, hU, by rw [he]; exact hO.keptG hg (Nat.lt_succ_self g)⟩
def Next (g : Nat) (t : ByteArray) (R : Option P) (m : Nat) (s : Value) (w : World) : Prop :=
 (s = .nilFunc ∧ Fin g t R w) ∨ ∃ st i p, s = stV g st ∧ At g t i p false w ∧ i ≤ t.size ∧ st.out p (t.data.toList.drop i) = R ∧ st.rank * 2000 + (t.size - i) < m
theorem frag_u (t : ByteArray) (i : Nat) (p : P) (v : Value) : fragU t i (p.u v) = (fragP p (t.data.toList.drop i)).u v := by
 unfold fragU fragP
 by_cases h : passB [35] (t.data.toList.drop i) = true
 ·rw [if_pos h, if_pos h, List.tail_drop]; rfl
 ·rw [if_neg h, if_neg h]
theorem frag_ps (p : P) (l : List UInt8) : (fragP p l).ps = p.ps := by unfold fragP; split <;> rfl
theorem frag_i (t : ByteArray) (i : Nat) (hi : i ≤ t.size) : fragI t i ≤ t.size := by unfold fragI; split <;> omega
def queQ (p : P) (l : List UInt8) : P := if passB [63] l = true then { p with hq := true, qu := wrT 2 (upL [35] l.tail) } else p
theorem que_u (t : ByteArray) (i : Nat) (p : P) (v : Value) : queU t i (p.u v) = (queQ p (t.data.toList.drop i)).u v := by
 unfold queU queQ
 by_cases h : passB [63] (t.data.toList.drop i) = true
 ·rw [if_pos h, if_pos h, List.tail_drop]; rfl
 ·rw [if_neg h, if_neg h]
theorem que_ps (p : P) (l : List UInt8) : (queQ p l).ps = p.ps := by unfold queQ; split <;> rfl
theorem que_i (t : ByteArray) (i : Nat) (hi : i ≤ t.size) : queI t i ≤ t.size ∧ i ≤ queI t i := by
 unfold queI
 by_cases h : passB [63] (t.data.toList.drop i) = true
 ·rw [if_pos h]
  have h1 := pass_lt h
  have h2 := up_len [35] t (i + 1) h1
  omega
 ·rw [if_neg h]; omega
theorem que_out (t : ByteArray) (i : Nat) (p : P) : fragP (queQ p (t.data.toList.drop i)) (t.data.toList.drop (queI t i)) = queP p (t.data.toList.drop i) := by
 unfold queQ queI queP
 by_cases h : passB [63] (t.data.toList.drop i) = true
 ·rw [if_pos h, if_pos h, if_pos h, List.tail_drop, List.drop_drop]
 ·rw [if_neg h, if_neg h, if_neg h]
theorem sla_pass (p : P) (l : List UInt8) (h : passB [47, 92] l = true) : slaP p l.tail = slaP p l := by
 cases l with
 | nil => rfl
 | cons c r =>
  have hc : among [47, 92] c = true := h
  unfold slaP
  rw [List.dropWhile_cons, if_pos hc]; rfl
theorem sla_stop (p : P) (l : List UInt8) (h : passB [47, 92] l = false) : slaP p l = hosP p l := by
 cases l with
 | nil => rfl
 | cons c r =>
  have hc : among [47, 92] c = false := h
  unfold slaP
  rw [List.dropWhile_cons, if_neg (by rw [hc]; decide)]
theorem autQ_ps (p : P) (l : List UInt8) : (autQ p l).ps = p.ps := by
 show (whoP p l).ps = p.ps
 unfold whoP; cases atSplit l <;> rfl
theorem who_ps (p : P) (l : List UInt8) : (whoP p l).ps = p.ps := by unfold whoP; cases atSplit l <;> rfl
theorem stepTo (g : Nat) (t : ByteArray) (i : Nat) (p : P) (st : St) (w : World) (h : At g t i p false w) (hE : Eof w) (hM : MaxL w) (hg : g ≠ 1) (hg2 : g ≠ 0) (hi : i ≤ t.size) (ht : t.size ≤ 1000) :
  Calls Tryz.prog st.fn #[.pointer (some ⟨g, 0, none⟩)] w fun e w' => ∃ s, e = .returned s ∧ w.grownBy w' (some g) ∧ Next g t (st.out p (t.data.toList.drop i)) (st.rank * 2000 + (t.size - i)) s w' := by
 obtain ⟨v, hU, hO⟩ := h
 rcases st with ⟨_ | _, _ | _, _ | _⟩
 ·obtain ⟨L, hL⟩ : ∃ L, upL [58] (t.data.toList.drop i) = L := ⟨_, rfl⟩
  have k1 := up_len [58] t i hi
  rw [hL] at k1
  by_cases hb : passB [58] (t.data.toList.drop (i + L.length)) = true ∧ schL (low L) = true
  ·have hd : passB [58] ((t.data.toList.drop i).drop L.length) = true ∧ schL (low L) = true := by rw [List.drop_drop]; exact hb
   have k2 := pass_lt hb.1
   by_cases ho : 0 ≤ ownZ (mk (low L))
   ·refine (readScheme_yes g t i _ false w hU hE hg hi ht L hL hb.1 hb.2 St.sla.fn (show _ = _ from (if_pos ho).symm)).mono ?_
    rintro e w' ⟨rfl, h1, h2⟩
    refine ⟨_, rfl, h2, .inr ⟨.sla, _, { p with sc := mk (low L), po := -1 }, rfl, At.own hO h2 h1 rfl, k2, ?_, ?_⟩⟩
    ·show slaP _ _ = schP _ _
     unfold schP
     rw [hL, if_pos hd, if_pos ho, List.drop_drop]; rfl
    ·show 7 * 2000 + _ < 8 * 2000 + _
     omega
   ·refine (readScheme_yes g t i _ false w hU hE hg hi ht L hL hb.1 hb.2 St.opq.fn (show _ = _ from (if_neg ho).symm)).mono ?_
    rintro e w' ⟨rfl, h1, h2⟩
    refine ⟨_, rfl, h2, .inr ⟨.opq, _, { p with sc := mk (low L), po := -1 }, rfl, At.own hO h2 h1 rfl, k2, ?_, ?_⟩⟩
    ·show some (opqP _ _) = schP _ _
     unfold schP
     rw [hL, if_pos hd, if_neg ho, List.drop_drop]; rfl
    ·show 4 * 2000 + _ < 8 * 2000 + _
     omega
  ·have hd : ¬ (passB [58] ((t.data.toList.drop i).drop L.length) = true ∧ schL (low L) = true) := by rw [List.drop_drop]; exact hb
   refine (readScheme_no g t i _ false w hU hE hg hi ht L hL (by
    cases h1 : passB [58] (t.data.toList.drop (i + L.length)) with
    | false => exact .inl rfl
    | true =>
     cases h2 : schL (low L) with
     | false => exact .inr rfl
     | true => exact absurd ⟨h1, h2⟩ hb)).mono ?_
   rintro e w' ⟨rfl, ⟨j, hj, h1⟩, h2⟩
   refine ⟨_, rfl, h2, .inr ⟨.ref, j, p, rfl, At.own hO h2 h1 rfl, hj, ?_, ?_⟩⟩
   ·show none = schP _ _
    unfold schP
    rw [hL, if_neg hd]
   ·show 1 * 2000 + _ < 8 * 2000 + _
    omega
 ·refine (refuse g t i _ false w hU hE hg hi ht).mono ?_
  rintro e w' ⟨rfl, h1, h2⟩
  exact ⟨_, rfl, h2, .inl ⟨rfl, i, _, h1⟩⟩
 ·refine (readOpaque g t i _ false w hU hE hg hi ht).mono ?_
  rintro e w' ⟨rfl, h1, h2⟩
  have k1 := up_len [63, 35] t i hi
  refine ⟨_, rfl, h2, .inr ⟨.que, opqI t i, { p with op := wrT 5 (upL [63, 35] (t.data.toList.drop i)) }, rfl, At.own hO h2 h1 rfl, ?_, ?_, ?_⟩⟩
  ·unfold opqI; exact k1
  ·show some (queP _ _) = some (opqP _ _)
   unfold opqP opqI
   rw [List.drop_drop]
  ·show 3 * 2000 + _ < 4 * 2000 + _
   unfold opqI; omega
 ·cases hp : passB [47, 92] (t.data.toList.drop i) with
  | true =>
   refine (passSlashes_yes g t i _ false w hU hE hg hi ht hp).mono ?_
   rintro e w' ⟨rfl, h1, h2⟩
   have k1 := pass_lt hp
   refine ⟨_, rfl, h2, .inr ⟨.sla, _, p, rfl, At.own hO h2 h1 rfl, k1, ?_, ?_⟩⟩
   ·show slaP _ _ = slaP _ _
    rw [← sla_pass p _ hp, List.tail_drop]
   have e7 : St.sla.rank = St.rank (false, true, true) := rfl
   ·omega
  | false =>
   refine (passSlashes_no g t i _ false w hU hE hg hi ht hp).mono ?_
   rintro e w' ⟨rfl, h1, h2⟩
   refine ⟨_, rfl, h2, .inr ⟨.aut, _, p, rfl, At.own hO h2 h1 rfl, hi, ?_, ?_⟩⟩
   ·show hosP _ _ = slaP _ _
    rw [sla_stop p _ hp]
   ·show 6 * 2000 + _ < 7 * 2000 + _
    omega
 ·obtain ⟨L, hL⟩ : ∃ L, upL [47, 92, 63, 35] (t.data.toList.drop i) = L := ⟨_, rfl⟩
  have k1 := up_len [47, 92, 63, 35] t i hi
  rw [hL] at k1
  refine (readAuthority g t i p v false w hU hE hM hg hg2 hi ht L hL (autF p L) rfl (autU p L) rfl).mono ?_
  rintro e w' ⟨rfl, h1, h2⟩
  cases hb : autB p L with
  | true =>
   have e1 : autF p L = St.pat.fn := by unfold autF; rw [hb]; rfl
   have e2 : autU p L = autQ p L := by unfold autU; rw [hb]; rfl
   rw [e2] at h1
   rw [e1]
   refine ⟨_, rfl, h2, .inr ⟨.pat, _, autQ p L, rfl, At.own hO h2 h1 (autQ_ps _ _), k1, ?_, ?_⟩⟩
   ·show some (patP _ _) = hosP _ _
    unfold hosP autP
    rw [hL, if_pos hb, Option.map_some, List.drop_drop]
   ·show 5 * 2000 + _ < 6 * 2000 + _
    omega
  | false =>
   have e1 : autF p L = St.ref.fn := by unfold autF; rw [hb]; rfl
   have e2 : autU p L = whoP p L := by unfold autU; rw [hb]; rfl
   rw [e2] at h1
   rw [e1]
   refine ⟨_, rfl, h2, .inr ⟨.ref, _, whoP p L, rfl, At.own hO h2 h1 (who_ps _ _), k1, ?_, ?_⟩⟩
   ·show none = hosP _ _
    unfold hosP autP
    rw [hL, if_neg (by rw [hb]; decide)]; rfl
   ·show 1 * 2000 + _ < 6 * 2000 + _
    omega
 ·refine (readPath g t i _ false w hU hE hM hg hg2 hi ht).mono ?_
  rintro e w' ⟨rfl, ⟨v', h1, h3⟩, h2⟩
  have k1 := up_len [63, 35] t i hi
  refine ⟨_, rfl, h2, .inr ⟨.que, _, { p with ps := pathL (upL [63, 35] (t.data.toList.drop i)) }, rfl, ⟨v', h1, h3.base (Rdr.lt hU)⟩, k1, ?_, ?_⟩⟩
  ·show some (queP _ _) = some (patP _ _)
   unfold patP
   rw [List.drop_drop]
  ·show 3 * 2000 + _ < 5 * 2000 + _
   omega
 ·refine (readQuery g t i _ false w hU hE hg hi ht).mono ?_
  rintro e w' ⟨rfl, h1, h2⟩
  rw [que_u] at h1
  obtain ⟨k1, k2⟩ := que_i t i hi
  refine ⟨_, rfl, h2, .inr ⟨.fra, _, _, rfl, At.own hO h2 h1 (que_ps _ _), k1, ?_, ?_⟩⟩
  ·show some (fragP _ _) = some (queP _ _)
   rw [que_out]
  ·show 2 * 2000 + _ < 3 * 2000 + _
   omega
 ·refine (readFrag g t i _ false w hU hE hg hi ht).mono ?_
  rintro e w' ⟨rfl, h1, h2⟩
  rw [frag_u] at h1
  exact ⟨_, rfl, h2, .inl ⟨rfl, _, frag_i t i hi, At.own hO h2 h1 (frag_ps _ _)⟩⟩
theorem neq_func (k : Nat) (a b : Array Value) (W : World) : (binOp .neq 101 (.func (.func k) a b) .nilFunc).run Tryz.prog W = .ok (.bool true) W := rfl
theorem neq_nil (W : World) : (binOp .neq 101 .nilFunc .nilFunc).run Tryz.prog W = .ok (.bool false) W := rfl
theorem runFrom (g : Nat) (t : ByteArray) (i : Nat) (p : P) (st : St) (w : World) (h : At g t i p false w) (hE : Eof w) (hM : MaxL w) (hg : g ≠ 1) (hg2 : g ≠ 0) (hi : i ≤ t.size) (ht : t.size ≤ 1000) :
  Calls Tryz.prog 56 #[.pointer (some ⟨g, 0, none⟩), stV g st] w fun e w' => e = .returned (.tuple #[]) ∧ Fin g t (st.out p (t.data.toList.drop i)) w' ∧ w.grownBy w' (some g) := by
 have HE : Hid (∀ W, w.grownBy W (some g) → Eof W) := fun W k => hE.grown k hg
 have HM : Hid (∀ W, w.grownBy W (some g) → MaxL W) := fun W k => hM.grown k hg2
 obtain ⟨R, hR⟩ : ∃ R, st.out p (t.data.toList.drop i) = R := ⟨_, rfl⟩
 have HS : Hid (∀ (i : Nat) (p : P) (st : St) (W : World), At g t i p false W → w.grownBy W (some g) → i ≤ t.size → st.out p (t.data.toList.drop i) = R → Calls Tryz.prog st.fn #[.pointer (some ⟨g, 0, none⟩)] W fun e w' => ∃ s, e = .returned s ∧ W.grownBy w' (some g) ∧ Next g t R (st.rank * 2000 + (t.size - i)) s w') := by
  intro i p st W hA hG hi hR
  rw [← hR]
  exact stepTo g t i p st W hA (HE.out W hG) (HM.out W hG) hg hg2 hi ht
 have H0 : Hid (∃ (i : Nat) (p : P) (st' : St), stV g st = stV g st' ∧ At g t i p false w ∧ i ≤ t.size ∧ st'.out p (t.data.toList.drop i) = R) := ⟨i, p, st, rfl, h, hi, hR⟩
 rw [hR]
 clear h hE hM HE HM hR hi
 unfold stV at H0 ⊢
 generalize st.fn = k0 at *
 go_enter Tryz.func56, Tryz.ntmps56
 go_wp2
 go_loopw [1] (fun s wr => Hid (w.grownBy wr (some g)) ∧ ((s = .nilFunc ∧ Hid (Fin g t R wr)) ∨ ∃ k, s = .func (.func k) #[.pointer (some ⟨g, 0, none⟩)] #[] ∧ Hid (∃ (i : Nat) (p : P) (st' : St), k = St.fn st' ∧ At g t i p false wr ∧ i ≤ t.size ∧ st'.out p (t.data.toList.drop i) = R))) (fun s wr => rkV s * 2000 + (t.size - placeOf g wr))
 case atStart =>
  obtain ⟨i, p, st', e, hA, hi, hR⟩ := H0.out
  exact ⟨World.grownBy.refl w _, .inr ⟨k0, rfl, i, p, st', by simpa using e, hA, hi, hR⟩⟩
 case round =>
  obtain ⟨HG, hh⟩ := hrel
  rcases hh with ⟨rfl, HF⟩ | ⟨k, rfl, HK⟩
  ·have hq := neq_nil wr
   go_wp2
   go_end0
   exact ⟨rfl, HF.out, HG.out⟩
  ·obtain ⟨i1, p1, st1, hk, hA, hi1, hR1⟩ := HK.out
   have CS : Hid (Calls Tryz.prog k #[.pointer (some ⟨g, 0, none⟩)] wr fun e w' => ∃ s, e = .returned s ∧ wr.grownBy w' (some g) ∧ Next g t R (fnRank k * 2000 + (t.size - placeOf g wr)) s w') := by
    have hrk : fnRank k = st1.rank := by rw [hk]; exact rk_st g st1
    obtain ⟨v1, hU1, hO1⟩ := hA
    rw [hrk, Rdr.place hU1, hk]
    exact HS.out i1 p1 st1 wr ⟨v1, hU1, hO1⟩ HG.out hi1 hR1
   subst hk
   clear hA hi1 hR1 HK
   have hq := neq_func (St.fn st1) #[.pointer (some ⟨g, 0, none⟩)] #[] wr
   obtain ⟨mz, hmz⟩ : ∃ mz, mz = fnRank (St.fn st1) * 2000 + (t.size - placeOf g wr) := ⟨_, rfl⟩
   have HMZ : Hid (mz = rkV (.func (.func (St.fn st1)) #[.pointer (some ⟨g, 0, none⟩)] #[]) * 2000 + (t.size - placeOf g wr)) := hmz
   have HMP : Hid (t.size < mz) := by
    show _ < _
    have := fnRank_pos (St.fn st1)
    omega
   rw [← hmz] at CS
   clear hmz
   rcases st1 with ⟨_ | _, _ | _, _ | _⟩
   all_goals
    dsimp only [St.fn] at CS hq HMZ ⊢
    go_wp2_with fail
    refine CS.out.mono ?_
    rintro e W1 ⟨s1, rfl, hG1, hN⟩
    have HG1 : Hid (w.grownBy W1 (some g)) := grown_then HG.out hG1
    have HN : Hid (Next g t R mz s1 W1) := hN
    clear hG1 hN
    go_wp2
    go_roundw
    case rel =>
     refine ⟨HG1, ?_⟩
     rcases HN.out with ⟨h1, h2⟩ | ⟨st2, i2, p2, h1, h2, h3, h4, h5⟩
     ·exact .inl ⟨h1, h2⟩
     ·exact .inr ⟨st2.fn, h1, i2, p2, st2, rfl, h2, h3, h4⟩
    case measure =>
     rcases HN.out with ⟨h1, h2⟩ | ⟨st2, i2, p2, h1, h2, h3, h4, h5⟩
     ·rw [h1, ← HMZ.out]
      have h2 := HMP.out
      show 0 * 2000 + _ < _
      omega
     ·obtain ⟨v2, hU2, _⟩ := h2
      rw [h1, rk_st, Rdr.place hU2, ← HMZ.out]
      exact h5
end Go.Proofs.YtnfhajhdpdidlaaGreatDoor
end

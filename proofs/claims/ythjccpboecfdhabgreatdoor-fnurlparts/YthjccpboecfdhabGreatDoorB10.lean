/- impl.hostRead, hostOf, HostGet: a host, read. impl.HostGet: a host, read of a text. Plain facts on addresses: what is read of a text. impl.urlReader's state readAuthority. -/
import Derived.Test.YthjccpboecfdhabGreatDoorB09
import Derived.Test.YthjccpboecfdhabGreatDoorB08
import Derived.Test.YthjccpboecfdhabGreatDoorB04
import Derived.Lib.LastIndexByte
section
set_option linter.unusedVariables false
namespace Go.Proofs.YthjccpboecfdhabGreatDoor
open Go.RowKit Go.Shelf

/-- What a text that is read is as a form of a host. -/
def hostV (t : List UInt8) : Value := if endsL t = true then (if fourOk t = true then .iface 113 (.int .i64 (fourZ t)) else .nilIface) else if nameL t = true then .iface 112 (.string (mk t)) else .nilIface
def hostKind (t : List UInt8) : Int := if endsL t = true then (if fourOk t = true then 2 else 0) else if nameL t = true then 1 else 0
def hostName (t : List UInt8) : ByteArray := if endsL t = true then ⟨#[]⟩ else if nameL t = true then mk t else ⟨#[]⟩
def hostAddr (t : List UInt8) : Int := if endsL t = true then (if fourOk t = true then fourZ t else 0) else 0
def hostAgg (t : List UInt8) : Value := .agg #[.int .i64 (hostKind t), .string (hostName t), .int .i64 (hostAddr t)]

set_option maxHeartbeats 1000000 in
set_option maxRecDepth 100000 in
theorem hostRead (s : ByteArray) (w : World) (hm : ∃ m, w.cell? ⟨1, 0, none⟩ = some (.int .i64 m)) (hs : s.size ≤ 1000000) :
    Calls Tryz.prog 125 #[.string s] w fun e w' => e = .returned (hostV s.data.toList) ∧ Below w.heap.size w w' := by
  have CE := endsWithNumber s w hm hs
  have hG : ∀ {m}, w.cell? ⟨1, 0, none⟩ = some (.int .i64 m) → 1 < w.heap.size := fun h => cell_in h
  have keep : ∀ W, Below w.heap.size w W → ∃ m, W.cell? ⟨1, 0, none⟩ = some (.int .i64 m) := by
    intro W hW
    obtain ⟨m, hm⟩ := hm
    exact ⟨m, by rw [hW.cell (p := ⟨_, 0, none⟩) (hG hm)]; exact hm⟩
  have CF : Hid (∀ W, Below w.heap.size w W → Calls Tryz.prog 147 #[.string s] W fun e w' => e = .returned (.tuple #[.int .i64 (fourZ s.data.toList), .bool (fourOk s.data.toList)]) ∧ Below W.heap.size W w') := fun W hW => implFour s W (by omega) (keep W hW)
  have CN : Hid (∀ W, Below w.heap.size w W → Calls Tryz.prog 108 #[.string s] W fun e w' => e = .returned (.bool (nameL s.data.toList)) ∧ Below W.heap.size W w') := fun W hW => isHostName s W (keep W hW) (by omega)
  have CE2 : Hid (Calls Tryz.prog 109 #[.string s] w fun e w' => e = .returned (.bool (endsL s.data.toList)) ∧ Below w.heap.size w w') := CE
  clear CE keep hG hm
  cases he : endsL s.data.toList with
  | true =>
    rw [he] at CE2
    cases hf : fourOk s.data.toList with
    | true =>
      rw [hf] at CF
      have HV : Hid (hostV s.data.toList = .iface 113 (.int .i64 (fourZ s.data.toList))) := by show _ = _; unfold hostV; rw [if_pos he, if_pos hf]
      generalize fourZ s.data.toList = z at *
      clear he hf
      go_enter Tryz.func125, Tryz.ntmps125
      go_wp2_with fail
      refine CE2.out.mono ?_
      rintro e W1 ⟨rfl, b1⟩
      go_wp2_with fail
      refine (CF.out _ b1).mono ?_
      rintro e W2 ⟨rfl, b2⟩
      go_wp2
      go_ret
      exact ⟨by rw [HV.out]; rfl, b1.trans (b2.mono b1.size)⟩
    | false =>
      rw [hf] at CF
      have HV : Hid (hostV s.data.toList = .nilIface) := by show _ = _; unfold hostV; rw [if_pos he, if_neg (by rw [hf]; decide)]
      generalize fourZ s.data.toList = z at *
      clear he hf
      go_enter Tryz.func125, Tryz.ntmps125
      go_wp2_with fail
      refine CE2.out.mono ?_
      rintro e W1 ⟨rfl, b1⟩
      go_wp2_with fail
      refine (CF.out _ b1).mono ?_
      rintro e W2 ⟨rfl, b2⟩
      go_wp2
      go_ret
      exact ⟨by rw [HV.out]; rfl, b1.trans (b2.mono b1.size)⟩
  | false =>
    rw [he] at CE2
    cases hf : nameL s.data.toList with
    | true =>
      rw [hf] at CN
      have HV : Hid (hostV s.data.toList = .iface 112 (.string s)) := by show _ = _; unfold hostV; rw [if_neg (by rw [he]; decide), if_pos hf, mk_list]
      clear he hf
      go_enter Tryz.func125, Tryz.ntmps125
      go_wp2_with fail
      refine CE2.out.mono ?_
      rintro e W1 ⟨rfl, b1⟩
      go_wp2_with fail
      refine (CN.out _ b1).mono ?_
      rintro e W2 ⟨rfl, b2⟩
      go_wp2
      go_ret
      exact ⟨by rw [HV.out]; rfl, b1.trans (b2.mono b1.size)⟩
    | false =>
      rw [hf] at CN
      have HV : Hid (hostV s.data.toList = .nilIface) := by show _ = _; unfold hostV; rw [if_neg (by rw [he]; decide), if_neg (by rw [hf]; decide)]
      clear he hf
      go_enter Tryz.func125, Tryz.ntmps125
      go_wp2_with fail
      refine CE2.out.mono ?_
      rintro e W1 ⟨rfl, b1⟩
      go_wp2_with fail
      refine (CN.out _ b1).mono ?_
      rintro e W2 ⟨rfl, b2⟩
      go_wp2
      go_ret
      exact ⟨by rw [HV.out]; rfl, b1.trans (b2.mono b1.size)⟩

set_option maxHeartbeats 1000000 in
set_option maxRecDepth 100000 in
theorem hostOfNamed (s : ByteArray) (w : World) :
    Calls Tryz.prog 124 #[.iface 112 (.string s)] w fun e w' => e = .returned (.agg #[.int .i64 1, .string s, .int .i64 0]) ∧ Below w.heap.size w w' := by
  have tn := ta_named (.string s) (w.alloc (.cells #[.int .i64 0, .string ⟨#[]⟩, .int .i64 0] 24))
  go_enter Tryz.func124, Tryz.ntmps124
  go_wp2
  exact bodyPost_ret (v := .agg #[.int .i64 1, .string s, .int .i64 0]) (by simp [results, Tryz.results124, go_sem]) rfl ⟨rfl, (Below.refl _ w).alloc (Nat.le_refl _) _⟩
set_option maxHeartbeats 1000000 in
set_option maxRecDepth 100000 in
theorem hostOfNumbered (a : Int) (w : World) :
    Calls Tryz.prog 124 #[.iface 113 (.int .i64 a)] w fun e w' => e = .returned (.agg #[.int .i64 2, .string ⟨#[]⟩, .int .i64 a]) ∧ Below w.heap.size w w' := by
  have tn := ta_miss (.int .i64 a) (w.alloc (.cells #[.int .i64 0, .string ⟨#[]⟩, .int .i64 0] 24))
  have tm := ta_numbered (.int .i64 a) (w.alloc (.cells #[.int .i64 0, .string ⟨#[]⟩, .int .i64 0] 24))
  go_enter Tryz.func124, Tryz.ntmps124
  go_wp2
  exact bodyPost_ret (v := .agg #[.int .i64 2, .string ⟨#[]⟩, .int .i64 a]) (by simp [results, Tryz.results124, go_sem]) rfl ⟨rfl, (Below.refl _ w).alloc (Nat.le_refl _) _⟩
set_option maxHeartbeats 1000000 in
set_option maxRecDepth 100000 in
theorem hostOfNil (w : World) :
    Calls Tryz.prog 124 #[.nilIface] w fun e w' => e = .returned (.agg #[.int .i64 0, .string ⟨#[]⟩, .int .i64 0]) ∧ Below w.heap.size w w' := by
  have tn := ta_nil1 (w.alloc (.cells #[.int .i64 0, .string ⟨#[]⟩, .int .i64 0] 24))
  have tm := ta_nil2 (w.alloc (.cells #[.int .i64 0, .string ⟨#[]⟩, .int .i64 0] 24))
  go_enter Tryz.func124, Tryz.ntmps124
  go_wp2
  exact bodyPost_ret (v := .agg #[.int .i64 0, .string ⟨#[]⟩, .int .i64 0]) (by simp [results, Tryz.results124, go_sem]) rfl ⟨rfl, (Below.refl _ w).alloc (Nat.le_refl _) _⟩
theorem hostOf (t : List UInt8) (w : World) :
    Calls Tryz.prog 124 #[hostV t] w fun e w' => e = .returned (hostAgg t) ∧ Below w.heap.size w w' := by
  unfold hostV hostAgg hostKind hostName hostAddr
  by_cases h1 : endsL t = true
  · by_cases h2 : fourOk t = true
    · simp only [if_pos h1, if_pos h2]; exact hostOfNumbered _ w
    · simp only [if_pos h1, if_neg h2]; exact hostOfNil w
  · by_cases h2 : nameL t = true
    · simp only [if_neg h1, if_pos h2]; exact hostOfNamed _ w
    · simp only [if_neg h1, if_neg h2]; exact hostOfNil w
end Go.Proofs.YthjccpboecfdhabGreatDoor
end

section
set_option linter.unusedVariables false
namespace Go.Proofs.YthjccpboecfdhabGreatDoor
open Go.RowKit Go.Shelf

/-- What is left of a text when figures are read, in small letters. -/
def readL (l : List UInt8) : List UInt8 := low (dec l)
def hostOkL (l : List UInt8) : Bool := decide (hostKind l ≠ 0)
/-- What HostGet answers: the host, and whether there is one. -/
def getAgg (l : List UInt8) : Value := if l.length ≤ 200 then hostAgg (readL l) else .agg #[.int .i64 0, .string ⟨#[]⟩, .int .i64 0]
def getOk (l : List UInt8) : Bool := if l.length ≤ 200 then hostOkL (readL l) else false

set_option maxHeartbeats 2000000 in
set_option maxRecDepth 100000 in
theorem implHostGet (s : ByteArray) (w : World) (hm : ∃ m, w.cell? ⟨1, 0, none⟩ = some (.int .i64 m)) (hs : s.size ≤ 1048576) :
    Calls Tryz.prog 98 #[.string s] w fun e w' => e = .returned (.tuple #[getAgg s.data.toList, .bool (getOk s.data.toList)]) ∧ Below w.heap.size w w' := by
  have hl : s.data.toList.length = s.size := by simp
  by_cases hL : s.size ≤ 200
  · have hLi : (s.size : Int) ≤ 200 := by omega
    have hdl := dec_le s.data.toList
    obtain ⟨t, ht⟩ : ∃ t, t = readL s.data.toList := ⟨_, rfl⟩
    have htl : t.length ≤ 200 := by rw [ht]; unfold readL; rw [low_length]; omega
    have keep : ∀ W, Below w.heap.size w W → ∃ m, W.cell? ⟨1, 0, none⟩ = some (.int .i64 m) := by
      intro W hW
      obtain ⟨m, hm⟩ := hm
      exact ⟨m, by rw [hW.cell (p := ⟨_, 0, none⟩) (cell_in hm)]; exact hm⟩
    have C1 : Hid (∀ W, Calls Tryz.prog 126 #[.string s] W fun e w' => e = .returned (.string (mk (dec s.data.toList))) ∧ Below W.heap.size W w') := by
      intro W
      refine (implDecode s W (by unfold maxLen; omega)).mono ?_
      rintro e w' ⟨rfl, b⟩
      exact ⟨by rw [decode_small _ (by omega)]; rfl, b⟩
    have C2 : Hid (∀ W, Calls Tryz.prog 48 #[.string (mk (dec s.data.toList))] W fun e w' => e = .returned (.string (mk t)) ∧ Below W.heap.size W w') := by
      intro W; rw [ht]; exact implLower (mk (dec s.data.toList)) W (by rw [mk_size]; omega)
    have C3 : Hid (∀ W, Below w.heap.size w W → Calls Tryz.prog 125 #[.string (mk t)] W fun e w' => e = .returned (hostV t) ∧ Below W.heap.size W w') := by
      intro W hW; exact hostRead (mk t) W (keep W hW) (by rw [mk_size]; omega)
    have C4 : Hid (∀ W, Calls Tryz.prog 124 #[hostV t] W fun e w' => e = .returned (.agg #[.int .i64 (hostKind t), .string (hostName t), .int .i64 (hostAddr t)]) ∧ Below W.heap.size W w') := fun W => hostOf t W
    have HG : Hid (getAgg s.data.toList = .agg #[.int .i64 (hostKind t), .string (hostName t), .int .i64 (hostAddr t)]) := by show _ = _; unfold getAgg; rw [if_pos (by omega), ← ht]; rfl
    have HO : Hid (getOk s.data.toList = (hostKind t != 0)) := by
      show _ = _
      unfold getOk hostOkL
      rw [if_pos (by omega), ← ht, Bool.eq_iff_iff, decide_eq_true_eq, bne_iff_ne]
    generalize hostKind t = kd at *
    generalize hostName t = nm at *
    generalize hostAddr t = ad at *
    generalize hostV t = hv at *
    generalize mk (dec s.data.toList) = ds at *
    clear ht htl hdl keep hm
    generalize mk t = tt at *
    go_enter Tryz.func98, Tryz.ntmps98
    go_wp2_with fail
    refine (C1.out _).mono ?_
    rintro e W1 ⟨rfl, d1⟩
    have b1 : Below w.heap.size w W1 := ((Below.refl _ w).alloc (Nat.le_refl _) _).trans (d1.mono (by simp))
    have hh1 : W1.heap[w.heap.size]? = some (.cells #[.int .i64 0, .string ⟨#[]⟩, .int .i64 0] 24 (0, 0)) := (d1.block _ (by simp)).trans (heap_alloc_new w _)
    go_wp2_with fail
    refine (C2.out _).mono ?_
    rintro e W2 ⟨rfl, d2⟩
    have b2 := b1.trans (d2.mono b1.size)
    have hh2 := (d2.block _ (Array.getElem?_eq_some_iff.1 hh1).1).trans hh1
    go_wp2_with fail
    refine (C3.out _ b2).mono ?_
    rintro e W3 ⟨rfl, d3⟩
    have b3 := b2.trans (d3.mono b2.size)
    have hh3 := (d3.block _ (Array.getElem?_eq_some_iff.1 hh2).1).trans hh2
    go_wp2_with fail
    refine (C4.out _).mono ?_
    rintro e W4 ⟨rfl, d4⟩
    have b4 := b3.trans (d4.mono b3.size)
    have hh4 := (d4.block _ (Array.getElem?_eq_some_iff.1 hh3).1).trans hh3
    have hlt4 : w.heap.size < W4.heap.size := (Array.getElem?_eq_some_iff.1 hh4).1
    have c0 : W4.cell? ⟨w.heap.size, 0, none⟩ = some (.int .i64 0) := by rw [Lib.cell_of_heap hh4]; rfl
    have c1 : W4.cell? ⟨w.heap.size, 1, none⟩ = some (.string ⟨#[]⟩) := by rw [Lib.cell_of_heap hh4]; rfl
    have c2 : W4.cell? ⟨w.heap.size, 2, none⟩ = some (.int .i64 0) := by rw [Lib.cell_of_heap hh4]; rfl
    have f0 : W4.frozen? ⟨w.heap.size, 0, none⟩ = false := Lib.frozen_of_heap hh4 0
    have f1 : W4.frozen? ⟨w.heap.size, 1, none⟩ = false := Lib.frozen_of_heap hh4 1
    have f2 : W4.frozen? ⟨w.heap.size, 2, none⟩ = false := Lib.frozen_of_heap hh4 2
    have hne : w.heap.size ≠ W4.heap.size := by omega
    clear C1 C2 C3 C4 b1 b2 b3 d1 d2 d3 d4 hh1 hh2 hh3
    go_wp2
    go_region
    go_wp2
    refine bodyPost_ret (v := .tuple #[.agg #[.int .i64 kd, .string nm, .int .i64 ad], .bool (kd != 0)]) (by simp [results, Tryz.results98, go_sem, c0, c1, c2, hlt4]) rfl ⟨by rw [HG.out, HO.out], ?_⟩
    exact ((((b4.setCell (p := ⟨w.heap.size, 0, none⟩) (Nat.le_refl _) _).setCell (p := ⟨w.heap.size, 1, none⟩) (Nat.le_refl _) _).setCell (p := ⟨w.heap.size, 2, none⟩) (Nat.le_refl _) _).alloc (by simp; omega) _).drew
  · have hLi : (200 : Int) < (s.size : Int) := by omega
    have HG : Hid (getAgg s.data.toList = .agg #[.int .i64 0, .string ⟨#[]⟩, .int .i64 0]) := by show _ = _; unfold getAgg; rw [if_neg (by omega)]
    have HO : Hid (getOk s.data.toList = false) := by show _ = _; unfold getOk; rw [if_neg (by omega)]
    go_enter Tryz.func98, Tryz.ntmps98
    go_wp2
    exact bodyPost_ret (v := .tuple #[.agg #[.int .i64 0, .string ⟨#[]⟩, .int .i64 0], .bool false]) (by simp [results, Tryz.results98, go_sem]) rfl ⟨by rw [HG.out, HO.out], (Below.refl _ w).alloc (Nat.le_refl _) _⟩
end Go.Proofs.YthjccpboecfdhabGreatDoor
end

section
set_option linter.unusedVariables false
namespace Go.Proofs.YthjccpboecfdhabGreatDoor
open Go.RowKit Go.Shelf

/-- An address, as plain data. -/
structure P where
  sc : ByteArray
  us : ByteArray
  pw : ByteArray
  hk : Int
  hn : ByteArray
  ha : Int
  po : Int
  ps : List (List UInt8)
  op : ByteArray
  hq : Bool
  qu : ByteArray
  hf : Bool
  fr : ByteArray
def P.zero : P := ⟨⟨#[]⟩, ⟨#[]⟩, ⟨#[]⟩, 0, ⟨#[]⟩, 0, 0, [], ⟨#[]⟩, false, ⟨#[]⟩, false, ⟨#[]⟩⟩
def P.u (p : P) (v : Value) : U := ⟨p.sc, p.us, p.pw, p.hk, p.hn, p.ha, p.po, v, p.op, p.hq, p.qu, p.hf, p.fr⟩

/-- The end of an address: what is behind its sharp sign. -/
def fragP (p : P) (l : List UInt8) : P := if passB [35] l = true then { p with hf := true, fr := wrT 3 l.tail } else p
/-- Its tail: a query, and the end. -/
def queP (p : P) (l : List UInt8) : P := if passB [63] l = true then fragP { p with hq := true, qu := wrT 2 (upL [35] l.tail) } (l.tail.drop (upL [35] l.tail).length) else fragP p l
def opqP (p : P) (l : List UInt8) : P := queP { p with op := wrT 5 (upL [63, 35] l) } (l.drop (upL [63, 35] l).length)
def patP (p : P) (l : List UInt8) : P := queP { p with ps := pathL (upL [63, 35] l) } (l.drop (upL [63, 35] l).length)

/-- What is ahead of the last at sign, and what is behind it. -/
def atSplit : List UInt8 → Option (List UInt8 × List UInt8)
  | [] => none
  | c :: r => match atSplit r with
    | some (a, b) => some (c :: a, b)
    | none => if c = 64 then some ([], r) else none
theorem at_none (l : List UInt8) (h : atSplit l = none) : ∀ c ∈ l, c ≠ 64 := by
  induction l with
  | nil => simp
  | cons c r ih =>
    unfold atSplit at h
    cases hr : atSplit r with
    | some q => rw [hr] at h; simp at h
    | none =>
      rw [hr] at h
      simp only [ite_eq_right_iff] at h
      intro d hd
      rcases List.mem_cons.1 hd with rfl | hd
      · intro e; exact absurd (h e) (by simp)
      · exact ih hr d hd
theorem at_some (l a b : List UInt8) (h : atSplit l = some (a, b)) : l = a ++ 64 :: b ∧ ∀ c ∈ b, c ≠ 64 := by
  induction l generalizing a b with
  | nil => simp [atSplit] at h
  | cons c r ih =>
    unfold atSplit at h
    cases hr : atSplit r with
    | some q =>
      rw [hr] at h
      obtain ⟨a', b'⟩ := q
      simp only [Option.some.injEq, Prod.mk.injEq] at h
      obtain ⟨rfl, rfl⟩ := h
      obtain ⟨e, hb⟩ := ih a' b' hr
      exact ⟨by rw [e]; rfl, hb⟩
    | none =>
      rw [hr] at h
      by_cases hc : c = 64
      · subst hc
        simp only [if_true, Option.some.injEq, Prod.mk.injEq] at h
        obtain ⟨rfl, rfl⟩ := h
        exact ⟨rfl, at_none r hr⟩
      · simp [hc] at h
theorem at_split (a b : List UInt8) (h : ∀ c ∈ b, c ≠ 64) : atSplit (a ++ 64 :: b) = some (a, b) := by
  have hb : atSplit b = none := by
    induction b with
    | nil => rfl
    | cons c r ih =>
      have hc : c ≠ 64 := h c (by simp)
      unfold atSplit
      rw [ih (fun d hd => h d (by simp [hd]))]
      simp [hc]
  induction a with
  | nil => show atSplit (64 :: b) = _; unfold atSplit; rw [hb]; simp
  | cons c r ih => show atSplit (c :: (r ++ 64 :: b)) = _; unfold atSplit; rw [ih]
theorem at_free (l : List UInt8) (h : ∀ c ∈ l, c ≠ 64) : atSplit l = none := by
  induction l with
  | nil => rfl
  | cons c r ih =>
    have hc : c ≠ 64 := h c (by simp)
    unfold atSplit
    rw [ih (fun d hd => h d (by simp [hd]))]
    simp [hc]
theorem data_at (l : List UInt8) (j : Nat) (hj : j < l.length) : (((mk l).data[j]!).toNat : Int) = (l[j].toNat : Int) := by
  have : (mk l).data = l.toArray := rfl
  rw [this, Array.getElem!_eq_getD, Array.getD_eq_getD_getElem?]
  simp [hj]
theorem last_none (l : List UInt8) (h : atSplit l = none) : Lib.lastIndexByte (mk l) 64 = -1 := by
  rcases Lib.lastIndexByte_spec (mk l) 64 with ⟨e, _⟩ | ⟨i, hi, e, hc, _⟩
  · exact e
  · rw [mk_size] at hi
    rw [data_at l i hi] at hc
    exact absurd (UInt8.toNat_inj.1 (by rw [show (64 : UInt8).toNat = 64 from rfl]; omega)) (at_none l h l[i] (List.getElem_mem hi))
theorem last_some (l a b : List UInt8) (h : atSplit l = some (a, b)) : Lib.lastIndexByte (mk l) 64 = (a.length : Int) := by
  obtain ⟨rfl, hb⟩ := at_some l a b h
  have hla : a.length < (a ++ 64 :: b).length := by simp
  have h64 : (((mk (a ++ 64 :: b)).data[a.length]!).toNat : Int) = 64 := by
    rw [data_at _ _ hla, List.getElem_append_right (Nat.le_refl _)]; simp
  rcases Lib.lastIndexByte_spec (mk (a ++ 64 :: b)) 64 with ⟨_, hn⟩ | ⟨i, hi, e, hc, hn⟩
  · exact absurd h64 (hn a.length (by rw [mk_size]; exact hla))
  · rw [e]
    rw [mk_size] at hi
    rcases Nat.lt_trichotomy i a.length with hlt | heq | hgt
    · exact absurd h64 (hn a.length hlt (by rw [mk_size]; exact hla))
    · rw [heq]
    · rw [data_at _ i hi] at hc
      have : (a ++ 64 :: b)[i] ∈ b := by
        rw [List.getElem_append_right (by omega)]
        obtain ⟨k, hk⟩ : ∃ k, i - a.length = k + 1 := ⟨i - a.length - 1, by omega⟩
        simp only [hk, List.getElem_cons_succ]
        exact List.getElem_mem _
      exact absurd (UInt8.toNat_inj.1 (by rw [show (64 : UInt8).toNat = 64 from rfl]; omega)) (hb _ this)

/-- What is behind the first colon. -/
def behind (l : List UInt8) : List UInt8 := (l.drop (upL [58] l).length).tail
theorem up_all (S l : List UInt8) (h : ∀ c ∈ l, among S c = false) : upL S l = l := by
  have := up_stop S l l.length (fun c hc => h c (List.mem_of_mem_take hc)) (fun c hc => by rw [List.getElem?_eq_none (Nat.le_refl _)] at hc; cases hc)
  rw [this, List.take_length]
theorem up_hit (S a b : List UInt8) (c : UInt8) (h : ∀ d ∈ a, among S d = false) (hc : among S c = true) : upL S (a ++ c :: b) = a := by
  have := up_stop S (a ++ c :: b) a.length (fun d hd => h d (by rw [List.take_left] at hd; exact hd)) (fun d hd => by
    rw [List.getElem?_append_right (Nat.le_refl _)] at hd; simp at hd; rw [← hd]; exact hc)
  rw [this, List.take_left]
theorem up_cases (S l : List UInt8) : (upL S l = l ∧ ∀ c ∈ l, among S c = false) ∨ ∃ a c b, l = a ++ c :: b ∧ upL S l = a ∧ among S c = true ∧ ∀ d ∈ a, among S d = false := by
  induction l with
  | nil => exact .inl ⟨rfl, by simp⟩
  | cons c r ih =>
    cases hc : among S c with
    | true => exact .inr ⟨[], c, r, rfl, by simp [upL, hc], hc, by simp⟩
    | false =>
      rcases ih with ⟨e, h⟩ | ⟨a, d, b, e, hu, hd, h⟩
      · refine .inl ⟨by unfold upL at e ⊢; rw [List.takeWhile_cons, if_pos (by simp [hc]), e], ?_⟩
        intro x hx; rcases List.mem_cons.1 hx with rfl | hx
        · exact hc
        · exact h x hx
      · refine .inr ⟨c :: a, d, b, by rw [e]; rfl, by unfold upL at hu ⊢; rw [List.takeWhile_cons, if_pos (by simp [hc]), hu], hd, ?_⟩
        intro x hx; rcases List.mem_cons.1 hx with rfl | hx
        · exact hc
        · exact h x hx
theorem among_one (b c : UInt8) : among [b] c = (c == b) := by rw [Bool.eq_iff_iff]; simp [among]
theorem cut_colon (l : List UInt8) : (Lib.cut l [58]).1 = upL [58] l ∧ (Lib.cut l [58]).2.1 = behind l := by
  have hi : Lib.index l [58] = Lib.indexByte l 58 := Lib.index_one l 58
  unfold Lib.cut behind
  rw [hi]
  rcases up_cases [58] l with ⟨e, h⟩ | ⟨a, c, b, e, hu, hc, h⟩
  · have hno : Lib.indexByte l 58 < 0 := by
      apply among_no
      cases hm : among l 58 with
      | false => rfl
      | true =>
        have : (58 : UInt8) ∈ l := by unfold among at hm; simpa using hm
        have := h 58 this
        simp [among] at this
    rw [if_neg (by omega), e]
    exact ⟨rfl, by simp⟩
  · have hc' : c = 58 := by simpa [among] using hc
    subst hc'
    have hx : Lib.indexByte l 58 = (a.length : Int) := by
      have h0 : 0 ≤ Lib.indexByte l 58 := among_yes (by rw [e]; simp [among])
      obtain ⟨o, ho⟩ := Int.eq_ofNat_of_zero_le h0
      obtain ⟨ho1, ho2⟩ := Lib.indexByte_some ho
      rw [ho]
      rcases Nat.lt_trichotomy o a.length with hlt | heq | hgt
      · exfalso
        rw [e, List.getElem?_append_left hlt, List.getElem?_eq_getElem hlt] at ho1
        have := h a[o] (List.getElem_mem hlt)
        simp at ho1
        rw [ho1] at this
        simp [among] at this
      · rw [heq]
      · exfalso
        exact ho2 a.length hgt (by rw [e, List.getElem?_append_right (Nat.le_refl _)]; simp)
    rw [hx, if_pos (by omega), hu, e]
    simp
/-- Who: up to the last at sign. -/
def whoP (p : P) (l : List UInt8) : P := match atSplit l with
  | some (a, _) => { p with us := wrT 4 (upL [58] a), pw := wrT 4 (behind a) }
  | none => p
def whereL (l : List UInt8) : List UInt8 := match atSplit l with
  | some (_, b) => b
  | none => l
/-- The host that HostGet answers, field by field. -/
def gk (l : List UInt8) : Int := if l.length ≤ 200 then hostKind (readL l) else 0
def gn (l : List UInt8) : ByteArray := if l.length ≤ 200 then hostName (readL l) else ⟨#[]⟩
def ga (l : List UInt8) : Int := if l.length ≤ 200 then hostAddr (readL l) else 0
theorem getAgg_eq (l : List UInt8) : getAgg l = .agg #[.int .i64 (gk l), .string (gn l), .int .i64 (ga l)] := by
  unfold getAgg gk gn ga
  by_cases h : l.length ≤ 200
  · rw [if_pos h, if_pos h, if_pos h, if_pos h]; rfl
  · rw [if_neg h, if_neg h, if_neg h, if_neg h]
def autB (p : P) (l : List UInt8) : Bool := getOk (upL [58] (whereL l)) && portB (behind (whereL l)) (ownZ p.sc)
def autQ (p : P) (l : List UInt8) : P := { whoP p l with hk := gk (upL [58] (whereL l)), hn := gn (upL [58] (whereL l)), ha := ga (upL [58] (whereL l)), po := portV (behind (whereL l)) (ownZ p.sc) }
def autP (p : P) (l : List UInt8) : Option P := if autB p l = true then some (autQ p l) else none
def hosP (p : P) (l : List UInt8) : Option P := (autP p (upL [47, 92, 63, 35] l)).map fun q => patP q (l.drop (upL [47, 92, 63, 35] l).length)
def slaP (p : P) (l : List UInt8) : Option P := hosP p (l.dropWhile (among [47, 92]))
/-- An address, read from its scheme on. -/
def schP (p : P) (l : List UInt8) : Option P :=
  if passB [58] (l.drop (upL [58] l).length) = true ∧ schL (low (upL [58] l)) = true then
    (if 0 ≤ ownZ (mk (low (upL [58] l))) then slaP { p with sc := mk (low (upL [58] l)), po := -1 } (l.drop ((upL [58] l).length + 1)) else some (opqP { p with sc := mk (low (upL [58] l)), po := -1 } (l.drop ((upL [58] l).length + 1))))
  else none
end Go.Proofs.YthjccpboecfdhabGreatDoor
end

section
set_option linter.unusedVariables false
set_option linter.unusedSimpArgs false
namespace Go.Proofs.YthjccpboecfdhabGreatDoor
open Go.RowKit Go.Shelf

theorem grownBy_drewN {a b : World} {row : Option Nat} (h : a.grownBy b row) (n : Nat) : a.grownBy (b.drewN n) row := ⟨h.os, h.tape, h.output, h.size, h.block⟩
theorem cutC (l : List UInt8) (m : Int) (w : World) (hl : l.length ≤ 1000) (hm : w.cell? ⟨1, 0, none⟩ = some (.int .i64 m)) :
    Calls Tryz.prog 97 #[.string (mk l), .string ⟨#[58]⟩] w fun e w' => ∃ f, e = .returned (.tuple #[.string (mk (upL [58] l)), .string (mk (behind l)), .bool f]) ∧ ∃ n, w' = w.drewN n := by
  refine (Tryz.strings_Cut (mk l) ⟨#[58]⟩ m w (by rw [mk_size]; omega) hm).mono ?_
  rintro e w' ⟨rfl, n, rfl⟩
  obtain ⟨e1, e2⟩ := cut_colon l
  refine ⟨(Lib.cut l [58]).2.2, ?_, n, rfl⟩
  show Ending.returned (.tuple #[.string (mk (Lib.cut l [58]).1), .string (mk (Lib.cut l [58]).2.1), .bool (Lib.cut l [58]).2.2]) = _
  rw [e1, e2]
theorem lastC (l : List UInt8) (w : World) (hl : l.length ≤ 1000) :
    Calls Tryz.prog 96 #[.string (mk l), .int .u8 64] w fun e w' => e = .returned (.int .i64 (Lib.lastIndexByte (mk l) 64)) ∧ w' = w := Tryz.strings_LastIndexByte (mk l) 64 (by rw [mk_size]; omega) w
theorem mk_take (a b : List UInt8) : (mk (a ++ b)).extract 0 a.length = mk a := by
  apply ByteArray.ext
  rw [ByteArray.data_extract]
  simp [mk]
theorem mk_drop (a b : List UInt8) (c : UInt8) : (mk (a ++ c :: b)).extract (a.length + 1) (mk (a ++ c :: b)).size = mk b := by
  apply ByteArray.ext
  rw [mk_size, ByteArray.data_extract]
  have e : a ++ c :: b = (a ++ [c]) ++ b := by simp
  rw [e]
  apply Array.ext'
  simp only [mk, List.extract_eq_take_drop, List.extract_toArray, List.size_toArray]
  simp
  exact List.take_of_length_le (by omega)
theorem behindC_le (l : List UInt8) : (behind l).length ≤ l.length := by
  unfold behind; rw [List.length_tail, List.length_drop]; omega
theorem whereL_le (l : List UInt8) : (whereL l).length ≤ l.length := by
  unfold whereL
  cases h : atSplit l with
  | none => exact Nat.le_refl _
  | some q =>
    obtain ⟨a, b⟩ := q
    obtain ⟨e, _⟩ := at_some l a b h
    rw [e]; simp; omega
theorem who_sc (p : P) (l : List UInt8) : (whoP p l).sc = p.sc := by
  unfold whoP; cases atSplit l <;> rfl

/-- What readAuthority answers: the state that follows, and the address. -/
def autF (p : P) (l : List UInt8) : Nat := if autB p l = true then 100 else 47
def autU (p : P) (l : List UInt8) : P := if autB p l = true then autQ p l else whoP p l

set_option maxHeartbeats 4000000 in
set_option maxRecDepth 100000 in
theorem readAuthority (g : Nat) (t : ByteArray) (i : Nat) (p : P) (v : Value) (x : Bool) (w : World) (h : UR g t i (p.u v) x w) (hE : Eof w) (hM : MaxL w) (hg : g ≠ 0) (hg2 : g ≠ 1) (hi : i ≤ t.size) (ht : t.size ≤ 1000)
    (L : List UInt8) (hL : upL [47, 92, 63, 35] (t.data.toList.drop i) = L) (K : Nat) (HK : Hid (K = autF p L)) (q : P) (HQ : Hid (q = autU p L)) :
    Calls Tryz.prog 70 #[.pointer (some ⟨g, 0, none⟩)] w fun e w' => e = .returned (.func (.func K) #[.pointer (some ⟨g, 0, none⟩)] #[]) ∧ UR g t (i + L.length) (q.u v) x w' ∧ w.grownBy w' (some g) := by
  have hgl := Rdr.lt h
  have H0 : Hid (UR g t i (p.u v) x w) := h
  have HE : Hid (∀ W, w.grownBy W (some g) → Eof W) := fun W k => hE.grown k hg
  have HM : Hid (∀ W, w.grownBy W (some g) → MaxL W) := fun W k => hM.grown k hg2
  have hul := up_len [47, 92, 63, 35] t i hi
  rw [hL] at hul
  have hLl : L.length ≤ 1000 := by omega
  have HL : Hid (upL (ByteArray.mk #[47, 92, 63, 35]).data.toList (t.data.toList.drop i) = L) := hL
  have HRL : Hid ((whereL L).length ≤ 1000) := by
    show _ ≤ _
    have := whereL_le L; omega
  have HSC : Hid (((whoP p L).u v).sc = p.sc) := who_sc p L
  obtain ⟨hk, hhk⟩ : ∃ k, k = gk (upL [58] (whereL L)) := ⟨_, rfl⟩
  obtain ⟨hn, hhn⟩ : ∃ k, k = gn (upL [58] (whereL L)) := ⟨_, rfl⟩
  obtain ⟨ha, hha⟩ : ∃ k, k = ga (upL [58] (whereL L)) := ⟨_, rfl⟩
  obtain ⟨ho, hho⟩ : ∃ k, k = getOk (upL [58] (whereL L)) := ⟨_, rfl⟩
  obtain ⟨po, hpo⟩ : ∃ k, k = portV (behind (whereL L)) (ownZ p.sc) := ⟨_, rfl⟩
  obtain ⟨pb, hpb⟩ : ∃ k, k = portB (behind (whereL L)) (ownZ p.sc) := ⟨_, rfl⟩
  obtain ⟨own, hown⟩ : ∃ k, k = ownZ p.sc := ⟨_, rfl⟩
  have CHO : Hid (∀ W, MaxL W → Calls Tryz.prog 98 #[.string (mk (upL [58] (whereL L)))] W fun e w' => e = .returned (.tuple #[.agg #[.int .i64 hk, .string hn, .int .i64 ha], .bool ho]) ∧ Below W.heap.size W w') := by
    intro W hW
    have hup := upL_le [58] (whereL L)
    have hRL := HRL.out
    refine (implHostGet (mk (upL [58] (whereL L))) W hW (by rw [mk_size]; omega)).mono ?_
    rintro e w' ⟨rfl, b⟩
    refine ⟨?_, b⟩
    rw [mk_data, getAgg_eq, hhk, hhn, hha, hho]
  have CSP : Hid (∀ W, Calls Tryz.prog 18 #[.string p.sc] W fun e w' => e = .returned (.int .i64 own) ∧ w' = W) := fun W => by rw [hown]; exact schemePort p.sc W
  have CPR : Hid (∀ W, Calls Tryz.prog 99 #[.string (mk (behind (whereL L))), .int .i64 own] W fun e w' => e = .returned (.tuple #[.int .i64 po, .bool pb]) ∧ Below W.heap.size W w') := by
    intro W
    have hbl := behindC_le (whereL L)
    have hRL := HRL.out
    rw [hpo, hpb, hown]
    exact portRead (mk (behind (whereL L))) (ownZ p.sc) W (by rw [mk_size]; omega)
  have HB : Hid ((ho = false → K = 47 ∧ q = whoP p L) ∧ (pb = false → K = 47 ∧ q = whoP p L) ∧ (ho = true → pb = true → K = 100 ∧ q = { whoP p L with hk := hk, hn := hn, ha := ha, po := po })) := by
    refine ⟨?_, ?_, ?_⟩
    · intro h
      have e : autB p L = false := by unfold autB; rw [← hho, h]; rfl
      rw [HK.out, HQ.out]; unfold autF autU; rw [e]; exact ⟨rfl, rfl⟩
    · intro h
      have e : autB p L = false := by unfold autB; rw [← hpb, h, Bool.and_false]
      rw [HK.out, HQ.out]; unfold autF autU; rw [e]; exact ⟨rfl, rfl⟩
    · intro h h'
      have e : autB p L = true := by unfold autB; rw [← hpb, h', ← hho, h]; rfl
      rw [HK.out, HQ.out]; unfold autF autU autQ; rw [e, hhk, hhn, hha, hpo]; exact ⟨rfl, rfl⟩
  clear h hE hL hhk hhn hha hho hpo hpb hown HK HQ
  cases hsp : atSplit L with
  | none =>
    have hla : Lib.lastIndexByte (mk L) 64 = -1 := last_none L hsp
    have CLA : Hid (∀ W, Calls Tryz.prog 96 #[.string (mk L), .int .u8 64] W fun e w' => e = .returned (.int .i64 (-1)) ∧ w' = W) := fun W => by rw [← hla]; exact lastC L W hLl
    have HWL : Hid (whereL L = L) := by show _ = _; unfold whereL; rw [hsp]
    have HWP : Hid (whoP p L = p) := by show _ = _; unfold whoP; rw [hsp]
    clear hsp hla
    go_enter Tryz.func70, Tryz.ntmps70
    go_wp2_with fail
    refine (upTo g t i _ ⟨#[47, 92, 63, 35]⟩ _ H0.out (HE.out _ (World.grownBy.refl w _)) hg hi ht).mono ?_
    rintro e W5 ⟨rfl, hR5, hG5⟩
    rw [HL.out] at hR5 ⊢
    have HU5 : Hid (UR g t (i + L.length) ((whoP p L).u v) x W5) := by rw [HWP.out]; exact hR5
    have HG5 : Hid (w.grownBy W5 (some g)) := hG5
    clear hR5 hG5 HL H0 HWP
    go_wp2_with fail
    refine (CLA.out _).mono ?_
    rintro e W5' ⟨rfl, hW5⟩
    have hW5' := hW5.symm
    subst hW5'
    have HX : Hid (mk L = mk (whereL L)) := by rw [HWL.out]; rfl
    clear HWL
    rw [HX.out]
    have hrl : (whereL L).length ≤ 1000 := HRL.out
    obtain ⟨m5, hm5⟩ := HM.out _ HG5.out
    go_wp2_with fail
    refine (cutC (whereL L) m5 _ hrl hm5).mono ?_
    rintro e W6 ⟨f6, rfl, n6, rfl⟩
    have HU6 : Hid (UR g t (i + L.length) ((whoP p L).u v) x (W5.drewN n6)) := HU5.out
    have HG6 : Hid (w.grownBy (W5.drewN n6) (some g)) := grownBy_drewN HG5.out n6
    clear HU5 HG5 hm5
    generalize W5.drewN n6 = W6 at *
    go_wp2_with fail
    refine (CHO.out _ (HM.out _ HG6.out)).mono ?_
    rintro e W7 ⟨rfl, d7⟩
    have hU7 : UR g t (i + L.length) ((whoP p L).u v) x W7 := HU6.out.grown d7 (Rdr.lt HU6.out)
    have HG7 : Hid (w.grownBy W7 (some g)) := grown_low HG6.out d7 HG6.out.size
    have hgl7 : g < W7.heap.size := Rdr.lt hU7
    have hU8 : UR g t (i + L.length) ((whoP p L).u v) x (W7.alloc (.cells #[.int .i64 hk, .string hn, .int .i64 ha] 24)) := Blk.alloc hU7 _
    have HG8 : Hid (w.grownBy (W7.alloc (.cells #[.int .i64 hk, .string hn, .int .i64 ha] 24)) (some g)) := grown_then HG7.out (World.grownBy_alloc W7 _ _)
    have c3 : (W7.alloc (.cells #[.int .i64 hk, .string hn, .int .i64 ha] 24)).cell? ⟨g, 3, none⟩ = some (.string p.sc) := (hU8.cell 0 _ rfl).trans (by rw [HSC.out])
    have HN8 : Hid (Blk W7.heap.size #[.int .i64 hk, .string hn, .int .i64 ha] 24 (W7.alloc (.cells #[.int .i64 hk, .string hn, .int .i64 ha] 24))) := Blk.new W7 _ _
    have HU8 : Hid (UR g t (i + L.length) ((whoP p L).u v) x (W7.alloc (.cells #[.int .i64 hk, .string hn, .int .i64 ha] 24))) := hU8
    have c7 := hU7.cell 0 _ rfl
    clear hU8 d7 HU6 HG6
    go_wp2_with fail
    refine (CSP.out _).mono ?_
    rintro e W8 ⟨rfl, hW8⟩
    have hW8' := hW8.symm
    subst hW8'
    go_wp2_with fail
    refine (CPR.out _).mono ?_
    rintro e W9 ⟨rfl, d9⟩
    have hU9 : UR g t (i + L.length) ((whoP p L).u v) x W9 := HU8.out.grown d9 (Rdr.lt HU8.out)
    have HG9 : Hid (w.grownBy W9 (some g)) := grown_low HG8.out d9 HG8.out.size
    have hN9 : Blk W7.heap.size #[.int .i64 hk, .string hn, .int .i64 ha] 24 W9 := HN8.out.below d9 (Blk.lt HN8.out)
    obtain ⟨j3, j4, j5, j6, j7, j8, j9, j10, j11, j12, j13, j14, j15, j16⟩ := hU9.all
    have f6' := hU9.free 6
    have f7' := hU9.free 7
    have f8' := hU9.free 8
    have f9' := hU9.free 9
    have h0 : W9.cell? ⟨W7.heap.size, 0, none⟩ = some (.int .i64 hk) := hN9.cell 0
    have h1 : W9.cell? ⟨W7.heap.size, 1, none⟩ = some (.string hn) := hN9.cell 1
    have h2 : W9.cell? ⟨W7.heap.size, 2, none⟩ = some (.int .i64 ha) := hN9.cell 2
    have HU9 : Hid (UR g t (i + L.length) ((whoP p L).u v) x W9) := hU9
    have hUa := hU9.set 3 (.int .i64 hk) ({ (whoP p L).u v with hk := hk }) x rfl
    have hUb := hUa.set 4 (.string hn) ({ (whoP p L).u v with hk := hk, hn := hn }) x rfl
    have hUc := hUb.set 5 (.int .i64 ha) ({ (whoP p L).u v with hk := hk, hn := hn, ha := ha }) x rfl
    have HUd : Hid (UR g t (i + L.length) ({ (whoP p L).u v with hk := hk, hn := hn, ha := ha, po := po }) x ((((W9.setCell ⟨g, 6, none⟩ (.int .i64 hk)).setCell ⟨g, 7, none⟩ (.string hn)).setCell ⟨g, 8, none⟩ (.int .i64 ha)).setCell ⟨g, 9, none⟩ (.int .i64 po))) := hUc.set 6 (.int .i64 po) _ x rfl
    have HGd : Hid (w.grownBy ((((W9.setCell ⟨g, 6, none⟩ (.int .i64 hk)).setCell ⟨g, 7, none⟩ (.string hn)).setCell ⟨g, 8, none⟩ (.int .i64 ha)).setCell ⟨g, 9, none⟩ (.int .i64 po)) (some g)) := grown_then (grown_then (grown_then (grown_then HG9.out (grown_set W9 g 6 _)) (grown_set _ g 7 _)) (grown_set _ g 8 _)) (grown_set _ g 9 _)
    clear hU9 hN9 hUa hUb hUc d9 HN8 HU8 HG8 hU7 HG7 c7
    have hne : g ≠ W7.heap.size := by omega
    cases ho with
    | false =>
      obtain ⟨hb1, hb2⟩ := HB.out.1 rfl
      have HKe : Hid (K = _) := hb1
      have HQe : Hid (q = _) := hb2
      clear HB hb1 hb2
      go_wp2
      go_ret
      rw [HKe.out, HQe.out]
      exact ⟨rfl, HU9.out, HG9.out⟩
    | true =>
      cases pb with
      | false =>
        obtain ⟨hb1, hb2⟩ := HB.out.2.1 rfl
        have HKe : Hid (K = _) := hb1
        have HQe : Hid (q = _) := hb2
        clear HB hb1 hb2
        go_wp2
        go_ret
        rw [HKe.out, HQe.out]
        exact ⟨rfl, HU9.out, HG9.out⟩
      | true =>
        obtain ⟨hb1, hb2⟩ := HB.out.2.2 rfl rfl
        have HKe : Hid (K = _) := hb1
        have HQe : Hid (q = _) := hb2
        clear HB hb1 hb2
        go_wp2
        go_ret
        rw [HKe.out, HQe.out]
        exact ⟨rfl, HUd.out, HGd.out⟩
  | some ab =>
    obtain ⟨a, b⟩ := ab
    have hla : Lib.lastIndexByte (mk L) 64 = (a.length : Int) := last_some L a b hsp
    have CLA : Hid (∀ W, Calls Tryz.prog 96 #[.string (mk L), .int .u8 64] W fun e w' => e = .returned (.int .i64 (a.length : Int)) ∧ w' = W) := fun W => by rw [← hla]; exact lastC L W hLl
    have HWL : Hid (whereL L = b) := by show _ = _; unfold whereL; rw [hsp]
    have HWP : Hid (whoP p L = { p with us := wrT 4 (upL [58] a), pw := wrT 4 (behind a) }) := by show _ = _; unfold whoP; rw [hsp]
    obtain ⟨hab, _⟩ := at_some L a b hsp
    have hal : a.length < L.length := by rw [hab]; simp
    have hal2 : a.length + 1 ≤ (mk L).size := by rw [mk_size]; omega
    have hx1 : (mk L).extract 0 a.length = mk a := by rw [hab]; exact mk_take a _
    have hx2 : (mk L).extract (a.length + 1) (mk L).size = mk (whereL L) := by
      rw [HWL.out]
      conv => lhs; rw [hab]
      exact mk_drop a b 64
    have hua := upL_le [58] a
    have hba := behindC_le a
    clear hsp hla hab HWL
    go_enter Tryz.func70, Tryz.ntmps70
    go_wp2_with fail
    refine (upTo g t i _ ⟨#[47, 92, 63, 35]⟩ _ H0.out (HE.out _ (World.grownBy.refl w _)) hg hi ht).mono ?_
    rintro e W1 ⟨rfl, hR1, hG1⟩
    rw [HL.out] at hR1 ⊢
    have HU1 : Hid (UR g t (i + L.length) (p.u v) x W1) := hR1
    have HG1 : Hid (w.grownBy W1 (some g)) := hG1
    clear hR1 hG1 HL H0
    obtain ⟨m1, hm1⟩ := HM.out _ HG1.out
    go_wp2_with fail
    refine (CLA.out _).mono ?_
    rintro e W1' ⟨rfl, rfl⟩
    go_wp2_with fail
    try rw [hx1]
    refine (cutC a m1 _ (by omega) hm1).mono ?_
    rintro e W2 ⟨f2, rfl, n2, rfl⟩
    have HU2 : Hid (UR g t (i + L.length) (p.u v) x (W1'.drewN n2)) := HU1.out
    have HG2 : Hid (w.grownBy (W1'.drewN n2) (some g)) := grownBy_drewN HG1.out n2
    clear HU1 HG1 hm1
    generalize W1'.drewN n2 = W2 at *
    go_wp2_with fail
    refine (encAt 4 (upL [58] a) _ (by omega)).mono ?_
    rintro e W3 ⟨rfl, d3⟩
    have hU3 : UR g t (i + L.length) (p.u v) x W3 := HU2.out.grown d3 (Rdr.lt HU2.out)
    have HG3 : Hid (w.grownBy W3 (some g)) := grown_low HG2.out d3 HG2.out.size
    have c4 : W3.cell? ⟨g, 4, none⟩ = some (.string p.us) := hU3.cell 1 _ rfl
    have f4 := hU3.free 4
    have HU3 : Hid (UR g t (i + L.length) ({ p with us := wrT 4 (upL [58] a) }.u v) x (W3.setCell ⟨g, 4, none⟩ (.string (wrT 4 (upL [58] a))))) := hU3.set 1 _ _ _ rfl
    have HG3' : Hid (w.grownBy (W3.setCell ⟨g, 4, none⟩ (.string (wrT 4 (upL [58] a)))) (some g)) := grown_then HG3.out (grown_set W3 g 4 _)
    clear hU3 HG3 d3 HU2 HG2
    go_wp2_with fail
    refine (encAt 4 (behind a) _ (by omega)).mono ?_
    rintro e W4 ⟨rfl, d4⟩
    have hU4 : UR g t (i + L.length) ({ p with us := wrT 4 (upL [58] a) }.u v) x W4 := HU3.out.grown d4 (Rdr.lt HU3.out)
    have HG4 : Hid (w.grownBy W4 (some g)) := grown_low HG3'.out d4 HG3'.out.size
    have c5 : W4.cell? ⟨g, 5, none⟩ = some (.string p.pw) := hU4.cell 2 _ rfl
    have f5 := hU4.free 5
    have HU5 : Hid (UR g t (i + L.length) ((whoP p L).u v) x (W4.setCell ⟨g, 5, none⟩ (.string (wrT 4 (behind a))))) := by
      rw [HWP.out]; exact hU4.set 2 _ _ _ rfl
    have HG5 : Hid (w.grownBy (W4.setCell ⟨g, 5, none⟩ (.string (wrT 4 (behind a)))) (some g)) := grown_then HG4.out (grown_set W4 g 5 _)
    clear hU4 HG4 d4 HU3 HG3' HWP c4 f4
    have hrl : (whereL L).length ≤ 1000 := HRL.out
    obtain ⟨m5, hm5⟩ := HM.out _ HG5.out
    go_wp2_with fail
    try rw [hx2]
    clear c5 f5
    generalize W4.setCell ⟨g, 5, none⟩ (.string (wrT 4 (behind a))) = W5 at *
    refine (cutC (whereL L) m5 _ hrl hm5).mono ?_
    rintro e W6 ⟨f6, rfl, n6, rfl⟩
    have HU6 : Hid (UR g t (i + L.length) ((whoP p L).u v) x (W5.drewN n6)) := HU5.out
    have HG6 : Hid (w.grownBy (W5.drewN n6) (some g)) := grownBy_drewN HG5.out n6
    clear HU5 HG5 hm5
    generalize W5.drewN n6 = W6 at *
    go_wp2_with fail
    refine (CHO.out _ (HM.out _ HG6.out)).mono ?_
    rintro e W7 ⟨rfl, d7⟩
    have hU7 : UR g t (i + L.length) ((whoP p L).u v) x W7 := HU6.out.grown d7 (Rdr.lt HU6.out)
    have HG7 : Hid (w.grownBy W7 (some g)) := grown_low HG6.out d7 HG6.out.size
    have hgl7 : g < W7.heap.size := Rdr.lt hU7
    have hU8 : UR g t (i + L.length) ((whoP p L).u v) x (W7.alloc (.cells #[.int .i64 hk, .string hn, .int .i64 ha] 24)) := Blk.alloc hU7 _
    have HG8 : Hid (w.grownBy (W7.alloc (.cells #[.int .i64 hk, .string hn, .int .i64 ha] 24)) (some g)) := grown_then HG7.out (World.grownBy_alloc W7 _ _)
    have c3 : (W7.alloc (.cells #[.int .i64 hk, .string hn, .int .i64 ha] 24)).cell? ⟨g, 3, none⟩ = some (.string p.sc) := (hU8.cell 0 _ rfl).trans (by rw [HSC.out])
    have HN8 : Hid (Blk W7.heap.size #[.int .i64 hk, .string hn, .int .i64 ha] 24 (W7.alloc (.cells #[.int .i64 hk, .string hn, .int .i64 ha] 24))) := Blk.new W7 _ _
    have HU8 : Hid (UR g t (i + L.length) ((whoP p L).u v) x (W7.alloc (.cells #[.int .i64 hk, .string hn, .int .i64 ha] 24))) := hU8
    have c7 := hU7.cell 0 _ rfl
    clear hU8 d7 HU6 HG6
    go_wp2_with fail
    refine (CSP.out _).mono ?_
    rintro e W8 ⟨rfl, hW8⟩
    have hW8' := hW8.symm
    subst hW8'
    go_wp2_with fail
    refine (CPR.out _).mono ?_
    rintro e W9 ⟨rfl, d9⟩
    have hU9 : UR g t (i + L.length) ((whoP p L).u v) x W9 := HU8.out.grown d9 (Rdr.lt HU8.out)
    have HG9 : Hid (w.grownBy W9 (some g)) := grown_low HG8.out d9 HG8.out.size
    have hN9 : Blk W7.heap.size #[.int .i64 hk, .string hn, .int .i64 ha] 24 W9 := HN8.out.below d9 (Blk.lt HN8.out)
    obtain ⟨j3, j4, j5, j6, j7, j8, j9, j10, j11, j12, j13, j14, j15, j16⟩ := hU9.all
    have f6' := hU9.free 6
    have f7' := hU9.free 7
    have f8' := hU9.free 8
    have f9' := hU9.free 9
    have h0 : W9.cell? ⟨W7.heap.size, 0, none⟩ = some (.int .i64 hk) := hN9.cell 0
    have h1 : W9.cell? ⟨W7.heap.size, 1, none⟩ = some (.string hn) := hN9.cell 1
    have h2 : W9.cell? ⟨W7.heap.size, 2, none⟩ = some (.int .i64 ha) := hN9.cell 2
    have HU9 : Hid (UR g t (i + L.length) ((whoP p L).u v) x W9) := hU9
    have hUa := hU9.set 3 (.int .i64 hk) ({ (whoP p L).u v with hk := hk }) x rfl
    have hUb := hUa.set 4 (.string hn) ({ (whoP p L).u v with hk := hk, hn := hn }) x rfl
    have hUc := hUb.set 5 (.int .i64 ha) ({ (whoP p L).u v with hk := hk, hn := hn, ha := ha }) x rfl
    have HUd : Hid (UR g t (i + L.length) ({ (whoP p L).u v with hk := hk, hn := hn, ha := ha, po := po }) x ((((W9.setCell ⟨g, 6, none⟩ (.int .i64 hk)).setCell ⟨g, 7, none⟩ (.string hn)).setCell ⟨g, 8, none⟩ (.int .i64 ha)).setCell ⟨g, 9, none⟩ (.int .i64 po))) := hUc.set 6 (.int .i64 po) _ x rfl
    have HGd : Hid (w.grownBy ((((W9.setCell ⟨g, 6, none⟩ (.int .i64 hk)).setCell ⟨g, 7, none⟩ (.string hn)).setCell ⟨g, 8, none⟩ (.int .i64 ha)).setCell ⟨g, 9, none⟩ (.int .i64 po)) (some g)) := grown_then (grown_then (grown_then (grown_then HG9.out (grown_set W9 g 6 _)) (grown_set _ g 7 _)) (grown_set _ g 8 _)) (grown_set _ g 9 _)
    clear hU9 hN9 hUa hUb hUc d9 HN8 HU8 HG8 hU7 HG7 c7
    have hne : g ≠ W7.heap.size := by omega
    cases ho with
    | false =>
      obtain ⟨hb1, hb2⟩ := HB.out.1 rfl
      have HKe : Hid (K = _) := hb1
      have HQe : Hid (q = _) := hb2
      clear HB hb1 hb2
      go_wp2
      go_ret
      rw [HKe.out, HQe.out]
      exact ⟨rfl, HU9.out, HG9.out⟩
    | true =>
      cases pb with
      | false =>
        obtain ⟨hb1, hb2⟩ := HB.out.2.1 rfl
        have HKe : Hid (K = _) := hb1
        have HQe : Hid (q = _) := hb2
        clear HB hb1 hb2
        go_wp2
        go_ret
        rw [HKe.out, HQe.out]
        exact ⟨rfl, HU9.out, HG9.out⟩
      | true =>
        obtain ⟨hb1, hb2⟩ := HB.out.2.2 rfl rfl
        have HKe : Hid (K = _) := hb1
        have HQe : Hid (q = _) := hb2
        clear HB hb1 hb2
        go_wp2
        go_ret
        rw [HKe.out, HQe.out]
        exact ⟨rfl, HUd.out, HGd.out⟩
end Go.Proofs.YthjccpboecfdhabGreatDoor
end

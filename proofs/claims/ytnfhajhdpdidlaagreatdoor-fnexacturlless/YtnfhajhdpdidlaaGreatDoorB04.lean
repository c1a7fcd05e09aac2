/- Lists of texts that came in or were made. Texts that lie in a block; a slice of texts that the call owns. Plain facts on strings.ReplaceAll. Nothing of any program. Plain facts on paths: their pieces, steps to themselves and back. Nothing of any program. impl.Lower and spec.Lower each give the text with small letters, of at most 2^46 bytes. -/
import Derived.Test.YtnfhajhdpdidlaaGreatDoorB01
import Derived.Test.YtnfhajhdpdidlaaGreatDoorB02
import Derived.BigQuiet
import Derived.Deep.QuietTactic
import Derived.OwnWalk
import Derived.WalkSmall
import Derived.Lib.Replace
set_option linter.unusedVariables false
set_option maxHeartbeats 1000000
set_option maxRecDepth 100000
section
namespace Go.Proofs.YtnfhajhdpdidlaaGreatDoor
open Go.RowKit Go.Shelf
def StrsOf (a : Option Addr) (len : Nat) (ss : List (List UInt8)) (w : World) : Prop :=
 len = ss.length ∧ (ss = [] ∨ ∃ b off, a = some ⟨b, off, none⟩ ∧ ∀ j (h : j < ss.length), w.cell? ⟨b, off + j, none⟩ = some (.string (mk ss[j])))
theorem cell_in {w : World} {p : Addr} {v : Value} (h : w.cell? p = some v) : p.block < w.heap.size := by
 rcases Nat.lt_or_ge p.block w.heap.size with h' | h'
 ·exact h'
 ·simp [World.cell?, Array.getElem?_eq_none h'] at h
theorem StrsOf.later {a : Option Addr} {len : Nat} {ss : List (List UInt8)} {w w' : World} (h : StrsOf a len ss w) (hb : Below w.heap.size w w') : StrsOf a len ss w' := by
 obtain ⟨hl, h⟩ := h
 refine ⟨hl, ?_⟩
 rcases h with h | ⟨b, off, ha, hc⟩
 ·exact .inl h
 ·refine .inr ⟨b, off, ha, fun j hj => ?_⟩
  rw [hb.cell (p := ⟨b, off + j, none⟩) (cell_in (hc j hj))]
  exact hc j hj
theorem StrsOf.drewN {a : Option Addr} {len : Nat} {ss : List (List UInt8)} {w : World} (h : StrsOf a len ss w) (n : Nat) : StrsOf a len ss (w.drewN n) := h
theorem StrsOf.at {a : Option Addr} {len : Nat} {ss : List (List UInt8)} {w : World} (h : StrsOf a len ss w) (k : Nat) (hk : k < ss.length) : ∃ b off z, a = some ⟨b, off, none⟩ ∧ w.cell? ⟨b, off + k, none⟩ = some (.string z) ∧ z = mk ss[k] ∧ z.size = ss[k].length := by
 rcases h.2 with h | ⟨b, off, ha, hc⟩
 ·subst h; simp at hk
 ·exact ⟨b, off, _, ha, hc k hk, rfl, mk_size _⟩
theorem addr_add_at (b off i : Nat) : (⟨b, off, none⟩ : Addr).add i = ⟨b, off + i, none⟩ := by unfold Addr.add; split <;> simp_all
theorem strs_open {w : World} {x : Addr} {len cap : Nat} {ss : List ByteArray} (hl : len ≤ cap) (hs : ss.length = cap) (hc : ∀ i, i < ss.length → w.cell? (x.add i) = some (.string (ss.getD i ByteArray.empty))) : StrsOf (some x) len ((ss.take len).map fun s => s.data.toList) w := by
 refine ⟨by simp; omega, ?_⟩
 by_cases h0 : len = 0
 ·subst h0; exact .inl rfl
 obtain ⟨b, off, spot⟩ := x
 have h1 := hc 0 (by omega)
 have hsp : spot = none := by simpa [Addr.add] using World.cell?_spot h1
 subst hsp
 refine .inr ⟨b, off, rfl, fun j hj => ?_⟩
 have hj' : j < len := by simp at hj; omega
 have h2 := hc j (by omega)
 rw [addr_add_at] at h2
 rw [h2]
 simp only [List.getElem_map, List.getElem_take]
 rw [mk_list, List.getD_eq_getElem?_getD, List.getElem?_eq_getElem (by omega)]; rfl
theorem infoStr : (Tryz.prog.info? 9).map (fun i => (i.zero, i.size, i.bytes)) = some (some (.string ⟨#[]⟩), 1, 16) := by kernel_rfl
def tot (ss : List (List UInt8)) : Nat := (ss.map List.length).sum
theorem tot_snoc (ss : List (List UInt8)) (k : Nat) (hk : k < ss.length) : tot (ss.take (k + 1)) = tot (ss.take k) + ss[k].length := by
 unfold tot; rw [List.take_succ_eq_append_getElem hk, List.map_append, List.sum_append]; rfl
end Go.Proofs.YtnfhajhdpdidlaaGreatDoor
end
section
namespace Go.Proofs.YtnfhajhdpdidlaaGreatDoor
open Go.RowKit Go.Shelf
def StrsAt (g : Nat) (ps : List (List UInt8)) (w : World) : Prop :=
 ∃ A t fr, w.heap[g]? = some (.cells A t fr) ∧ ∀ j (hj : j < ps.length), A[j]? = some (.string (mk ps[j]))
theorem StrsAt.cell {g : Nat} {ps : List (List UInt8)} {w : World} (h : StrsAt g ps w) (j : Nat) (hj : j < ps.length) : w.cell? ⟨g, j, none⟩ = some (.string (mk ps[j])) := by
 obtain ⟨A, t, fr, hg, hc⟩ := h
 rw [Lib.cell_of_heap hg]; exact hc j hj
theorem StrsAt.stays {g : Nat} {ps : List (List UInt8)} {w w' : World} (h : StrsAt g ps w) (hk : w'.heap[g]? = w.heap[g]?) : StrsAt g ps w' := by
 obtain ⟨A, t, fr, hg, hc⟩ := h
 exact ⟨A, t, fr, hk.trans hg, hc⟩
theorem StrsAt.less {g : Nat} {ps : List (List UInt8)} {w : World} (h : StrsAt g ps w) : StrsAt g ps.dropLast w := by
 obtain ⟨A, t, fr, hg, hc⟩ := h
 refine ⟨A, t, fr, hg, fun j hj => ?_⟩
 have hj' : j < ps.length := by rw [List.length_dropLast] at hj; omega
 rw [List.getElem_dropLast]; exact hc j hj'
theorem StrsAt.lt {g : Nat} {ps : List (List UInt8)} {w : World} (h : StrsAt g ps w) : g < w.heap.size := by
 obtain ⟨A, t, fr, hg, hc⟩ := h
 exact (Array.getElem?_eq_some_iff.1 hg).1
theorem strsAt_split (s : ByteArray) (w : World) : StrsAt w.heap.size (cutL 46 s.data.toList) (w.alloc (.cells ((Lib.splitB (mk [46]) 0 (Lib.countB s (mk [46])) s).map Value.string).toArray 9)) := by
 refine ⟨_, _, _, heap_alloc_new w _, fun j hj => ?_⟩
 rw [split_cut]
 simp [hj]
def OwnS (B : Nat) (v : Value) (ps : List (List UInt8)) (w : World) : Prop := w.ownsRow B 9 1 v ps.length (ps.map fun p => Value.string (mk p))
theorem ownS_new (w : World) (B : Nat) (hB : B ≤ w.heap.size) : OwnS B (.slice (some ⟨w.heap.size, 0, none⟩) 0 0) [] (w.alloc (.cells #[] 9)) :=
 ⟨rfl, .inr ⟨w.heap.size, 0, #[], rfl, hB, heap_alloc_new w _, Nat.le_refl _, Nat.zero_le _, rfl, rfl⟩⟩
theorem ownS_strs {B : Nat} {v : Value} {ps : List (List UInt8)} {w : World} (h : OwnS B v ps w) (hne : ps ≠ []) : ∃ g c, v = .slice (some ⟨g, 0, none⟩) ps.length c ∧ B ≤ g ∧ ps.length ≤ c ∧ StrsAt g ps w := by
 rcases h.2 with ⟨_, h0⟩ | ⟨g, cap, cur, hv, hb, hg, hnc, hcm, hcs, htake⟩
 ·exact absurd (List.length_eq_zero_iff.1 h0) hne
 ·refine ⟨g, cap, hv, hb, hnc, cur, _, _, hg, fun j hj => ?_⟩
  have : (cur.toList.take (ps.length * 1))[j]? = (ps.map fun p => Value.string (mk p))[j]? := by rw [htake]
  rw [List.getElem?_take] at this
  simp [hj] at this
  simpa using this
theorem wpAppendStr {ops : Array Oper} {rest : List Oper} {o : Oper} {a : Act} {Q : Exit → Act → World → Prop} (w0 : World) (hgd : o.guard = none) (s x : Operand)
  (ho : o.op = .call { callee := .builtin .append, args := #[s, x], argTypes := #[24, 24] })
  (B : Nat) (v : Value) (ps : List (List UInt8)) (p : List UInt8) (b : ByteArray) (hb : b = mk p) (hI : OwnS B v ps w0) (hs : a.eval s = v)
  (hx : a.eval x = .slice (some ⟨w0.heap.size, 0, none⟩) 1 1) (hlen : ps.length + 1 ≤ 1000000000000) (hB : B ≤ w0.heap.size)
  (h : ∀ v' w', OwnS B v' (ps ++ [p]) w' → Below B w0 w' → wpList Tryz.prog ops Q rest (a.put o.dst v') w') : wpList Tryz.prog ops Q (o :: rest) a (w0.alloc (.cells #[.string b] 9)) := by
 obtain ⟨i0, hi, hz0, hz1, hz2⟩ := info_parts infoStr
 refine wpList_append_own _ hgd s x 24 ho B 9 i0 (.string ⟨#[]⟩) 1 16 Tryz.underlying24 hi hz0 hz1 hz2 rfl (by decide) v ps.length (ps.map fun p => Value.string (mk p)) hs (World.ownsRow.alloc hI _) ⟨w0.heap.size, 0, none⟩ 1 1 [.string b] hx rfl ?c1 ?c2 ?c3 ?c4 ?c5 ?_
 case c1 =>
  intro j u hj
  rw [addr_add, Lib.cell_of_heap (heap_alloc_new w0 _)]
  simpa using hj
 case c2 => intro u hu; simp at hu; subst hu; rfl
 case c3 => unfold maxLen; omega
 case c4 => omega
 case c5 => simp; omega
 intro v' w1 hown hgrow _
 refine h v' w1 ?_ ?_
 ·unfold OwnS; rw [List.map_append, List.length_append]; subst hb; exact hown
 ·exact ((Below.refl B w0).alloc hB _).grown hgrow (by simp; omega) (fun k hk => (World.ownsRow.lt hI k hk).1)
end Go.Proofs.YtnfhajhdpdidlaaGreatDoor
end
section
namespace Go.Proofs.YtnfhajhdpdidlaaGreatDoor
open Go.RowKit
theorem rep_nil (old new : List UInt8) (h0 : old ≠ []) (h1 : old ≠ new) : Lib.replaceAll [] old new = [] := by
 have hi : Lib.index [] old = -1 := by
  unfold Lib.index
  rw [if_neg]
  cases old <;> simp_all
 unfold Lib.replaceAll Lib.replace
 rw [if_neg (by simpa using h1)]
 unfold Lib.replaceNum
 rw [if_pos (Or.inl (by decide)), Lib.count_miss hi]
 rfl
theorem rep_k (s old new : List UInt8) (h1 : old ≠ new) : Lib.replaceAll s old new = Lib.replaceK old new (Lib.count s old) s := by
 unfold Lib.replaceAll Lib.replace
 rw [if_neg (by simpa using h1)]
 unfold Lib.replaceNum
 rw [if_pos (Or.inl (by decide))]
theorem rep_hit (s old new : List UInt8) (h0 : old ≠ []) (h1 : old ≠ new) (i : Nat) (hi : Lib.index s old = i) : Lib.replaceAll s old new = s.take i ++ new ++ Lib.replaceAll (s.drop (i + old.length)) old new := by
 rw [rep_k s old new h1, rep_k _ old new h1, Lib.count_hit h0 hi, Nat.add_comm 1, Lib.replaceK_hit old new _ s i hi]
theorem rep_miss (s old new : List UInt8) (h1 : old ≠ new) (hi : Lib.index s old = -1) : Lib.replaceAll s old new = s := by
 rw [rep_k s old new h1, Lib.count_miss hi]; rfl
theorem rep_pre (b : UInt8) (l old new : List UInt8) (h0 : old ≠ []) (h1 : old ≠ new) (hp : old.isPrefixOf (b :: l) = true) : Lib.replaceAll (b :: l) old new = new ++ Lib.replaceAll ((b :: l).drop old.length) old new := by
 have hi : Lib.index (b :: l) old = ((0 : Nat) : Int) := by unfold Lib.index; rw [if_pos hp]; rfl
 rw [rep_hit _ old new h0 h1 0 hi]; simp
theorem rep_not (b : UInt8) (l old new : List UInt8) (h0 : old ≠ []) (h1 : old ≠ new) (hp : old.isPrefixOf (b :: l) = false) : Lib.replaceAll (b :: l) old new = b :: Lib.replaceAll l old new := by
 by_cases hm : Lib.index l old = -1
 ·have hi : Lib.index (b :: l) old = -1 := by unfold Lib.index; rw [if_neg (by simp [hp]), if_pos (by simp [hm])]
  rw [rep_miss _ old new h1 hi, rep_miss _ old new h1 hm]
 ·have hg := Lib.index_ge l old
  obtain ⟨i, hi⟩ : ∃ i : Nat, Lib.index l old = i := ⟨(Lib.index l old).toNat, by omega⟩
  have hi2 : Lib.index (b :: l) old = ((i + 1 : Nat) : Int) := by
   unfold Lib.index; rw [if_neg (by simp [hp]), if_neg (by simpa using hm), hi]; rfl
  rw [rep_hit _ old new h0 h1 (i + 1) hi2, rep_hit _ old new h0 h1 i hi, show i + 1 + old.length = (i + old.length) + 1 from by omega]
  simp
def turnL (b c : UInt8) (l : List UInt8) : List UInt8 := l.map fun x => if x = b then c else x
theorem rep_one (b c : UInt8) (h : b ≠ c) (l : List UInt8) : Lib.replaceAll l [b] [c] = turnL b c l := by
 induction l with
 | nil => rw [rep_nil _ _ (by simp) (by simpa using h)]; rfl
 | cons x l ih =>
  by_cases hx : x = b
  ·subst hx
   rw [rep_pre x l [x] [c] (by simp) (by simpa using h) (by simp [List.isPrefixOf])]
   simp [turnL] at ih ⊢
   exact ih
  ·rw [rep_not x l [b] [c] (by simp) (by simpa using h) (by simp [List.isPrefixOf]; exact fun e => hx e.symm), ih]
   simp [turnL, hx]
theorem turnL_len (b c : UInt8) (l : List UInt8) : (turnL b c l).length = l.length := by simp [turnL]
def dotL (l : List UInt8) : List UInt8 := Lib.replaceAll l [37, 50, 101] [46]
theorem dotL_nil : dotL [] = [] := rep_nil _ _ (by simp) (by decide)
theorem dotL_pre (l : List UInt8) : dotL (37 :: 50 :: 101 :: l) = 46 :: dotL l := by
 unfold dotL
 rw [rep_pre 37 (50 :: 101 :: l) [37, 50, 101] [46] (by simp) (by decide) (by simp [List.isPrefixOf])]
 simp
theorem dotL_not (b : UInt8) (l : List UInt8) (h : ∀ r, b :: l ≠ 37 :: 50 :: 101 :: r) : dotL (b :: l) = b :: dotL l := by
 unfold dotL
 refine rep_not b l _ _ (by simp) (by decide) ?_
 rw [Bool.eq_false_iff]
 intro hp
 rw [List.isPrefixOf_iff_prefix] at hp
 obtain ⟨t, ht⟩ := hp
 exact h t ht.symm
theorem dotL_cases (l : List UInt8) : l = [] ∨ (∃ r, l = 37 :: 50 :: 101 :: r ∧ dotL l = 46 :: dotL r) ∨ (∃ b r, l = b :: r ∧ dotL l = b :: dotL r) := by
 match l with
 | [] => exact .inl rfl
 | b :: r =>
  by_cases h : ∃ t, b :: r = 37 :: 50 :: 101 :: t
  ·obtain ⟨t, ht⟩ := h
   exact .inr (.inl ⟨t, ht, by rw [ht, dotL_pre]⟩)
  ·exact .inr (.inr ⟨b, r, rfl, dotL_not b r (fun t ht => h ⟨t, ht⟩)⟩)
theorem dotL_empty (l : List UInt8) (h : dotL l = []) : l = [] := by
 rcases dotL_cases l with h0 | ⟨r, _, h1⟩ | ⟨b, r, _, h1⟩
 ·exact h0
 ·rw [h1] at h; cases h
 ·rw [h1] at h; cases h
theorem dotL_one (l : List UInt8) : dotL l = [46] ↔ l = [46] ∨ l = [37, 50, 101] := by
 constructor
 ·intro h
  rcases dotL_cases l with h0 | ⟨r, hr, h1⟩ | ⟨b, r, hr, h1⟩
  ·rw [h0, dotL_nil] at h; cases h
  ·rw [h1] at h
   have := dotL_empty r (by simpa using h)
   right; rw [hr, this]
  ·rw [h1] at h
   obtain ⟨hb, h2⟩ := List.cons.inj h
   left; rw [hr, hb, dotL_empty r h2]
 ·rintro (rfl | rfl)
  ·rw [dotL_not _ _ (by intro r; simp), dotL_nil]
  ·rw [dotL_pre, dotL_nil]
theorem dotL_two (l : List UInt8) : dotL l = [46, 46] ↔ l = [46, 46] ∨ l = [46, 37, 50, 101] ∨ l = [37, 50, 101, 46] ∨ l = [37, 50, 101, 37, 50, 101] := by
 constructor
 ·intro h
  rcases dotL_cases l with h0 | ⟨r, hr, h1⟩ | ⟨b, r, hr, h1⟩
  ·rw [h0, dotL_nil] at h; cases h
  ·rw [h1] at h
   rcases (dotL_one r).1 (by simpa using h) with h2 | h2 <;> (rw [hr, h2]; simp)
  ·rw [h1] at h
   obtain ⟨hb, h2⟩ := List.cons.inj h
   rcases (dotL_one r).1 h2 with h3 | h3 <;> (rw [hr, hb, h3]; simp)
 ·rintro (rfl | rfl | rfl | rfl)
  ·rw [dotL_not _ _ (by intro r; simp), (dotL_one [46]).2 (by simp)]
  ·rw [dotL_not _ _ (by intro r; simp), (dotL_one _).2 (by simp)]
  ·rw [dotL_pre, (dotL_one [46]).2 (by simp)]
  ·rw [dotL_pre, (dotL_one _).2 (by simp)]
end Go.Proofs.YtnfhajhdpdidlaaGreatDoor
end
section
namespace Go.Proofs.YtnfhajhdpdidlaaGreatDoor
open Go.RowKit
def dots (p : List UInt8) : Nat :=
 if low p = [46] ∨ low p = [37, 50, 101] then 1
 else if low p = [46, 46] ∨ low p = [46, 37, 50, 101] ∨ low p = [37, 50, 101, 46] ∨ low p = [37, 50, 101, 37, 50, 101] then 2
 else 0
theorem dots_cases (p : List UInt8) : (dots p = 1 ∧ dotL (low p) = [46]) ∨ (dots p = 2 ∧ dotL (low p) = [46, 46]) ∨ (dots p = 0 ∧ dotL (low p) ≠ [46] ∧ dotL (low p) ≠ [46, 46]) := by
 unfold dots
 by_cases h1 : low p = [46] ∨ low p = [37, 50, 101]
 ·left; rw [if_pos h1]; exact ⟨rfl, (dotL_one _).2 h1⟩
 ·rw [if_neg h1]
  by_cases h2 : low p = [46, 46] ∨ low p = [46, 37, 50, 101] ∨ low p = [37, 50, 101, 46] ∨ low p = [37, 50, 101, 37, 50, 101]
  ·right; left; rw [if_pos h2]; exact ⟨rfl, (dotL_two _).2 h2⟩
  ·right; right; rw [if_neg h2]; exact ⟨rfl, fun e => h1 ((dotL_one _).1 e), fun e => h2 ((dotL_two _).1 e)⟩
def backL (path : List (List UInt8)) (p : List UInt8) : List (List UInt8) := if dots p = 2 then path.dropLast else path
def encT (p : List UInt8) : List UInt8 := enc (isIn 1) p
def stepL (path : List (List UInt8)) (p : List UInt8) (last : Bool) : List (List UInt8) :=
 if dots p = 0 then backL path p ++ [encT p] else if last then backL path p ++ [[]] else backL path p
def walkL : List (List UInt8) → List (List UInt8) → List (List UInt8)
 | path, [] => path
 | path, p :: ps => walkL (stepL path p ps.isEmpty) ps
def walkN (path : List (List UInt8)) (ps : List (List UInt8)) : List (List UInt8) := ps.foldl (fun a p => stepL a p false) path
theorem walkL_app (ps qs : List (List UInt8)) (hq : qs ≠ []) (path : List (List UInt8)) : walkL path (ps ++ qs) = walkL (walkN path ps) qs := by
 induction ps generalizing path with
 | nil => rfl
 | cons p ps ih =>
  have e : (ps ++ qs).isEmpty = false := by cases ps <;> simp_all
  show walkL (stepL path p (ps ++ qs).isEmpty) (ps ++ qs) = _
  rw [e, ih]; rfl
theorem walkN_snoc (ps : List (List UInt8)) (p : List UInt8) (path : List (List UInt8)) : walkN path (ps ++ [p]) = stepL (walkN path ps) p false := by simp [walkN]
theorem walkL_last (ps : List (List UInt8)) (p : List UInt8) (path : List (List UInt8)) : walkL path (ps ++ [p]) = stepL (walkN path ps) p true := by
 rw [walkL_app ps [p] (by simp)]; rfl
def walkTo (path : List (List UInt8)) (ps : List (List UInt8)) (k : Nat) : List (List UInt8) := if k < ps.length then walkN path (ps.take k) else walkL path ps
theorem walkTo_zero (path ps : List (List UInt8)) (h : ps ≠ []) : walkTo path ps 0 = path := by
 unfold walkTo; rw [if_pos (List.length_pos_iff.2 h)]; rfl
theorem walkTo_all (path ps : List (List UInt8)) : walkTo path ps ps.length = walkL path ps := by unfold walkTo; rw [if_neg (by omega)]
theorem walkTo_succ (path ps : List (List UInt8)) (k : Nat) (hk : k < ps.length) : walkTo path ps (k + 1) = stepL (walkTo path ps k) ps[k] (decide (k = ps.length - 1)) := by
 unfold walkTo
 rw [if_pos hk]
 by_cases h : k + 1 < ps.length
 ·rw [if_pos h, List.take_succ_eq_append_getElem hk, walkN_snoc, show decide (k = ps.length - 1) = false from by simp; omega]
 ·have e : ps.take (k + 1) = ps := List.take_of_length_le (by omega)
  rw [if_neg h]
  conv => lhs; rw [← e]
  rw [List.take_succ_eq_append_getElem hk, walkL_last, show decide (k = ps.length - 1) = true from by simp; omega]
def trim1 (l : List UInt8) : List UInt8 := if l.head? = some 47 then l.tail else l
def slashL (l : List UInt8) : List UInt8 := turnL 92 47 l
def piecesL (l : List UInt8) : List (List UInt8) := cutL 47 (trim1 (slashL l))
def pathL (l : List UInt8) : List (List UInt8) := if l.length ≤ 200 then walkL [] (piecesL l) else []
theorem pathL_small (l : List UInt8) (h : l.length ≤ 200) : pathL l = walkL [] (piecesL l) := if_pos h
theorem pathL_great (l : List UInt8) (h : ¬ l.length ≤ 200) : pathL l = [] := if_neg h
theorem trimPrefix_one (l : List UInt8) : Lib.trimPrefix l [47] = trim1 l := by
 unfold Lib.trimPrefix trim1 Lib.hasPrefix
 cases l with
 | nil => rfl
 | cons c r =>
  by_cases h : c = 47
  ·subst h; simp [List.isPrefixOf]
  ·have h' : ¬ (47 : UInt8) = c := fun e => h e.symm
   simp [List.isPrefixOf, h, h']
theorem trim1_len (l : List UInt8) : (trim1 l).length ≤ l.length := by
 unfold trim1; split <;> simp
theorem slashL_len (l : List UInt8) : (slashL l).length = l.length := turnL_len _ _ _
theorem slashL_cons (c : UInt8) (r : List UInt8) : slashL (c :: r) = (if c = 92 then 47 else c) :: slashL r := rfl
theorem trim_slash (c : UInt8) (r : List UInt8) (h : c = 47 ∨ c = 92) : trim1 (slashL (c :: r)) = slashL r := by
 rw [slashL_cons]
 have : (if c = 92 then (47 : UInt8) else c) = 47 := by rcases h with rfl | rfl <;> rfl
 rw [this]; rfl
theorem trim_not (c : UInt8) (r : List UInt8) (h1 : c ≠ 47) (h2 : c ≠ 92) : trim1 (slashL (c :: r)) = slashL (c :: r) := by
 rw [slashL_cons, if_neg h2]
 unfold trim1
 rw [if_neg (by simpa using h1)]
theorem piecesL_len (l : List UInt8) : (piecesL l).length ≤ l.length + 1 := by
 unfold piecesL
 have h1 := cutL_len_le 47 (trim1 (slashL l)); have h2 := trim1_len (slashL l); have h3 := slashL_len l; omega
theorem piecesL_mem (l : List UInt8) : ∀ q ∈ piecesL l, q.length ≤ l.length := by
 intro q hq
 have h1 := cutL_mem_le 47 (trim1 (slashL l)) q hq; have h2 := trim1_len (slashL l); have h3 := slashL_len l; omega
theorem piecesL_ne (l : List UInt8) : piecesL l ≠ [] := cutL_ne _ _
theorem backL_len (path : List (List UInt8)) (p : List UInt8) : (backL path p).length ≤ path.length := by
 unfold backL; split <;> simp
theorem stepL_len (path : List (List UInt8)) (p : List UInt8) (b : Bool) : (stepL path p b).length ≤ path.length + 1 := by
 have := backL_len path p
 unfold stepL; split
 ·simp; omega
 ·split
  ·simp; omega
  ·omega
theorem walkN_len (ps : List (List UInt8)) (path : List (List UInt8)) : (walkN path ps).length ≤ path.length + ps.length := by
 induction ps generalizing path with
 | nil => simp [walkN]
 | cons p ps ih =>
  have h1 := ih (stepL path p false)
  have h2 := stepL_len path p false
  have e : walkN path (p :: ps) = walkN (stepL path p false) ps := rfl
  rw [e, List.length_cons]; omega
theorem walkL_len (ps : List (List UInt8)) (path : List (List UInt8)) : (walkL path ps).length ≤ path.length + ps.length := by
 induction ps generalizing path with
 | nil => simp [walkL]
 | cons p ps ih =>
  have h1 := ih (stepL path p ps.isEmpty)
  have h2 := stepL_len path p ps.isEmpty
  have e : walkL path (p :: ps) = walkL (stepL path p ps.isEmpty) ps := rfl
  rw [e, List.length_cons]; omega
theorem walkTo_len (path ps : List (List UInt8)) (k : Nat) : (walkTo path ps k).length ≤ path.length + ps.length := by
 unfold walkTo
 split
 ·have h1 := walkN_len (ps.take k) path; have h2 := List.length_take_le' k ps; omega
 ·exact walkL_len ps path
end Go.Proofs.YtnfhajhdpdidlaaGreatDoor
end
section
namespace Go.Proofs.YtnfhajhdpdidlaaGreatDoor
open Go.RowKit Go.Shelf
theorem low_cells (s : ByteArray) (k : Nat) (h : k < s.size) : Lib.byteCells (low (s.data.toList.take (k + 1))) = Lib.byteCells (low (s.data.toList.take k)) ++ [.int .u8 ((lowB s[k]).toNat : Int)] := by
 rw [take_snoc s k h, low_snoc, Lib.byteCells_append]; rfl
theorem implLower (s : ByteArray) (w : World) (hs : s.size ≤ 70368744177664) :
  Calls Tryz.prog 93 #[.string s] w fun e w' => e = .returned (.string ⟨(low s.data.toList).toArray⟩) ∧ Below w.heap.size w w' := by
 go_enter Tryz.func93, Tryz.ntmps93
 go_wp2
 go_loopw [4] (fun i wr => ∃ k : Nat, k ≤ s.size ∧ i = .int .i64 k ∧ Lib.IsBuilderF 67 5 w.heap.size w.heap.size (Lib.byteCells (low (s.data.toList.take k))) wr ∧ Below w.heap.size w wr) (fun i wr => s.size - (intOf i).toNat)
 case atStart =>
  refine ⟨0, Nat.zero_le _, rfl, Lib.IsBuilderF.of (Lib.fresh_isBuilder _ _ w), (Below.refl _ w).alloc (Nat.le_refl _) _⟩
 case round =>
  obtain ⟨k, hk, rfl, hI, hbw⟩ := hrel
  have hsz : w.heap.size ≤ wr.heap.size := hbw.size
  by_cases hp : k < s.size
  ·have hb := u8_lt s[k]
   have hlen : (Lib.byteCells (low (s.data.toList.take k))).length + 1 ≤ 140737488355328 := by
    rw [Lib.byteCells_length, low_length]; have := List.length_take_le k s.data.toList; omega
   by_cases h1 : (65 : Int) ≤ (s[k].toNat : Int) ∧ (s[k].toNat : Int) ≤ 90
   ·obtain ⟨h1, h2⟩ := h1
    have HC : Hid (((lowB s[k]).toNat : Int) = (s[k].toNat : Int) + 32) := lowB_cap s[k] h1 h2
    go_wp2_with (go_at_call 45; refine (writeByte_k w.heap.size w.heap.size _ _ _ hI hlen hsz).mono ?_; rintro e W1 ⟨rfl, g1, b1, _⟩)
    go_roundw
    case rel => exact ⟨k + 1, by omega, by go_num, Or.inr (by rw [low_cells s k hp, HC.out]; exact g1), hbw.trans b1⟩
    case measure => simp [intOf]; omega
   ·have HC : Hid (lowB s[k] = s[k]) := lowB_not s[k] h1
    rcases (show (s[k].toNat : Int) < 65 ∨ ((65 : Int) ≤ (s[k].toNat : Int) ∧ 90 < (s[k].toNat : Int)) from by omega) with h2 | ⟨h2, h3⟩
    all_goals
     clear h1
     go_wp2_with (go_at_call 45; refine (writeByte_k w.heap.size w.heap.size _ _ _ hI hlen hsz).mono ?_; rintro e W1 ⟨rfl, g1, b1, _⟩)
     go_roundw
     case rel => exact ⟨k + 1, by omega, by go_num, Or.inr (by rw [low_cells s k hp, HC.out]; exact g1), hbw.trans b1⟩
     case measure => simp [intOf]; omega
  ·have hkk : k = s.size := by omega
   subst hkk
   rw [List.take_of_length_le (by simp)] at hI
   go_wp2_with (go_at_call 47; refine (Tryz.Builder_String_any_k w.heap.size w.heap.size _ _ hI hsz).mono ?_; rintro e W1 ⟨rfl, _, b1, _⟩)
   go_ret
   exact ⟨rfl, hbw.trans b1⟩
end Go.Proofs.YtnfhajhdpdidlaaGreatDoor
end

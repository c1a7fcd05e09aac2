/- Plain facts: a text cut at a byte; strings.Split at one point gives the same pieces. impl.urlReader's upTo and pass. Plain facts on figures to sixteen and on reading a text of figures. Nothing of any program. Plain facts on writing bytes of a set as figures. Nothing of any program. Figures, and writing byte by byte: what impl's and spec's way share. -/
import Derived.Lib.CutLaws
import Derived.Lib.SplitLaws
import Derived.Lib.CountLaws
import Derived.Lib.IndexMore
import Derived.Lib.Split
import Derived.WalkKit
import Derived.Test.YtnfhajhdpdidlaaGreatDoorB01
import Derived.Lib.IndexLaws
set_option linter.unusedVariables false
set_option maxHeartbeats 2000000
set_option maxRecDepth 100000
section
namespace Go.Proofs.YtnfhajhdpdidlaaGreatDoor
open Go.RowKit
def mk (l : List UInt8) : ByteArray := ⟨l.toArray⟩
theorem mk_list (s : ByteArray) : mk s.data.toList = s := by cases s; simp [mk]
theorem mk_data (l : List UInt8) : (mk l).data.toList = l := rfl
theorem mk_size (l : List UInt8) : (mk l).size = l.length := by show l.toArray.size = _; simp
def cutL (b : UInt8) : List UInt8 → List (List UInt8)
 | [] => [[]]
 | c :: r => if c = b then [] :: cutL b r else match cutL b r with
  | p :: ps => (c :: p) :: ps
  | [] => [[c]]
theorem cutL_ne (b : UInt8) (l : List UInt8) : cutL b l ≠ [] := by
 cases l with
 | nil => simp [cutL]
 | cons c r =>
  unfold cutL
  split
  ·simp
  ·split <;> simp
theorem cutL_b (b : UInt8) (r : List UInt8) : cutL b (b :: r) = [] :: cutL b r := by rw [cutL, if_pos rfl]
theorem cutL_c (b c : UInt8) (r p : List UInt8) (ps : List (List UInt8)) (h : c ≠ b) (hp : cutL b r = p :: ps) : cutL b (c :: r) = (c :: p) :: ps := by rw [cutL, if_neg h, hp]
theorem cutL_none (b : UInt8) (l : List UInt8) (h : ∀ c ∈ l, c ≠ b) : cutL b l = [l] := by
 induction l with
 | nil => rfl
 | cons c r ih => exact cutL_c b c r r [] (h c (by simp)) (ih (fun x hx => h x (by simp [hx])))
theorem cutL_hit (b : UInt8) (l r : List UInt8) (h : ∀ c ∈ l, c ≠ b) : cutL b (l ++ b :: r) = l :: cutL b r := by
 induction l with
 | nil => exact cutL_b b r
 | cons c l ih => exact cutL_c b c (l ++ b :: r) l (cutL b r) (h c (by simp)) (ih (fun x hx => h x (by simp [hx])))
theorem occ_one (s : List UInt8) (b : UInt8) (j : Nat) (hj : j < s.length) : Lib.occAt s [b] j = (b == s[j]) := by
 unfold Lib.occAt
 rw [List.drop_eq_getElem_cons hj]
 simp [List.isPrefixOf]
theorem split_cut_n (b : UInt8) : ∀ (n : Nat) (s : ByteArray), s.size ≤ n → Lib.splitB (mk [b]) 0 (Lib.countB s (mk [b])) s = (cutL b s.data.toList).map mk := by
 intro n
 induction n with
 | zero =>
  intro s hs
  have hl : s.data.toList.length = s.size := by simp
  have h0 : s.data.toList = [] := List.length_eq_zero_iff.1 (by omega)
  have hi : Lib.indexB s (mk [b]) = -1 := by
   show Lib.index s.data.toList [b] = -1
   rw [h0]; rfl
  rw [Lib.countB_miss s _ hi, Lib.splitB_zero, h0]
  show [s] = [mk []]
  rw [← h0, mk_list]
 | succ n ih =>
  intro s hs
  have hl : s.data.toList.length = s.size := by simp
  rcases Lib.index_spec s.data.toList [b] with ⟨hi, hno⟩ | ⟨i, hi, hil, ho, hno⟩
  ·have hi' : Lib.indexB s (mk [b]) = -1 := hi
   rw [Lib.countB_miss s _ hi', Lib.splitB_zero, cutL_none b s.data.toList]
   ·show [s] = [mk s.data.toList]
    rw [mk_list]
   ·intro c hc
    obtain ⟨j, hj, e⟩ := List.getElem_of_mem hc
    have := hno j (by omega)
    rw [occ_one _ _ _ hj] at this
    rw [← e]
    exact fun h => by rw [h] at this; simp at this
  ·have hi' : Lib.indexB s (mk [b]) = i := hi
   have hlt : i < s.data.toList.length := by
    rcases Nat.lt_or_ge i s.data.toList.length with h | h
    ·exact h
    ·have : i = s.data.toList.length := by omega
     unfold Lib.occAt at ho
     rw [List.drop_of_length_le h] at ho
     cases ho
   have hsi : s.data.toList[i] = b := by
    rw [occ_one _ _ _ hlt] at ho
    exact (beq_iff_eq.1 ho).symm
   rw [Lib.countB_hit s (mk [b]) i (by rw [mk_size]; simp) hi', Nat.add_comm 1, Lib.splitB_hit _ _ _ _ i hi']
   have hsz : (mk [b]).size = 1 := by rw [mk_size]; rfl
   rw [hsz, ih (s.extract (i + 1) s.size) (by rw [ByteArray.size_extract]; omega)]
   have e1 : s.extract 0 (i + 0) = mk (s.data.toList.take i) := by
    apply ByteArray.ext
    apply Array.ext'
    simp [mk, ByteArray.data_extract]
   have e2 : (s.extract (i + 1) s.size).data.toList = s.data.toList.drop (i + 1) := by
    simp only [ByteArray.data_extract, Array.toList_extract, List.extract_eq_take_drop]
    rw [List.take_of_length_le]
    simp
   have e3 : s.data.toList = s.data.toList.take i ++ b :: s.data.toList.drop (i + 1) := by
    conv => lhs; rw [← List.take_append_drop i s.data.toList, List.drop_eq_getElem_cons hlt, hsi]
   rw [e1, e2]
   conv => rhs; rw [e3]
   rw [cutL_hit b _ _ (by
    intro c hc
    obtain ⟨j, hj, e⟩ := List.getElem_of_mem hc
    have hj' : j < i := by simp at hj; omega
    have := hno j hj'
    rw [occ_one _ _ _ (by omega)] at this
    rw [← e, List.getElem_take]
    exact fun h => by rw [h] at this; simp at this)]
   rfl
theorem split_cut (b : UInt8) (s : ByteArray) : Lib.splitB (mk [b]) 0 (Lib.countB s (mk [b])) s = (cutL b s.data.toList).map mk := split_cut_n b s.size s (Nat.le_refl _)
theorem cut_len_n (b : UInt8) : ∀ (n : Nat) (s : ByteArray), s.size ≤ n → (cutL b s.data.toList).length = Lib.countB s (mk [b]) + 1 := by
 intro n
 induction n with
 | zero =>
  intro s hs
  have hl : s.data.toList.length = s.size := by simp
  have h0 : s.data.toList = [] := List.length_eq_zero_iff.1 (by omega)
  have hi : Lib.indexB s (mk [b]) = -1 := by
   show Lib.index s.data.toList [b] = -1
   rw [h0]; rfl
  rw [Lib.countB_miss s _ hi, h0]; rfl
 | succ n ih =>
  intro s hs
  have hl : s.data.toList.length = s.size := by simp
  rcases Lib.index_spec s.data.toList [b] with ⟨hi, hno⟩ | ⟨i, hi, hil, ho, hno⟩
  ·have hi' : Lib.indexB s (mk [b]) = -1 := hi
   rw [Lib.countB_miss s _ hi', cutL_none b s.data.toList]
   ·rfl
   ·intro c hc
    obtain ⟨j, hj, e⟩ := List.getElem_of_mem hc
    have := hno j (by omega)
    rw [occ_one _ _ _ hj] at this
    rw [← e]
    exact fun h => by rw [h] at this; simp at this
  ·have hi' : Lib.indexB s (mk [b]) = i := hi
   have hlt : i < s.data.toList.length := by
    rcases Nat.lt_or_ge i s.data.toList.length with h | h
    ·exact h
    ·unfold Lib.occAt at ho
     rw [List.drop_of_length_le h] at ho
     cases ho
   have hsi : s.data.toList[i] = b := by
    rw [occ_one _ _ _ hlt] at ho
    exact (beq_iff_eq.1 ho).symm
   rw [Lib.countB_hit s (mk [b]) i (by rw [mk_size]; simp) hi']
   have hsz : (mk [b]).size = 1 := by rw [mk_size]; rfl
   rw [hsz]
   have h1 := ih (s.extract (i + 1) s.size) (by rw [ByteArray.size_extract]; omega)
   have e2 : (s.extract (i + 1) s.size).data.toList = s.data.toList.drop (i + 1) := by
    simp only [ByteArray.data_extract, Array.toList_extract, List.extract_eq_take_drop]
    rw [List.take_of_length_le]
    simp
   have e3 : s.data.toList = s.data.toList.take i ++ b :: s.data.toList.drop (i + 1) := by
    conv => lhs; rw [← List.take_append_drop i s.data.toList, List.drop_eq_getElem_cons hlt, hsi]
   have e4 : cutL b s.data.toList = s.data.toList.take i :: cutL b (s.data.toList.drop (i + 1)) := by
    conv => lhs; rw [e3]
    exact cutL_hit b _ _ (by
     intro c hc
     obtain ⟨j, hj, e⟩ := List.getElem_of_mem hc
     have hj' : j < i := by simp at hj; omega
     have := hno j hj'
     rw [occ_one _ _ _ (by omega)] at this
     rw [← e, List.getElem_take]
     exact fun h => by rw [h] at this; simp at this)
   rw [e4, List.length_cons, ← e2, h1]
   omega
theorem cut_len (b : UInt8) (s : ByteArray) : (cutL b s.data.toList).length = Lib.countB s (mk [b]) + 1 := cut_len_n b s.size s (Nat.le_refl _)
def partsL (l : List UInt8) : List (List UInt8) := if 1 < (cutL 46 l).length ∧ (cutL 46 l).getLast (cutL_ne 46 l) = [] then (cutL 46 l).dropLast else cutL 46 l
theorem partsL_ne (l : List UInt8) : 1 ≤ (partsL l).length := by
 unfold partsL
 have := List.length_pos_iff.2 (cutL_ne 46 l)
 split
 ·rw [List.length_dropLast]; omega
 ·omega
theorem partsL_drop (l : List UInt8) (h1 : 1 < (cutL 46 l).length) (h2 : (cutL 46 l)[(cutL 46 l).length - 1]? = some []) : partsL l = (cutL 46 l).dropLast := by
 have h3 : (cutL 46 l).getLast (cutL_ne 46 l) = [] := by
  rw [List.getLast_eq_getElem]
  rw [List.getElem?_eq_getElem (by omega)] at h2
  exact Option.some.inj h2
 unfold partsL
 rw [if_pos ⟨h1, h3⟩]
theorem partsL_keep (l : List UInt8) (h : (cutL 46 l).length ≤ 1 ∨ (cutL 46 l)[(cutL 46 l).length - 1]? ≠ some []) : partsL l = cutL 46 l := by
 unfold partsL
 rw [if_neg]
 rintro ⟨h1, h2⟩
 rcases h with h | h
 ·omega
 ·rw [List.getLast_eq_getElem] at h2
  rw [List.getElem?_eq_getElem (by omega)] at h
  exact h (by rw [h2])
theorem cutL_len_le (b : UInt8) (l : List UInt8) : (cutL b l).length ≤ l.length + 1 := by
 induction l with
 | nil => simp [cutL]
 | cons c r ih =>
  by_cases h : c = b
  ·subst h; rw [cutL_b, List.length_cons, List.length_cons]; omega
  ·obtain ⟨p, ps, hp⟩ : ∃ p ps, cutL b r = p :: ps := by
    match hh : cutL b r with
    | [] => exact absurd hh (cutL_ne b r)
    | p :: ps => exact ⟨p, ps, rfl⟩
   rw [cutL_c b c r p ps h hp]
   rw [hp] at ih
   rw [List.length_cons] at ih ⊢
   rw [List.length_cons]; omega
theorem cutL_mem_le (b : UInt8) (l : List UInt8) : ∀ q ∈ cutL b l, q.length ≤ l.length := by
 induction l with
 | nil => intro q hq; simp [cutL] at hq; simp [hq]
 | cons c r ih =>
  intro q hq
  by_cases h : c = b
  ·subst h
   rw [cutL_b] at hq
   rcases List.mem_cons.1 hq with rfl | hq
   ·simp
   ·have := ih q hq; simp; omega
  ·obtain ⟨p, ps, hp⟩ : ∃ p ps, cutL b r = p :: ps := by
    match hh : cutL b r with
    | [] => exact absurd hh (cutL_ne b r)
    | p :: ps => exact ⟨p, ps, rfl⟩
   rw [cutL_c b c r p ps h hp] at hq
   rw [hp] at ih
   rcases List.mem_cons.1 hq with rfl | hq
   ·have := ih p (by simp); simp; omega
   ·have := ih q (by simp [hq]); simp; omega
theorem partsL_mem_le (l : List UInt8) : ∀ q ∈ partsL l, q.length ≤ l.length := by
 intro q hq
 unfold partsL at hq
 split at hq
 ·exact cutL_mem_le 46 l q (List.dropLast_subset _ hq)
 ·exact cutL_mem_le 46 l q hq
theorem partsL_len_le (l : List UInt8) : (partsL l).length ≤ l.length + 1 := by
 have := cutL_len_le 46 l
 unfold partsL
 split
 ·rw [List.length_dropLast]; omega
 ·exact this
end Go.Proofs.YtnfhajhdpdidlaaGreatDoor
end
section
namespace Go.Proofs.YtnfhajhdpdidlaaGreatDoor
open Go.RowKit Go.Shelf
def among (S : List UInt8) (c : UInt8) : Bool := S.contains c
theorem among_yes {S : List UInt8} {c : UInt8} (h : among S c = true) : 0 ≤ Lib.indexByte S c := by
 have hm : c ∈ S := by unfold among at h; simpa using h
 have := Lib.indexByte_ge S c
 rcases (show Lib.indexByte S c = -1 ∨ 0 ≤ Lib.indexByte S c by omega) with e | e
 ·obtain ⟨k, hk, e2⟩ := List.mem_iff_getElem.1 hm
  exact absurd (by rw [List.getElem?_eq_getElem hk, e2]) (Lib.indexByte_none e k)
 ·exact e
theorem among_no {S : List UInt8} {c : UInt8} (h : among S c = false) : Lib.indexByte S c < 0 := by
 have hm : ¬ c ∈ S := by unfold among at h; simpa using h
 rcases Int.lt_or_le (Lib.indexByte S c) 0 with e | e
 ·exact e
 ·obtain ⟨o, ho⟩ := Int.eq_ofNat_of_zero_le e
  exact absurd (List.mem_of_getElem? (Lib.indexByte_some ho).1) hm
def upL (S l : List UInt8) : List UInt8 := l.takeWhile (fun c => !among S c)
theorem up_stop (S l : List UInt8) (n : Nat) (h : ∀ c ∈ l.take n, among S c = false) (hn : ∀ c, l[n]? = some c → among S c = true) : upL S l = l.take n := by
 have e : l = l.take n ++ l.drop n := (List.take_append_drop n l).symm
 have e2 : upL S l = l.take n ++ (l.drop n).takeWhile (fun c => !among S c) := by
  unfold upL
  conv => lhs; rw [e]
  exact List.takeWhile_append_of_pos (fun c hc => by simp [h c hc])
 rw [e2]
 have e3 : (l.drop n).takeWhile (fun c => !among S c) = [] := by
  cases hd : l.drop n with
  | nil => rfl
  | cons c r =>
   have : l[n]? = some c := by rw [← List.head?_drop, hd]; rfl
   simp [hn c this]
 rw [e3, List.append_nil]
theorem indexAt (S : ByteArray) (c : UInt8) (w : World) : Calls Tryz.prog 117 #[.string S, .int .u8 (c.toNat : Int)] w fun e w' => e = .returned (.int .i64 (Lib.indexByte S.data.toList c)) ∧ w' = w := by
 have := Tryz.strings_IndexByte S (c.toNat : Int) w
 rw [show (c.toNat : Int).toNat.toUInt8 = c by simp] at this; exact this
def Eof (w : World) : Prop := ∃ te v, w.cell? ⟨1, 0, none⟩ = some (.iface te v)
theorem Eof.grown {w w' : World} {g : Nat} (h : Eof w) (hg : w.grownBy w' (some g)) (hne : g ≠ 1) : Eof w' := by
 obtain ⟨te, v, h⟩ := h
 refine ⟨te, v, ?_⟩
 have hl : 1 < w.heap.size := by
  rcases Nat.lt_or_ge 1 w.heap.size with h' | h'
  ·exact h'
  ·simp [World.cell?, Array.getElem?_eq_none h'] at h
 have : w'.heap[1]? = w.heap[1]? := hg.block 1 hl (by simp; omega)
 rw [← h]; unfold World.cell?; rw [this]
theorem Rdr.lt {g : Nat} {t : ByteArray} {i : Nat} {R : List Value} {T : TypeId} {w : World} (h : Rdr g t i R T w) : g < w.heap.size := Blk.lt h
theorem Rdr.below {g B : Nat} {t : ByteArray} {i : Nat} {R : List Value} {T : TypeId} {w w' : World} (h : Rdr g t i R T w) (b : Below B w w') (hB : g < B) : Rdr g t i R T w' := Blk.below h b hB
theorem grown_low {a b c : World} {row : Option Nat} {B : Nat} (h : a.grownBy b row) (k : Below B b c) (hB : a.heap.size ≤ B) : a.grownBy c row :=
 ⟨k.os.trans h.os, k.tape.trans h.tape, k.output.trans h.output, Nat.le_trans h.size k.size, fun j hj hn => (k.block j (by omega)).trans (h.block j hj hn)⟩
theorem bldAt_kept {T e : TypeId} {B b g : Nat} {p : Value} {bs : List Value} {w w' : World} (h : Lib.BuilderAtF T e B b p bs w) (hg : w.grownBy w' (some g)) (hgB : g < B) : Lib.BuilderAtF T e B b p bs w' := by
 have hlt := h.lt
 obtain ⟨hB, v, hbk, hown, hne⟩ := h
 refine ⟨hB, v, (hg.block b hlt (by simp; omega)).trans hbk, hown.kept hg ?_, hne⟩
 cases ho : v.ownBlock with
 | none => exact .inl rfl
 | some k => right; intro e; simp at e; have := (hown.lt k ho).1; omega
theorem bld_kept {T e : TypeId} {B b g : Nat} {bs : List Value} {w w' : World} (h : Lib.IsBuilderF T e B b bs w) (hg : w.grownBy w' (some g)) (hgB : g < B) : Lib.IsBuilderF T e B b bs w' := by
 rcases h with h | h
 ·exact .inl (bldAt_kept h hg hgB)
 ·exact .inr (bldAt_kept h hg hgB)
def placeOf (g : Nat) (w : World) : Nat := match w.cell? ⟨g, 1, none⟩ with
 | some v => (intOf v).toNat
 | none => 0
theorem Rdr.place {g : Nat} {t : ByteArray} {i : Nat} {R : List Value} {T : TypeId} {w : World} (h : Rdr g t i R T w) : placeOf g w = i := by
 unfold placeOf; rw [h.cells.2.1]; simp [intOf]
theorem upTo (g : Nat) (t : ByteArray) (i : Nat) (R : List Value) (S : ByteArray) (w : World) (h : Rdr g t i R 79 w) (hE : Eof w) (hg : g ≠ 1) (hi : i ≤ t.size) (ht : t.size ≤ 1000) :
  Calls Tryz.prog 89 #[.pointer (some ⟨g, 0, none⟩), .string S] w fun e w' => e = .returned (.string (mk (upL S.data.toList (t.data.toList.drop i)))) ∧ Rdr g t (i + (upL S.data.toList (t.data.toList.drop i)).length) R 79 w' ∧ w.grownBy w' (some g) := by
 have hgl := h.lt
 have H0 : Hid (Rdr g t i R 79 w) := h
 have HE : Hid (∀ W, w.grownBy W (some g) → Eof W) := fun W k => hE.grown k hg
 clear h hE
 go_enter Tryz.func89, Tryz.ntmps89
 go_wp2
 go_loopw [] (fun wr => ∃ k : Nat, i ≤ k ∧ k ≤ t.size ∧ Rdr g t k R 79 wr ∧ Lib.IsBuilderF 67 5 w.heap.size w.heap.size (Lib.byteCells ((t.data.toList.drop i).take (k - i))) wr ∧ Hid (∀ c ∈ (t.data.toList.drop i).take (k - i), among S.data.toList c = false) ∧ Hid (w.grownBy wr (some g))) (fun wr => t.size - placeOf g wr)
 case atStart =>
  refine ⟨i, Nat.le_refl _, hi, Blk.alloc H0.out _, ?_, ?_, World.grownBy_alloc w _ _⟩
  ·rw [Nat.sub_self]; exact Lib.IsBuilderF.of (Lib.fresh_isBuilder _ _ w)
  ·intro c hc; simp at hc
 case round =>
  obtain ⟨k, hik, hk, hR, hI, HA, HG⟩ := hrel
  have hsz : w.heap.size ≤ wr.heap.size := HG.out.size
  have hpl := hR.place
  have HPL : Hid (placeOf g wr = k) := hpl
  clear hpl
  obtain ⟨te, ve, hev⟩ := HE.out wr HG.out
  have HI : Hid (Lib.IsBuilderF 67 5 w.heap.size w.heap.size (Lib.byteCells ((t.data.toList.drop i).take (k - i))) wr) := hI
  have HR : Hid (Rdr g t k R 79 wr) := hR
  clear hR hI
  have hln : t.data.toList.length = t.size := by simp
  by_cases hp : k < t.size
  ·have HN : Hid ((t.data.toList.drop i)[k - i]? = some t[k]) := by
    show _ = _
    rw [List.getElem?_drop, show i + (k - i) = k by omega, List.getElem?_eq_getElem (by omega)]; rfl
   go_wp2_with fail
   refine (readByte_yes g t k R _ wr HR.out hp (by omega)).mono ?_
   rintro e W1 ⟨rfl, hR1, hG1⟩
   have HG1 : Hid (w.grownBy W1 (some g)) := grown_then HG.out hG1
   have HI1 : Hid (Lib.IsBuilderF 67 5 w.heap.size w.heap.size (Lib.byteCells ((t.data.toList.drop i).take (k - i))) W1) := bld_kept HI.out hG1 hgl
   have HR1 : Hid (Rdr g t (k + 1) R 79 W1) := hR1
   clear hR1 hG1
   cases ham : among S.data.toList t[k] with
   | true =>
    have hix := among_yes ham
    have HU : Hid (upL S.data.toList (t.data.toList.drop i) = (t.data.toList.drop i).take (k - i)) := up_stop _ _ _ HA.out (fun c hc => by rw [HN.out] at hc; simp at hc; rw [← hc]; exact ham)
    have HU2 : Hid (i + (upL S.data.toList (t.data.toList.drop i)).length = k) := by show _ = _; rw [HU.out, List.length_take, List.length_drop]; omega
    go_wp2_with fail
    refine (indexAt S t[k] _).mono ?_
    rintro e W2 ⟨rfl, rfl⟩
    go_wp2_with fail
    refine (unread g t k R _ _ HR1.out (by omega)).mono ?_
    rintro e W3 ⟨rfl, hR3, hG3⟩
    have HG3 : Hid (w.grownBy W3 (some g)) := grown_then HG1.out hG3
    have hI3 := bld_kept HI1.out hG3 hgl
    have HR3 : Hid (Rdr g t k R 79 W3) := hR3
    clear hR3 hG3
    have hsz3 : w.heap.size ≤ W3.heap.size := HG3.out.size
    go_wp2_with fail
    refine (Tryz.Builder_String_any_k w.heap.size w.heap.size _ _ hI3 hsz3).mono ?_
    rintro e W4 ⟨rfl, _, b4, _⟩
    go_wp2
    go_ret
    refine ⟨by rw [HU.out]; rfl, ?_, grown_low HG3.out b4 (Nat.le_refl _)⟩
    rw [HU2.out]; exact HR3.out.below b4 hgl
   | false =>
    have hix := among_no ham
    have hlen : (Lib.byteCells ((t.data.toList.drop i).take (k - i))).length + 1 ≤ 140737488355328 := by
     rw [Lib.byteCells_length, List.length_take]; omega
    have HT : Hid ((t.data.toList.drop i).take (k + 1 - i) = (t.data.toList.drop i).take (k - i) ++ [t[k]]) := by
     show _ = _
     rw [show k + 1 - i = k - i + 1 by omega, List.take_add_one, HN.out]; rfl
    go_wp2_with fail
    refine (indexAt S t[k] _).mono ?_
    rintro e W2 ⟨rfl, rfl⟩
    have hsz1 : w.heap.size ≤ W2.heap.size := HG1.out.size
    go_wp2_with fail
    refine (writeByte_k w.heap.size w.heap.size _ _ _ HI1.out hlen hsz1).mono ?_
    rintro e W3 ⟨rfl, g3, b3, _⟩
    have HR3 : Hid (Rdr g t (k + 1) R 79 W3) := HR1.out.below b3 hgl
    have HG3 : Hid (w.grownBy W3 (some g)) := grown_low HG1.out b3 (Nat.le_refl _)
    have HI3 : Hid (Lib.IsBuilderF 67 5 w.heap.size w.heap.size (Lib.byteCells ((t.data.toList.drop i).take (k + 1 - i))) W3) := Or.inr (by rw [HT.out, Lib.byteCells_append]; exact g3)
    clear g3 b3
    go_wp2
    go_roundw
    case rel =>
     refine ⟨k + 1, by omega, by omega, HR3.out, HI3.out, ?_, HG3⟩
     intro c hc
     rw [HT.out] at hc
     rcases List.mem_append.1 hc with hc | hc
     ·exact HA.out c hc
     ·simp at hc; rw [hc]; exact ham
    case measure => rw [HR3.out.place, HPL.out]; omega
  ·have hkk : t.size ≤ k := by omega
   have HU : Hid (upL S.data.toList (t.data.toList.drop i) = (t.data.toList.drop i).take (k - i)) := up_stop _ _ _ HA.out (fun c hc => by
    rw [List.getElem?_eq_none (by rw [List.length_drop]; omega)] at hc; simp at hc)
   have HU2 : Hid (i + (upL S.data.toList (t.data.toList.drop i)).length = k) := by show _ = _; rw [HU.out, List.length_take, List.length_drop]; omega
   go_wp2_with fail
   refine (readByte_end g t k R _ _ wr HR.out hev hkk (by omega)).mono ?_
   rintro e W1 ⟨rfl, rfl⟩
   go_wp2_with fail
   refine (Tryz.Builder_String_any_k w.heap.size w.heap.size _ wr.drew.drew HI.out hsz).mono ?_
   rintro e W4 ⟨rfl, _, b4, _⟩
   go_wp2
   go_ret
   refine ⟨by rw [HU.out]; rfl, ?_, grown_low (grownBy_drew (grownBy_drew HG.out)) b4 (Nat.le_refl _)⟩
   rw [HU2.out]; exact HR.out.drew.drew.below b4 hgl
def passB (S l : List UInt8) : Bool := match l with
 | [] => false
 | c :: _ => among S c
theorem pass_at (S : List UInt8) (t : ByteArray) (i : Nat) (h : i < t.size) : passB S (t.data.toList.drop i) = among S t[i] := by
 have hl : i < t.data.toList.length := by simpa using h
 rw [List.drop_eq_getElem_cons hl]; rfl
theorem pass_end (S : List UInt8) (t : ByteArray) (i : Nat) (h : t.size ≤ i) : passB S (t.data.toList.drop i) = false := by
 rw [List.drop_of_length_le (by simpa using h)]; rfl
theorem pass_yes (g : Nat) (t : ByteArray) (i : Nat) (R : List Value) (S : ByteArray) (w : World) (h : Rdr g t i R 79 w) (ht : t.size ≤ 1000) (hp : passB S.data.toList (t.data.toList.drop i) = true) :
  Calls Tryz.prog 90 #[.pointer (some ⟨g, 0, none⟩), .string S] w fun e w' => e = .returned (.bool true) ∧ Rdr g t (i + 1) R 79 w' ∧ w.grownBy w' (some g) := by
 have hi : i < t.size := by
  rcases Nat.lt_or_ge i t.size with h' | h'
  ·exact h'
  ·rw [pass_end _ _ _ h'] at hp; cases hp
 rw [pass_at _ _ _ hi] at hp
 have hix := among_yes hp
 have H0 : Hid (Rdr g t i R 79 w) := h
 clear h hp
 go_enter Tryz.func90, Tryz.ntmps90
 go_wp2_with fail
 refine (readByte_yes g t i R _ w H0.out hi (by omega)).mono ?_
 rintro e W1 ⟨rfl, hR1, hG1⟩
 have HR1 : Hid (Rdr g t (i + 1) R 79 W1) := hR1
 have HG1 : Hid (w.grownBy W1 (some g)) := hG1
 clear hR1 hG1
 go_wp2_with fail
 refine (indexAt S t[i] _).mono ?_
 rintro e W2 ⟨rfl, rfl⟩
 go_wp2
 go_ret
 exact ⟨rfl, HR1.out, HG1.out⟩
theorem pass_no (g : Nat) (t : ByteArray) (i : Nat) (R : List Value) (S : ByteArray) (w : World) (h : Rdr g t i R 79 w) (hE : Eof w) (hi9 : i ≤ t.size) (ht : t.size ≤ 1000) (hp : passB S.data.toList (t.data.toList.drop i) = false) :
  Calls Tryz.prog 90 #[.pointer (some ⟨g, 0, none⟩), .string S] w fun e w' => e = .returned (.bool false) ∧ Rdr g t i R 79 w' ∧ w.grownBy w' (some g) := by
 obtain ⟨te, ve, hev⟩ := hE
 have H0 : Hid (Rdr g t i R 79 w) := h
 clear h
 by_cases hi : i < t.size
 ·rw [pass_at _ _ _ hi] at hp
  have hix := among_no hp
  clear hp hev
  go_enter Tryz.func90, Tryz.ntmps90
  go_wp2_with fail
  refine (readByte_yes g t i R _ w H0.out hi (by omega)).mono ?_
  rintro e W1 ⟨rfl, hR1, hG1⟩
  have HR1 : Hid (Rdr g t (i + 1) R 79 W1) := hR1
  have HG1 : Hid (w.grownBy W1 (some g)) := hG1
  clear hR1 hG1
  go_wp2_with fail
  refine (indexAt S t[i] _).mono ?_
  rintro e W2 ⟨rfl, rfl⟩
  go_wp2_with fail
  refine (unread g t i R _ _ HR1.out (by omega)).mono ?_
  rintro e W3 ⟨rfl, hR3, hG3⟩
  have HR3 : Hid (Rdr g t i R 79 W3) := hR3
  have HG3 : Hid (w.grownBy W3 (some g)) := grown_then HG1.out hG3
  clear hR3 hG3
  go_wp2
  go_ret
  exact ⟨rfl, HR3.out, HG3.out⟩
 ·have hkk : t.size ≤ i := by omega
  clear hp hi
  go_enter Tryz.func90, Tryz.ntmps90
  go_wp2_with fail
  refine (readByte_end g t i R _ _ w H0.out hev hkk (by omega)).mono ?_
  rintro e W1 ⟨rfl, rfl⟩
  go_wp2
  go_ret
  exact ⟨rfl, H0.out.drew.drew, grownBy_drew (grownBy_drew (World.grownBy.refl w _))⟩
end Go.Proofs.YtnfhajhdpdidlaaGreatDoor
end
section
namespace Go.Proofs.YtnfhajhdpdidlaaGreatDoor
open Go.RowKit
def hexV (c : UInt8) : Int :=
 if 48 ≤ c.toNat ∧ c.toNat ≤ 57 then (c.toNat : Int) - 48
 else if 97 ≤ c.toNat ∧ c.toNat ≤ 102 then (c.toNat : Int) - 87
 else if 65 ≤ c.toNat ∧ c.toNat ≤ 70 then (c.toNat : Int) - 55
 else -1
theorem hexV_range (c : UInt8) : -1 ≤ hexV c ∧ hexV c ≤ 15 := by
 unfold hexV; split
 ·omega
 ·split
  ·omega
  ·split <;> omega
def esc (c a b : UInt8) : Bool := decide (c = 37) && decide (0 ≤ hexV a) && decide (0 ≤ hexV b)
def hexB (a b : UInt8) : UInt8 := UInt8.ofNat (16 * hexV a + hexV b).toNat
theorem hexB_val (a b : UInt8) (ha : 0 ≤ hexV a) (hb : 0 ≤ hexV b) : ((hexB a b).toNat : Int) = 16 * hexV a + hexV b := by
 have h1 := hexV_range a
 have h2 := hexV_range b
 unfold hexB
 rw [UInt8.toNat_ofNat']
 have : (16 * hexV a + hexV b).toNat < 256 := by omega
 rw [Nat.mod_eq_of_lt this]
 omega
def dec : List UInt8 → List UInt8
 | c :: a :: b :: r => if esc c a b then hexB a b :: dec r else c :: dec (a :: b :: r)
 | [c, a] => [c, a]
 | [c] => [c]
 | [] => []
theorem dec_esc (c a b : UInt8) (r : List UInt8) (h : esc c a b = true) : dec (c :: a :: b :: r) = hexB a b :: dec r := by
 rw [dec, if_pos h]
theorem dec_three (c a b : UInt8) (r : List UInt8) (h : esc c a b = false) : dec (c :: a :: b :: r) = c :: dec (a :: b :: r) := by
 rw [dec, if_neg (by rw [h]; exact Bool.false_ne_true)]
theorem dec_short (c : UInt8) (r : List UInt8) (h : r.length < 2) : dec (c :: r) = c :: dec r := by
 match r, h with
 | [], _ => simp [dec]
 | [a], _ => simp [dec]
def escAt (s : ByteArray) (k : Nat) : Bool := if h : k + 2 < s.size then esc s[k] s[k + 1] s[k + 2] else false
theorem esc_no0 (c a b : UInt8) (h : c ≠ 37) : esc c a b = false := by simp [esc, h]
theorem esc_no1 (c a b : UInt8) (h : hexV a < 0) : esc c a b = false := by
 have : ¬ (0 ≤ hexV a) := by omega
 simp [esc, this]
theorem esc_no2 (c a b : UInt8) (h : hexV b < 0) : esc c a b = false := by
 have : ¬ (0 ≤ hexV b) := by omega
 simp [esc, this]
theorem esc_yes (c a b : UInt8) (h : c = 37) (ha : 0 ≤ hexV a) (hb : 0 ≤ hexV b) : esc c a b = true := by simp [esc, h, ha, hb]
theorem escAt_of (s : ByteArray) (k : Nat) (h : k + 2 < s.size) : escAt s k = esc s[k] s[k + 1] s[k + 2] := by unfold escAt; rw [dif_pos h]
theorem escAt_end (s : ByteArray) (k : Nat) (h : ¬ k + 2 < s.size) : escAt s k = false := by unfold escAt; rw [dif_neg h]
theorem escAt_no0 (s : ByteArray) (k : Nat) (hk : k < s.size) (h : s[k] ≠ 37) : escAt s k = false := by
 unfold escAt; split
 ·exact esc_no0 _ _ _ h
 ·rfl
theorem drop_at (s : ByteArray) (k : Nat) (h : k < s.size) : s.data.toList.drop k = s[k] :: s.data.toList.drop (k + 1) := by
 rw [List.drop_eq_getElem_cons (by simpa using h)]; rfl
theorem dec_at_esc (s : ByteArray) (k : Nat) (h : k + 2 < s.size) (he : esc s[k] s[k + 1] s[k + 2] = true) : dec (s.data.toList.drop k) = hexB s[k + 1] s[k + 2] :: dec (s.data.toList.drop (k + 3)) := by
 rw [drop_at s k (by omega), drop_at s (k + 1) (by omega), drop_at s (k + 2) h, dec_esc _ _ _ _ he]
theorem dec_at_not (s : ByteArray) (k : Nat) (h : k < s.size) (he : escAt s k = false) : dec (s.data.toList.drop k) = s[k] :: dec (s.data.toList.drop (k + 1)) := by
 by_cases h2 : k + 2 < s.size
 ·rw [drop_at s k h, drop_at s (k + 1) (by omega), drop_at s (k + 2) h2]
  simp only [escAt, h2, dif_pos] at he
  rw [dec_three _ _ _ _ he]
 ·rw [drop_at s k h, dec_short]
  simp only [List.length_drop, Array.length_toList]
  have : s.data.size = s.size := rfl
  omega
theorem dec_length : ∀ (n : Nat) (l : List UInt8), l.length ≤ n → (dec l).length ≤ l.length
 | _, [], _ => by simp [dec]
 | _, [c], _ => by simp [dec]
 | _, [c, a], _ => by simp [dec]
 | 0, c :: a :: b :: r, h => by simp at h
 | n + 1, c :: a :: b :: r, h => by
  simp only [List.length_cons] at h
  cases he : esc c a b with
  | true =>
   rw [dec_esc _ _ _ _ he]
   have := dec_length n r (by omega)
   simp only [List.length_cons]; omega
  | false =>
   rw [dec_three _ _ _ _ he]
   have := dec_length n (a :: b :: r) (by simp only [List.length_cons]; omega)
   simp only [List.length_cons] at this ⊢; omega
theorem dec_le (l : List UInt8) : (dec l).length ≤ l.length := dec_length l.length l (Nat.le_refl _)
theorem dec_plain : ∀ (l : List UInt8), (∀ c ∈ l, c ≠ 37) → dec l = l
 | [], _ => by simp [dec]
 | [c], _ => by simp [dec]
 | [c, a], _ => by simp [dec]
 | c :: a :: b :: r, h => by
  rw [dec_three _ _ _ _ (esc_no0 c a b (h c (by simp)))]
  rw [dec_plain (a :: b :: r) (fun x hx => h x (List.mem_cons_of_mem c hx))]
end Go.Proofs.YtnfhajhdpdidlaaGreatDoor
end
section
namespace Go.Proofs.YtnfhajhdpdidlaaGreatDoor
open Go.RowKit
def setB (set : Int) : List UInt8 :=
 if set = 1 then [32, 34, 35, 60, 62, 63, 96, 123, 125]
 else if set = 2 then [32, 34, 35, 60, 62, 39]
 else if set = 3 then [32, 34, 60, 62, 96]
 else if set = 4 then [32, 34, 35, 60, 62, 63, 96, 123, 125, 47, 58, 59, 61, 64, 91, 92, 93, 94, 124]
 else if set = 5 then [32]
 else []
def hasB (l : List UInt8) (c : UInt8) : Bool := l.contains c
def figs : List UInt8 := [48, 49, 50, 51, 52, 53, 54, 55, 56, 57, 65, 66, 67, 68, 69, 70]
def fig (n : Nat) : UInt8 := figs.getD n 0
def isIn (set : Int) (c : UInt8) : Bool := decide (c.toNat < 32) || decide (126 < c.toNat) || hasB (setB set) c
def encB (P : UInt8 → Bool) (c : UInt8) : List UInt8 := if P c then [37, fig (c.toNat / 16), fig (c.toNat % 16)] else [c]
def enc (P : UInt8 → Bool) (l : List UInt8) : List UInt8 := l.flatMap (encB P)
theorem enc_snoc (P : UInt8 → Bool) (l : List UInt8) (c : UInt8) : enc P (l ++ [c]) = enc P l ++ encB P c := by simp [enc]
theorem encB_yes (P : UInt8 → Bool) (c : UInt8) (h : P c = true) : encB P c = [37, fig (c.toNat / 16), fig (c.toNat % 16)] := by simp [encB, h]
theorem encB_no (P : UInt8 → Bool) (c : UInt8) (h : P c = false) : encB P c = [c] := by simp [encB, h]
theorem encB_length (P : UInt8 → Bool) (c : UInt8) : (encB P c).length ≤ 3 := by unfold encB; split <;> simp
theorem enc_length (P : UInt8 → Bool) (l : List UInt8) : (enc P l).length ≤ 3 * l.length := by
 induction l with
 | nil => simp [enc]
 | cons c r ih =>
  have : enc P (c :: r) = encB P c ++ enc P r := by simp [enc]
  rw [this, List.length_append, List.length_cons]
  have := encB_length P c
  omega
end Go.Proofs.YtnfhajhdpdidlaaGreatDoor
end
section
namespace Go.Proofs.YtnfhajhdpdidlaaGreatDoor
open Go.RowKit Go.Shelf
theorem fig_at (n : Nat) (h : n < 16) (h' : n < (⟨#[48, 49, 50, 51, 52, 53, 54, 55, 56, 57, 65, 66, 67, 68, 69, 70]⟩ : ByteArray).size) : (⟨#[48, 49, 50, 51, 52, 53, 54, 55, 56, 57, 65, 66, 67, 68, 69, 70]⟩ : ByteArray)[n] = fig n := by
 match n, h with
 | 0, _ => rfl
 | 1, _ => rfl
 | 2, _ => rfl
 | 3, _ => rfl
 | 4, _ => rfl
 | 5, _ => rfl
 | 6, _ => rfl
 | 7, _ => rfl
 | 8, _ => rfl
 | 9, _ => rfl
 | 10, _ => rfl
 | 11, _ => rfl
 | 12, _ => rfl
 | 13, _ => rfl
 | 14, _ => rfl
 | 15, _ => rfl
 | n + 16, h => exact absurd h (by omega)
theorem l1Figure (x : Int) (w : World) (h0 : 0 ≤ x) (h1 : x < 16) : Calls Tryz.prog 160 #[.int .i64 x] w fun e w' => e = .returned (.int .u8 ((fig x.toNat).toNat : Int)) ∧ w' = w := by
 obtain ⟨n, rfl⟩ := Int.eq_ofNat_of_zero_le h0
 rw [Int.toNat_natCast]
 go_enter Tryz.func160, Tryz.ntmps160
 go_wp2
 go_ret
 exact ⟨ret_int (by rw [fig_at n (by omega)]), rfl⟩
theorem enc_take (P : UInt8 → Bool) (s : ByteArray) (k : Nat) (h : k < s.size) : enc P (s.data.toList.take (k + 1)) = enc P (s.data.toList.take k) ++ encB P s[k] := by
 rw [take_snoc s k h, enc_snoc]
theorem enc_take_len (P : UInt8 → Bool) (s : ByteArray) (k : Nat) : (enc P (s.data.toList.take k)).length ≤ 3 * k := by
 have := enc_length P (s.data.toList.take k)
 have := List.length_take_le k s.data.toList
 omega
theorem index_hasB (l : List UInt8) (c : UInt8) : decide (0 ≤ Lib.indexByte l c) = hasB l c := by
 unfold hasB
 induction l with
 | nil => simp [Lib.indexByte]
 | cons b l ih =>
  have hge := Lib.indexByte_ge l c
  rw [Lib.indexByte, List.contains_cons]
  by_cases h : b = c
  ·subst h; simp
  ·have e1 : (b == c) = false := beq_eq_false_iff_ne.2 h
   have e2 : (c == b) = false := beq_eq_false_iff_ne.2 (fun e => h e.symm)
   rw [e1, e2, Bool.false_or, ← ih]
   by_cases h2 : Lib.indexByte l c = -1
   ·simp [h2]
   ·have e3 : (Lib.indexByte l c == -1) = false := beq_eq_false_iff_ne.2 h2
    rw [e3]
    simp only [Bool.false_eq_true, if_false]
    rw [decide_eq_decide]
    omega
theorem u8_back (c : UInt8) : ((c.toNat : Int).toNat).toUInt8 = c := by simp
theorem cells_three (l : List UInt8) (a b : UInt8) : Lib.byteCells (l ++ [37, a, b]) = ((Lib.byteCells l ++ [.int .u8 37]) ++ [.int .u8 (a.toNat : Int)]) ++ [.int .u8 (b.toNat : Int)] := by
 rw [Lib.byteCells_append]; simp [Lib.byteCells]
theorem fig_shr (c : UInt8) : c.toNat / 16 < 16 ∧ c.toNat % 16 < 16 := by have := c.toNat_lt; omega
end Go.Proofs.YtnfhajhdpdidlaaGreatDoor
end

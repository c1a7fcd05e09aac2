/- impl.hasHost; impl.urlReader's state readScheme. A type switch over impl's two forms of hosts. impl.FourGet: an address of four bytes. impl.decodeAt reads a sign with two figures at a place of a text. impl.Decode reads a text of figures, of whatever size. -/
import Derived.Test.YtnfhajhdpdidlaaGreatDoorB08
import Derived.Test.YtnfhajhdpdidlaaGreatDoorB01
import Derived.Test.YtnfhajhdpdidlaaGreatDoorB07
import Derived.Test.YtnfhajhdpdidlaaGreatDoorB06
import Derived.BigQuiet
import Derived.Deep.QuietTactic
import Derived.WalkSmall
set_option linter.unusedVariables false
set_option maxHeartbeats 4000000
set_option maxRecDepth 100000
section
namespace Go.Proofs.YtnfhajhdpdidlaaGreatDoor
open Go.RowKit Go.Shelf
theorem hasHost (u : U) (w : World) :
  Calls Tryz.prog 67 #[.agg u.cells.toArray] w fun e w' => e = .returned (.bool (decide (0 ≤ ownZ u.sc))) ∧ Below w.heap.size w w' := by
 have hB0 : Below w.heap.size w (w.alloc (Obj.cells u.cells.toArray 31)) := (Below.refl _ w).alloc (Nat.le_refl _) _
 have CO : Hid (∀ W, Calls Tryz.prog 44 #[.string u.sc] W fun e w' => e = .returned (.int .i64 (ownZ u.sc)) ∧ w' = W) := fun W => schemePort u.sc W
 unfold U.cells at hB0 ⊢
 go_enter Tryz.func67, Tryz.ntmps67
 go_wp2_with fail
 refine (CO.out _).mono ?_
 rintro e W1 ⟨rfl, rfl⟩
 go_wp2
 go_ret
 exact ⟨rfl, hB0⟩
theorem UR.all {g : Nat} {t : ByteArray} {i : Nat} {u : U} {x : Bool} {w : World} (h : UR g t i u x w) :
  w.cell? ⟨g, 3, none⟩ = some (.string u.sc) ∧ w.cell? ⟨g, 4, none⟩ = some (.string u.us) ∧ w.cell? ⟨g, 5, none⟩ = some (.string u.pw) ∧ w.cell? ⟨g, 6, none⟩ = some (.int .i64 u.hk) ∧ w.cell? ⟨g, 7, none⟩ = some (.string u.hn) ∧ w.cell? ⟨g, 8, none⟩ = some (.int .i64 u.ha) ∧ w.cell? ⟨g, 9, none⟩ = some (.int .i64 u.po) ∧ w.cell? ⟨g, 10, none⟩ = some u.pa ∧ w.cell? ⟨g, 11, none⟩ = some (.string u.op) ∧ w.cell? ⟨g, 12, none⟩ = some (.bool u.hq) ∧ w.cell? ⟨g, 13, none⟩ = some (.string u.qu) ∧ w.cell? ⟨g, 14, none⟩ = some (.bool u.hf) ∧ w.cell? ⟨g, 15, none⟩ = some (.string u.fr) ∧ w.cell? ⟨g, 16, none⟩ = some (.bool x) :=
 ⟨h.cell 0 _ rfl, h.cell 1 _ rfl, h.cell 2 _ rfl, h.cell 3 _ rfl, h.cell 4 _ rfl, h.cell 5 _ rfl, h.cell 6 _ rfl, h.cell 7 _ rfl, h.cell 8 _ rfl, h.cell 9 _ rfl, h.cell 10 _ rfl, h.cell 11 _ rfl, h.cell 12 _ rfl, h.cell 13 _ rfl⟩
theorem readScheme_yes (g : Nat) (t : ByteArray) (i : Nat) (u : U) (x : Bool) (w : World) (h : UR g t i u x w) (hE : Eof w) (hg : g ≠ 1) (hi : i ≤ t.size) (ht : t.size ≤ 1000)
  (L : List UInt8) (hL : upL [58] (t.data.toList.drop i) = L) (hp : passB [58] (t.data.toList.drop (i + L.length)) = true) (hs : schL (low L) = true) (K : Nat) (HK : Hid (K = if 0 ≤ ownZ (mk (low L)) then 94 else 95)) :
  Calls Tryz.prog 57 #[.pointer (some ⟨g, 0, none⟩)] w fun e w' => e = .returned (.func (.func K) #[.pointer (some ⟨g, 0, none⟩)] #[]) ∧ UR g t (i + L.length + 1) { u with sc := mk (low L), po := -1 } x w' ∧ w.grownBy w' (some g) := by
 have hgl := Rdr.lt h
 have H0 : Hid (UR g t i u x w) := h
 have HE : Hid (∀ W, w.grownBy W (some g) → Eof W) := fun W k => hE.grown k hg
 have hul := up_len [58] t i hi
 rw [hL] at hul
 have hLl : L.length ≤ 1000 := by omega
 have HL : Hid (upL (ByteArray.mk #[58]).data.toList (t.data.toList.drop i) = L) := hL
 have CS : Hid (∀ W, Calls Tryz.prog 91 #[.string (mk L)] W fun e w' => e = .returned (.bool true) ∧ Below W.heap.size W w') := fun W => by rw [← hs]; exact isScheme L W hLl
 obtain ⟨S, hS⟩ : ∃ S, S = mk (low L) := ⟨_, rfl⟩
 have HSS : Hid (S = mk (low L)) := hS
 have HY : Hid (0 ≤ ownZ S → K = 94) := by intro h; rw [HK.out, ← hS, if_pos h]
 have HN : Hid (¬ 0 ≤ ownZ S → K = 95) := by intro h; rw [HK.out, ← hS, if_neg h]
 clear HK
 have CL : Hid (∀ W, Calls Tryz.prog 93 #[.string (mk L)] W fun e w' => e = .returned (.string S) ∧ Below W.heap.size W w') := fun W => by rw [hS]; exact implLower (mk L) W (by rw [mk_size]; omega)
 clear h hE hL hs hS
 go_enter Tryz.func57, Tryz.ntmps57
 go_wp2_with fail
 refine (upTo g t i _ ⟨#[58]⟩ _ H0.out (HE.out _ (World.grownBy.refl w _)) hg hi ht).mono ?_
 rintro e W1 ⟨rfl, hR1, hG1⟩
 rw [HL.out] at hR1 ⊢
 have HU1 : Hid (UR g t (i + L.length) u x W1) := hR1
 have HG1 : Hid (w.grownBy W1 (some g)) := hG1
 clear hR1 hG1 HL H0
 go_wp2_with fail
 refine (pass_yes g t (i + L.length) _ ⟨#[58]⟩ _ HU1.out ht hp).mono ?_
 rintro e W2 ⟨rfl, hR2, hG2⟩
 have HU2 : Hid (UR g t (i + L.length + 1) u x W2) := hR2
 have HG2 : Hid (w.grownBy W2 (some g)) := grown_then HG1.out hG2
 clear hR2 hG2 HU1 HG1
 go_wp2_with fail
 refine (CS.out _).mono ?_
 rintro e W3 ⟨rfl, d3⟩
 have HU3 : Hid (UR g t (i + L.length + 1) u x W3) := HU2.out.grown d3 (Rdr.lt HU2.out)
 have HG3 : Hid (w.grownBy W3 (some g)) := grown_low HG2.out d3 HG2.out.size
 clear d3 HU2 HG2
 go_wp2_with fail
 refine (CL.out _).mono ?_
 rintro e W4 ⟨rfl, d4⟩
 have hU4 : UR g t (i + L.length + 1) u x W4 := HU3.out.grown d4 (Rdr.lt HU3.out)
 have HG4 : Hid (w.grownBy W4 (some g)) := grown_low HG3.out d4 HG3.out.size
 clear d4 HU3 HG3
 have CH : Hid (∀ W, Calls Tryz.prog 67 #[.agg #[.string S, .string u.us, .string u.pw, .int .i64 u.hk, .string u.hn, .int .i64 u.ha, .int .i64 (-1), u.pa, .string u.op, .bool u.hq, .string u.qu, .bool u.hf, .string u.fr]] W fun e w' => e = .returned (.bool (decide (0 ≤ ownZ S))) ∧ Below W.heap.size W w') := fun W => hasHost { u with sc := S, po := -1 } W
 have c3 : W4.cell? ⟨g, 3, none⟩ = some (.string u.sc) := hU4.cell 0 _ rfl
 have f3 := hU4.free 3
 have c9 : W4.cell? ⟨g, 9, none⟩ = some (.int .i64 u.po) := hU4.cell 6 _ rfl
 have f9 := hU4.free 9
 have hU5 : UR g t (i + L.length + 1) { u with sc := S } x (W4.setCell ⟨g, 3, none⟩ (.string S)) := hU4.set 0 _ _ _ rfl
 have hU6 : UR g t (i + L.length + 1) { u with sc := S, po := -1 } x ((W4.setCell ⟨g, 3, none⟩ (.string S)).setCell ⟨g, 9, none⟩ (.int .i64 (-1))) := hU5.set 6 _ _ _ rfl
 have HG6 : Hid (w.grownBy ((W4.setCell ⟨g, 3, none⟩ (.string S)).setCell ⟨g, 9, none⟩ (.int .i64 (-1))) (some g)) := grown_then (grown_then HG4.out (grown_set W4 g 3 _)) (grown_set _ g 9 _)
 obtain ⟨k3, k4, k5, k6, k7, k8, k9, k10, k11, k12, k13, k14, k15, k16⟩ := hU6.all
 have HU6 : Hid (UR g t (i + L.length + 1) { u with sc := S, po := -1 } x ((W4.setCell ⟨g, 3, none⟩ (.string S)).setCell ⟨g, 9, none⟩ (.int .i64 (-1)))) := hU6
 clear hU4 hU5 hU6 HG4
 go_wp2_with fail
 refine (CH.out _).mono ?_
 rintro e W7 ⟨rfl, d7⟩
 have HU7 : Hid (UR g t (i + L.length + 1) { u with sc := S, po := -1 } x W7) := HU6.out.grown d7 (Rdr.lt HU6.out)
 have HG7 : Hid (w.grownBy W7 (some g)) := grown_low HG6.out d7 HG6.out.size
 clear d7 HU6 HG6 k3 k4 k5 k6 k7 k8 k9 k10 k11 k12 k13 k14 k15 k16 c3 c9 f3 f9
 by_cases ho : 0 ≤ ownZ S
 ·have ho' : decide (0 ≤ ownZ S) = true := decide_eq_true ho
  have HO : Hid (K = 94) := HY.out ho
  rw [ho']
  clear ho ho' HY HN
  go_wp2
  go_ret
  rw [← HSS.out, HO.out]
  exact ⟨rfl, HU7.out, HG7.out⟩
 ·have ho' : decide (0 ≤ ownZ S) = false := decide_eq_false ho
  have HO : Hid (K = 95) := HN.out (by omega)
  rw [ho']
  clear ho ho' HY HN
  go_wp2
  go_ret
  rw [← HSS.out, HO.out]
  exact ⟨rfl, HU7.out, HG7.out⟩
theorem readScheme_no (g : Nat) (t : ByteArray) (i : Nat) (u : U) (x : Bool) (w : World) (h : UR g t i u x w) (hE : Eof w) (hg : g ≠ 1) (hi : i ≤ t.size) (ht : t.size ≤ 1000)
  (L : List UInt8) (hL : upL [58] (t.data.toList.drop i) = L) (hs : passB [58] (t.data.toList.drop (i + L.length)) = false ∨ schL (low L) = false) :
  Calls Tryz.prog 57 #[.pointer (some ⟨g, 0, none⟩)] w fun e w' => e = .returned (.func (.func 92) #[.pointer (some ⟨g, 0, none⟩)] #[]) ∧ (∃ j, j ≤ t.size ∧ UR g t j u x w') ∧ w.grownBy w' (some g) := by
 have hgl := Rdr.lt h
 have H0 : Hid (UR g t i u x w) := h
 have HE : Hid (∀ W, w.grownBy W (some g) → Eof W) := fun W k => hE.grown k hg
 have hul := up_len [58] t i hi
 rw [hL] at hul
 have hLl : L.length ≤ 1000 := by omega
 have HL : Hid (upL (ByteArray.mk #[58]).data.toList (t.data.toList.drop i) = L) := hL
 have HS : Hid (passB [58] (t.data.toList.drop (i + L.length)) = true → schL (low L) = false) := by
  intro h
  rcases hs with e | e
  ·rw [h] at e; cases e
  ·exact e
 clear h hE hL hs
 go_enter Tryz.func57, Tryz.ntmps57
 go_wp2_with fail
 refine (upTo g t i _ ⟨#[58]⟩ _ H0.out (HE.out _ (World.grownBy.refl w _)) hg hi ht).mono ?_
 rintro e W1 ⟨rfl, hR1, hG1⟩
 rw [HL.out] at hR1 ⊢
 have HU1 : Hid (UR g t (i + L.length) u x W1) := hR1
 have HG1 : Hid (w.grownBy W1 (some g)) := hG1
 clear hR1 hG1 HL H0
 cases hp : passB [58] (t.data.toList.drop (i + L.length)) with
 | false =>
  go_wp2_with fail
  refine (pass_no g t (i + L.length) _ ⟨#[58]⟩ _ HU1.out (HE.out _ HG1.out) hul ht hp).mono ?_
  rintro e W2 ⟨rfl, hR2, hG2⟩
  have HU2 : Hid (UR g t (i + L.length) u x W2) := hR2
  have HG2 : Hid (w.grownBy W2 (some g)) := grown_then HG1.out hG2
  clear hR2 hG2 HU1 HG1
  go_wp2
  go_ret
  exact ⟨rfl, ⟨_, hul, HU2.out⟩, HG2.out⟩
 | true =>
  have hs := HS.out hp
  have CS : Hid (∀ W, Calls Tryz.prog 91 #[.string (mk L)] W fun e w' => e = .returned (.bool false) ∧ Below W.heap.size W w') := fun W => by rw [← hs]; exact isScheme L W hLl
  have hul2 := pass_lt hp
  clear hs
  go_wp2_with fail
  refine (pass_yes g t (i + L.length) _ ⟨#[58]⟩ _ HU1.out ht hp).mono ?_
  rintro e W2 ⟨rfl, hR2, hG2⟩
  have HU2 : Hid (UR g t (i + L.length + 1) u x W2) := hR2
  have HG2 : Hid (w.grownBy W2 (some g)) := grown_then HG1.out hG2
  clear hR2 hG2 HU1 HG1
  go_wp2_with fail
  refine (CS.out _).mono ?_
  rintro e W3 ⟨rfl, d3⟩
  have HU3 : Hid (UR g t (i + L.length + 1) u x W3) := HU2.out.grown d3 (Rdr.lt HU2.out)
  have HG3 : Hid (w.grownBy W3 (some g)) := grown_low HG2.out d3 HG2.out.size
  clear d3 HU2 HG2
  go_wp2
  go_ret
  exact ⟨rfl, ⟨_, hul2, HU3.out⟩, HG3.out⟩
end Go.Proofs.YtnfhajhdpdidlaaGreatDoor
end
section
namespace Go.Proofs.YtnfhajhdpdidlaaGreatDoor
open Go.RowKit Go.Shelf
theorem ta_named (v : Value) (w : World) : (Instr.typeAssert (.iface 137 v) 121 137 true).run Tryz.prog w = .ok (.tuple #[v, .bool true]) w := by
 simp [Instr.typeAssert, run_underlying Tryz.underlying137, go_sem, Result.andThen]
theorem ta_numbered (v : Value) (w : World) : (Instr.typeAssert (.iface 138 v) 121 138 true).run Tryz.prog w = .ok (.tuple #[v, .bool true]) w := by
 simp [Instr.typeAssert, run_underlying Tryz.underlying138, go_sem, Result.andThen]
theorem zeroNamed : Tryz.t137.zero = some (.string ⟨#[]⟩) := by kernel_rfl
theorem zeroNumbered : Tryz.t138.zero = some (.int .i64 0) := by kernel_rfl
theorem ta_miss (v : Value) (w : World) : (Instr.typeAssert (.iface 138 v) 121 137 true).run Tryz.prog w = .ok (.tuple #[.string ⟨#[]⟩, .bool false]) w := by
 simp [Instr.typeAssert, run_underlying Tryz.underlying137, zeroValue, zeroNamed, go_sem, Result.andThen]
theorem ta_nil1 (w : World) : (Instr.typeAssert .nilIface 121 137 true).run Tryz.prog w = .ok (.tuple #[.string ⟨#[]⟩, .bool false]) w := by
 simp [Instr.typeAssert, run_underlying Tryz.underlying137, zeroValue, zeroNamed, go_sem, Result.andThen]
theorem ta_nil2 (w : World) : (Instr.typeAssert .nilIface 121 138 true).run Tryz.prog w = .ok (.tuple #[.int .i64 0, .bool false]) w := by
 simp [Instr.typeAssert, run_underlying Tryz.underlying138, zeroValue, zeroNumbered, go_sem, Result.andThen]
end Go.Proofs.YtnfhajhdpdidlaaGreatDoor
end
section
namespace Go.Proofs.YtnfhajhdpdidlaaGreatDoor
open Go.RowKit Go.Shelf
theorem digs_le (base : Int) (hb0 : 0 ≤ base) (hb : base ≤ 16) : ∀ (l : List UInt8) (n m : Int), 0 ≤ n → n ≤ 68719476735 → digs base n l = some m → m ≤ 68719476735 := by
 intro l
 induction l with
 | nil => intro n m hn hn2 h; simp [digs] at h; omega
 | cons c r ih =>
  intro n m hn hn2 h
  by_cases hc : hexV c < 0 ∨ base ≤ hexV c ∨ 4294967295 < n
  ·rw [digs_no _ _ _ _ hc] at h; cases h
  ·rw [digs_yes _ _ _ _ hc] at h
   have h1 := Int.mul_nonneg hn hb0
   have h2 : n * base ≤ 4294967295 * 16 := Int.mul_le_mul (by omega) hb hb0 (by omega)
   have := hexV_range c
   exact ih _ _ (by omega) (by omega) h
theorem partN_le (l : List UInt8) (m : Int) (h : partN l = some m) : m ≤ 68719476735 := by
 unfold partN at h
 (repeat' split at h)
 ·cases h
 ·exact digs_le 16 (by omega) (by omega) _ _ _ (Int.le_refl _) (by omega) h
 ·exact digs_le 8 (by omega) (by omega) _ _ _ (Int.le_refl _) (by omega) h
 ·exact digs_le 10 (by omega) (by omega) _ _ _ (Int.le_refl _) (by omega) h
theorem drop_four (P : List (List UInt8)) (i : Nat) (h : i < P.length) : P.drop i = P[i] :: P.drop (i + 1) := List.drop_eq_getElem_cons h
theorem part_two (q : List UInt8) (W : World) (hq : q.length ≤ 1000000) :
  (partN q = none ∧ Calls Tryz.prog 179 #[.string (mk q)] W fun e w' => e = .returned (.tuple #[.int .i64 0, .bool false]) ∧ ∃ n, w' = W.drewN n) ∨
  (∃ v, partN q = some v ∧ 0 ≤ v ∧ v ≤ 68719476735 ∧ Calls Tryz.prog 179 #[.string (mk q)] W fun e w' => e = .returned (.tuple #[.int .i64 v, .bool true]) ∧ ∃ n, w' = W.drewN n) := by
 have h := partNumber (mk q) W (by rw [mk_size]; exact hq)
 cases hp : partN q with
 | none =>
  obtain ⟨e1, e2⟩ := part_none (s := mk q) hp
  rw [e1, e2] at h
  exact .inl ⟨rfl, h⟩
 | some v =>
  obtain ⟨e1, e2⟩ := part_some (s := mk q) hp
  rw [e1, e2] at h
  exact .inr ⟨v, rfl, partN_ge q v hp, partN_le q v hp, h⟩
theorem implFour (s : ByteArray) (w : World) (hs : s.size ≤ 1048576) (hm : ∃ m, w.cell? ⟨0, 0, none⟩ = some (.int .i64 m)) :
  Calls Tryz.prog 193 #[.string s] w fun e w' => e = .returned (.tuple #[.int .i64 (fourZ s.data.toList), .bool (fourOk s.data.toList)]) ∧ Below w.heap.size w w' := by
 have hl : s.data.toList.length = s.size := by simp
 by_cases hL : s.size ≤ 200
 ·have hLi : (s.size : Int) ≤ 200 := by omega
  have HM : Hid (∀ q ∈ partsL s.data.toList, q.length ≤ 1000000) := fun q hq => by have := partsL_mem_le s.data.toList q hq; omega
  have CP : Hid (Calls Tryz.prog 177 #[.string s] w fun e w' => ∃ c, e = .returned (.slice (some ⟨w.heap.size, 0, none⟩) (partsL s.data.toList).length c) ∧ StrsAt w.heap.size (partsL s.data.toList) w' ∧ Below w.heap.size w w') := hostParts s w (by omega) hm
  have HO : Hid ((partsL s.data.toList).length ≤ 4 → fourL s.data.toList = fourFrom (partsL s.data.toList).length 0 0 (partsL s.data.toList)) := fun h => by unfold fourL; rw [if_pos ⟨by omega, h⟩]
  have HG : Hid (¬ (partsL s.data.toList).length ≤ 4 → fourL s.data.toList = none) := fun h => by unfold fourL; rw [if_neg (fun hh => h hh.2)]
  have h1 := partsL_ne s.data.toList
  have hll := partsL_len_le s.data.toList
  obtain ⟨P, hP⟩ : ∃ P, P = partsL s.data.toList := ⟨_, rfl⟩
  rw [← hP] at HM CP HO HG h1 hll
  clear hP hm
  obtain ⟨n, hn⟩ : ∃ n, n = P.length := ⟨_, rfl⟩
  rw [← hn] at CP HO HG h1 hll
  have HN : Hid (n = P.length) := hn
  clear hn
  by_cases h4 : n ≤ 4
  ·have h4i : (n : Int) ≤ 4 := by omega
   have HO2 := HO.out h4
   have HO3 : Hid (fourL s.data.toList = fourFrom n 0 0 P) := HO2
   clear HO2 HO HG
   go_enter Tryz.func193, Tryz.ntmps193
   go_wp2_with fail
   refine CP.out.mono ?_
   rintro e w1 ⟨c, rfl, hS, hB⟩
   go_wp2_with fail
   go_loopw [5, 21] (fun ad ix wr => ∃ (i : Nat) (acc : Int), i ≤ n ∧ ix = .int .i64 i ∧ ad = .int .i64 acc ∧ 0 ≤ acc ∧ acc ≤ 4294967295 ∧ Hid (i < n → acc < midI i) ∧ StrsAt w.heap.size P wr ∧ Below w.heap.size w wr ∧ Hid (fourFrom n i acc (P.drop i) = fourFrom n 0 0 P)) (fun _ ix wr => n - (intOf ix).toNat)
   case atStart => exact ⟨0, 0, Nat.zero_le _, rfl, rfl, by omega, by omega, fun _ => by decide, hS, hB, rfl⟩
   case round =>
    obtain ⟨i, acc, hi, rfl, rfl, ha0, ha1, HI, hSr, hBr, HF⟩ := hrel
    by_cases hp : i < n
    ·have hpi : (i : Int) < (n : Int) := by omega
     have hiP : i < P.length := by rw [← HN.out]; exact hp
     have hc := hSr.cell i hiP
     have hmid := HI.out hp
     rcases part_two P[i] wr (HM.out _ (List.getElem_mem hiP)) with ⟨hq, CQ⟩ | ⟨v, hq, hv0, hv1, CQ⟩
     ·have HZ : Hid (fourOk s.data.toList = false ∧ fourZ s.data.toList = 0) := four_is_none _ (by rw [HO3.out, ← HF.out, drop_four P i hiP, four_none _ _ _ _ _ hq])
      have CQ2 : Hid (Calls Tryz.prog 179 #[.string (mk P[i])] wr fun e w' => e = .returned (.tuple #[.int .i64 0, .bool false]) ∧ ∃ n, w' = wr.drewN n) := CQ
      clear CQ hq
      by_cases hlast : i + 1 = n
      ·have hli : ((i : Int) == (n : Int) - 1) = true := beq_iff_eq.2 (by omega)
       go_wp2_with (go_at_call 179; refine CQ2.out.mono ?_; rintro e W1 ⟨rfl, n1, rfl⟩)
       go_ret2
       exact ⟨by rw [HZ.out.1, HZ.out.2]; rfl, below_drewN hBr _⟩
      ·have hli : ((i : Int) == (n : Int) - 1) = false := beq_eq_false_iff_ne.2 (by omega)
       go_wp2_with (go_at_call 179; refine CQ2.out.mono ?_; rintro e W1 ⟨rfl, n1, rfl⟩)
       go_ret2
       exact ⟨by rw [HZ.out.1, HZ.out.2]; rfl, below_drewN hBr _⟩
     ·have CQ2 : Hid (Calls Tryz.prog 179 #[.string (mk P[i])] wr fun e w' => e = .returned (.tuple #[.int .i64 v, .bool true]) ∧ ∃ n, w' = wr.drewN n) := CQ
      clear CQ
      rcases (show i = 0 ∨ i = 1 ∨ i = 2 ∨ i = 3 from by omega) with rfl | rfl | rfl | rfl
      ·have hm2 : acc < 1 := hmid
       by_cases hlast : n = 1
       ·have HL1 : Hid (n = 1) := hlast
        have hli : ((0 : Int) == (n : Int) - 1) = true := beq_iff_eq.2 (by omega)
        have hn1 : n ≤ 1 := by omega
        have hn2 : 1 ≤ n := by omega
        clear hlast
        by_cases hv : v < (4294967296 : Int)
        ·have HF2 : Hid (fourFrom n 1 (acc * 4294967296 + v) (P.drop 1) = fourFrom n 0 0 P) := by rw [← HF.out, drop_four P 0 hiP]; exact (four_last n 0 acc v _ (P.drop 1) hq HL1.out.symm hv).symm
         clear hq
         go_wp2_with (go_at_call 179; refine CQ2.out.mono ?_; rintro e W1 ⟨rfl, n1, rfl⟩)
         go_roundw
         case rel => exact ⟨1, acc * 4294967296 + v, by omega, by go_num, by go_num, by omega, by omega, fun h => absurd h (by omega), hSr, below_drewN hBr _, HF2⟩
         case measure => simp [intOf]; omega
        ·have HZ : Hid (fourOk s.data.toList = false ∧ fourZ s.data.toList = 0) := four_is_none _ (by rw [HO3.out, ← HF.out, drop_four P 0 hiP]; exact four_last_no n 0 acc v _ (P.drop 1) hq HL1.out.symm hv)
         have hv2 : (4294967296 : Int) ≤ v := by have : ¬ v < (4294967296 : Int) := hv; omega
         clear hq hv
         go_wp2_with (go_at_call 179; refine CQ2.out.mono ?_; rintro e W1 ⟨rfl, n1, rfl⟩)
         go_ret2
         exact ⟨by rw [HZ.out.1, HZ.out.2]; rfl, below_drewN hBr _⟩
       ·have hli : ((0 : Int) == (n : Int) - 1) = false := beq_eq_false_iff_ne.2 (by omega)
        by_cases hv : v < (256 : Int)
        ·have HF2 : Hid (fourFrom n 1 (acc * 256 + v) (P.drop 1) = fourFrom n 0 0 P) := by rw [← HF.out, drop_four P 0 hiP]; exact (four_mid n 0 acc v _ (P.drop 1) hq (by omega) hv).symm
         clear hq
         go_wp2_with (go_at_call 179; refine CQ2.out.mono ?_; rintro e W1 ⟨rfl, n1, rfl⟩)
         go_roundw
         case rel => exact ⟨1, acc * 256 + v, by omega, by go_num, by go_num, by omega, by omega, fun _ => by show acc * 256 + v < 256; omega, hSr, below_drewN hBr _, HF2⟩
         case measure => simp [intOf]; omega
        ·have HZ : Hid (fourOk s.data.toList = false ∧ fourZ s.data.toList = 0) := four_is_none _ (by rw [HO3.out, ← HF.out, drop_four P 0 hiP]; exact four_mid_no n 0 acc v _ (P.drop 1) hq (by omega) hv)
         have hv2 : (256 : Int) ≤ v := by have : ¬ v < (256 : Int) := hv; omega
         clear hq hv
         go_wp2_with (go_at_call 179; refine CQ2.out.mono ?_; rintro e W1 ⟨rfl, n1, rfl⟩)
         go_ret2
         exact ⟨by rw [HZ.out.1, HZ.out.2]; rfl, below_drewN hBr _⟩
      ·have hm2 : acc < 256 := hmid
       by_cases hlast : n = 2
       ·have HL1 : Hid (n = 2) := hlast
        have hli : ((1 : Int) == (n : Int) - 1) = true := beq_iff_eq.2 (by omega)
        have hn1 : n ≤ 2 := by omega
        have hn2 : 2 ≤ n := by omega
        clear hlast
        by_cases hv : v < (16777216 : Int)
        ·have HF2 : Hid (fourFrom n 2 (acc * 16777216 + v) (P.drop 2) = fourFrom n 0 0 P) := by rw [← HF.out, drop_four P 1 hiP]; exact (four_last n 1 acc v _ (P.drop 2) hq HL1.out.symm hv).symm
         clear hq
         go_wp2_with (go_at_call 179; refine CQ2.out.mono ?_; rintro e W1 ⟨rfl, n1, rfl⟩)
         go_roundw
         case rel => exact ⟨2, acc * 16777216 + v, by omega, by go_num, by go_num, by omega, by omega, fun h => absurd h (by omega), hSr, below_drewN hBr _, HF2⟩
         case measure => simp [intOf]; omega
        ·have HZ : Hid (fourOk s.data.toList = false ∧ fourZ s.data.toList = 0) := four_is_none _ (by rw [HO3.out, ← HF.out, drop_four P 1 hiP]; exact four_last_no n 1 acc v _ (P.drop 2) hq HL1.out.symm hv)
         have hv2 : (16777216 : Int) ≤ v := by have : ¬ v < (16777216 : Int) := hv; omega
         clear hq hv
         go_wp2_with (go_at_call 179; refine CQ2.out.mono ?_; rintro e W1 ⟨rfl, n1, rfl⟩)
         go_ret2
         exact ⟨by rw [HZ.out.1, HZ.out.2]; rfl, below_drewN hBr _⟩
       ·have hli : ((1 : Int) == (n : Int) - 1) = false := beq_eq_false_iff_ne.2 (by omega)
        by_cases hv : v < (256 : Int)
        ·have HF2 : Hid (fourFrom n 2 (acc * 256 + v) (P.drop 2) = fourFrom n 0 0 P) := by rw [← HF.out, drop_four P 1 hiP]; exact (four_mid n 1 acc v _ (P.drop 2) hq (by omega) hv).symm
         clear hq
         go_wp2_with (go_at_call 179; refine CQ2.out.mono ?_; rintro e W1 ⟨rfl, n1, rfl⟩)
         go_roundw
         case rel => exact ⟨2, acc * 256 + v, by omega, by go_num, by go_num, by omega, by omega, fun _ => by show acc * 256 + v < 65536; omega, hSr, below_drewN hBr _, HF2⟩
         case measure => simp [intOf]; omega
        ·have HZ : Hid (fourOk s.data.toList = false ∧ fourZ s.data.toList = 0) := four_is_none _ (by rw [HO3.out, ← HF.out, drop_four P 1 hiP]; exact four_mid_no n 1 acc v _ (P.drop 2) hq (by omega) hv)
         have hv2 : (256 : Int) ≤ v := by have : ¬ v < (256 : Int) := hv; omega
         clear hq hv
         go_wp2_with (go_at_call 179; refine CQ2.out.mono ?_; rintro e W1 ⟨rfl, n1, rfl⟩)
         go_ret2
         exact ⟨by rw [HZ.out.1, HZ.out.2]; rfl, below_drewN hBr _⟩
      ·have hm2 : acc < 65536 := hmid
       by_cases hlast : n = 3
       ·have HL1 : Hid (n = 3) := hlast
        have hli : ((2 : Int) == (n : Int) - 1) = true := beq_iff_eq.2 (by omega)
        have hn1 : n ≤ 3 := by omega
        have hn2 : 3 ≤ n := by omega
        clear hlast
        by_cases hv : v < (65536 : Int)
        ·have HF2 : Hid (fourFrom n 3 (acc * 65536 + v) (P.drop 3) = fourFrom n 0 0 P) := by rw [← HF.out, drop_four P 2 hiP]; exact (four_last n 2 acc v _ (P.drop 3) hq HL1.out.symm hv).symm
         clear hq
         go_wp2_with (go_at_call 179; refine CQ2.out.mono ?_; rintro e W1 ⟨rfl, n1, rfl⟩)
         go_roundw
         case rel => exact ⟨3, acc * 65536 + v, by omega, by go_num, by go_num, by omega, by omega, fun h => absurd h (by omega), hSr, below_drewN hBr _, HF2⟩
         case measure => simp [intOf]; omega
        ·have HZ : Hid (fourOk s.data.toList = false ∧ fourZ s.data.toList = 0) := four_is_none _ (by rw [HO3.out, ← HF.out, drop_four P 2 hiP]; exact four_last_no n 2 acc v _ (P.drop 3) hq HL1.out.symm hv)
         have hv2 : (65536 : Int) ≤ v := by have : ¬ v < (65536 : Int) := hv; omega
         clear hq hv
         go_wp2_with (go_at_call 179; refine CQ2.out.mono ?_; rintro e W1 ⟨rfl, n1, rfl⟩)
         go_ret2
         exact ⟨by rw [HZ.out.1, HZ.out.2]; rfl, below_drewN hBr _⟩
       ·have hli : ((2 : Int) == (n : Int) - 1) = false := beq_eq_false_iff_ne.2 (by omega)
        by_cases hv : v < (256 : Int)
        ·have HF2 : Hid (fourFrom n 3 (acc * 256 + v) (P.drop 3) = fourFrom n 0 0 P) := by rw [← HF.out, drop_four P 2 hiP]; exact (four_mid n 2 acc v _ (P.drop 3) hq (by omega) hv).symm
         clear hq
         go_wp2_with (go_at_call 179; refine CQ2.out.mono ?_; rintro e W1 ⟨rfl, n1, rfl⟩)
         go_roundw
         case rel => exact ⟨3, acc * 256 + v, by omega, by go_num, by go_num, by omega, by omega, fun _ => by show acc * 256 + v < 16777216; omega, hSr, below_drewN hBr _, HF2⟩
         case measure => simp [intOf]; omega
        ·have HZ : Hid (fourOk s.data.toList = false ∧ fourZ s.data.toList = 0) := four_is_none _ (by rw [HO3.out, ← HF.out, drop_four P 2 hiP]; exact four_mid_no n 2 acc v _ (P.drop 3) hq (by omega) hv)
         have hv2 : (256 : Int) ≤ v := by have : ¬ v < (256 : Int) := hv; omega
         clear hq hv
         go_wp2_with (go_at_call 179; refine CQ2.out.mono ?_; rintro e W1 ⟨rfl, n1, rfl⟩)
         go_ret2
         exact ⟨by rw [HZ.out.1, HZ.out.2]; rfl, below_drewN hBr _⟩
      ·have hm2 : acc < 16777216 := hmid
       have hlast : n = 4 := by omega
       have HL1 : Hid (n = 4) := hlast
       have hli : ((3 : Int) == (n : Int) - 1) = true := beq_iff_eq.2 (by omega)
       have hn1 : n ≤ 4 := by omega
       have hn2 : 4 ≤ n := by omega
       clear hlast
       by_cases hv : v < (256 : Int)
       ·have HF2 : Hid (fourFrom n 4 (acc * 256 + v) (P.drop 4) = fourFrom n 0 0 P) := by rw [← HF.out, drop_four P 3 hiP]; exact (four_last n 3 acc v _ (P.drop 4) hq HL1.out.symm hv).symm
        clear hq
        go_wp2_with (go_at_call 179; refine CQ2.out.mono ?_; rintro e W1 ⟨rfl, n1, rfl⟩)
        go_roundw
        case rel => exact ⟨4, acc * 256 + v, by omega, by go_num, by go_num, by omega, by omega, fun h => absurd h (by omega), hSr, below_drewN hBr _, HF2⟩
        case measure => simp [intOf]; omega
       ·have HZ : Hid (fourOk s.data.toList = false ∧ fourZ s.data.toList = 0) := four_is_none _ (by rw [HO3.out, ← HF.out, drop_four P 3 hiP]; exact four_last_no n 3 acc v _ (P.drop 4) hq HL1.out.symm hv)
        have hv2 : (256 : Int) ≤ v := by have : ¬ v < (256 : Int) := hv; omega
        clear hq hv
        go_wp2_with (go_at_call 179; refine CQ2.out.mono ?_; rintro e W1 ⟨rfl, n1, rfl⟩)
        go_ret2
        exact ⟨by rw [HZ.out.1, HZ.out.2]; rfl, below_drewN hBr _⟩
    ·have hin : i = n := by omega
     subst hin
     have hpi : ¬ ((i : Int) < (i : Int)) := by omega
     have HZ : Hid (fourOk s.data.toList = true ∧ fourZ s.data.toList = acc) := four_is_some _ _ (by rw [HO3.out, ← HF.out, List.drop_of_length_le (by rw [← HN.out]; exact Nat.le_refl _)]; rfl)
     go_wp2
     go_ret2
     exact ⟨by rw [HZ.out.1, HZ.out.2]; rfl, hBr⟩
  ·have h4i : (4 : Int) < (n : Int) := by omega
   have HZ : Hid (fourOk s.data.toList = false ∧ fourZ s.data.toList = 0) := four_is_none _ (HG.out h4)
   go_enter Tryz.func193, Tryz.ntmps193
   go_wp2_with fail
   refine CP.out.mono ?_
   rintro e w1 ⟨c, rfl, hS, hB⟩
   go_wp2
   go_ret2
   exact ⟨by rw [HZ.out.1, HZ.out.2]; rfl, hB⟩
 ·have hLi : (200 : Int) < (s.size : Int) := by omega
  have HZ : Hid (fourOk s.data.toList = false ∧ fourZ s.data.toList = 0) := four_is_none _ (by unfold fourL; rw [if_neg (by omega)])
  go_enter Tryz.func193, Tryz.ntmps193
  go_wp2
  go_ret2
  exact ⟨by rw [HZ.out.1, HZ.out.2]; rfl, Below.refl _ _⟩
end Go.Proofs.YtnfhajhdpdidlaaGreatDoor
end
section
namespace Go.Proofs.YtnfhajhdpdidlaaGreatDoor
open Go.RowKit Go.Shelf
def decB (s : ByteArray) (k : Nat) : UInt8 := if h : k + 2 < s.size then (if esc s[k] s[k + 1] s[k + 2] then hexB s[k + 1] s[k + 2] else 0) else 0
theorem decB_val (s : ByteArray) (k : Nat) (h : k + 2 < s.size) (h1 : esc s[k] s[k + 1] s[k + 2] = true) : decB s k = hexB s[k + 1] s[k + 2] := by
 simp [decB, h, h1]
theorem decB_not (s : ByteArray) (k : Nat) (h1 : escAt s k = false) : decB s k = 0 := by
 unfold escAt at h1; unfold decB
 split
 ·rename_i h; rw [dif_pos h] at h1; simp [h1]
 ·rfl
theorem decodeAt (s : ByteArray) (k : Nat) (w : World) (hs : s.size ≤ 70368744177664) (hk : k < s.size) :
  Calls Tryz.prog 194 #[.string s, .int .i64 (k : Int)] w fun e w' => e = .returned (.tuple #[.int .u8 ((decB s k).toNat : Int), .bool (escAt s k)]) ∧ ∃ n, w' = w.drewN n := by
 have hki : (k : Int) < (s.size : Int) := by omega
 by_cases hc : s[k] = 37
 ·have h37 : ((s[k].toNat : Int) != 37) = false := by rw [hc]; rfl
  by_cases h2 : k + 2 < s.size
  ·have h2i : (k : Int) + 2 < (s.size : Int) := by omega
   have h1i : (k : Int) + 1 < (s.size : Int) := by omega
   have h3i : ¬ ((s.size : Int) - (k : Int) < 3) := by omega
   have hw1 : IntKind.i64.wrap ((k : Int) + 1) = (k : Int) + 1 := by rw [IntKind.wrap_i64]; omega
   have hw2 : IntKind.i64.wrap ((k : Int) + 2) = (k : Int) + 2 := by rw [IntKind.wrap_i64]; omega
   have h01 : (0 : Int) ≤ (k : Int) + 1 := by omega
   have h02 : (0 : Int) ≤ (k : Int) + 2 := by omega
   have ht1 : ((k : Int) + 1).toNat = k + 1 := by omega
   have ht2 : ((k : Int) + 2).toNat = k + 2 := by omega
   have ra := hexV_range s[k + 1]
   have rb := hexV_range s[k + 2]
   have HE : Hid (escAt s k = esc s[k] s[k + 1] s[k + 2]) := escAt_of s k h2
   have HV : Hid (esc s[k] s[k + 1] s[k + 2] = true → decB s k = hexB s[k + 1] s[k + 2]) := fun h => decB_val s k h2 h
   have HC : Hid (s[k] = 37) := hc
   have HN : Hid (escAt s k = false → decB s k = 0) := decB_not s k
   clear hc
   rcases (show hexV s[k + 1] < 0 ∨ (0 ≤ hexV s[k + 1] ∧ hexV s[k + 2] < 0) ∨ (0 ≤ hexV s[k + 1] ∧ 0 ≤ hexV s[k + 2]) from by omega) with ha | ⟨ha, hb⟩ | ⟨ha, hb⟩
   ·have HF : Hid (escAt s k = false) := HE.out.trans (esc_no1 _ _ _ ha)
    go_enter Tryz.func194, Tryz.ntmps194
    go_wp2
    go_quiet ((go_at_call 198; exact Calls.quiet_of_same (figureValue _ _)))
    go_wp2
    go_ret2
    exact ⟨by rw [HF.out, HN.out HF.out]; rfl, _, rfl⟩
   ·have HF : Hid (escAt s k = false) := HE.out.trans (esc_no2 _ _ _ hb)
    go_enter Tryz.func194, Tryz.ntmps194
    go_wp2
    go_quiet ((go_at_call 198; exact Calls.quiet_of_same (figureValue _ _)))
    go_wp2
    go_ret2
    exact ⟨by rw [HF.out, HN.out HF.out]; rfl, _, rfl⟩
   ·have HF : Hid (escAt s k = true) := HE.out.trans (esc_yes _ _ _ HC.out ha hb)
    have HB : Hid (((decB s k).toNat : Int) = 16 * hexV s[k + 1] + hexV s[k + 2]) := (congrArg (fun x : UInt8 => (x.toNat : Int)) (HV.out (HE.out.symm.trans HF.out))).trans (hexB_val _ _ ha hb)
    go_enter Tryz.func194, Tryz.ntmps194
    go_wp2
    go_quiet ((go_at_call 198; exact Calls.quiet_of_same (figureValue _ _)))
    go_wp2
    go_ret2
    exact ⟨by rw [HF.out, HB.out]; rfl, _, rfl⟩
  ·have h3i : (s.size : Int) - (k : Int) < 3 := by omega
   have HF : Hid (escAt s k = false) := escAt_end s k h2
   have HN : Hid (escAt s k = false → decB s k = 0) := decB_not s k
   go_enter Tryz.func194, Tryz.ntmps194
   go_wp2
   go_ret2
   exact ⟨by rw [HF.out, HN.out HF.out]; rfl, 0, rfl⟩
 ·have h37 : ((s[k].toNat : Int) != 37) = true := by
   rw [bne_iff_ne]; intro h; exact hc (UInt8.toNat_inj.1 (by have : (37 : UInt8).toNat = 37 := rfl; omega))
  have HF : Hid (escAt s k = false) := escAt_no0 s k hk hc
  have HN : Hid (escAt s k = false → decB s k = 0) := decB_not s k
  go_enter Tryz.func194, Tryz.ntmps194
  go_wp2
  go_ret2
  exact ⟨by rw [HF.out, HN.out HF.out]; rfl, 0, rfl⟩
end Go.Proofs.YtnfhajhdpdidlaaGreatDoor
end
section
namespace Go.Proofs.YtnfhajhdpdidlaaGreatDoor
open Go.RowKit Go.Shelf
def decode (s : ByteArray) : List UInt8 := if s.size ≤ 600 then dec s.data.toList else []
theorem decode_small (s : ByteArray) (h : s.size ≤ 600) : decode s = dec s.data.toList := if_pos h
theorem decode_great (s : ByteArray) (h : ¬ s.size ≤ 600) : decode s = [] := if_neg h
theorem acc_esc {s : ByteArray} {k : Nat} {acc all : List UInt8} (hk : k < s.size) (h : acc ++ dec (s.data.toList.drop k) = all) (he : escAt s k = true) : (acc ++ [decB s k]) ++ dec (s.data.toList.drop (k + 3)) = all ∧ k + 3 ≤ s.size := by
 by_cases h2 : k + 2 < s.size
 ·rw [escAt_of s k h2] at he
  rw [← h, dec_at_esc s k h2 he, decB_val s k h2 he]
  exact ⟨by simp, by omega⟩
 ·rw [escAt_end s k h2] at he; cases he
theorem acc_not {s : ByteArray} {k : Nat} {acc all : List UInt8} (hk : k < s.size) (h : acc ++ dec (s.data.toList.drop k) = all) (he : escAt s k = false) : (acc ++ [s[k]]) ++ dec (s.data.toList.drop (k + 1)) = all := by
 rw [← h, dec_at_not s k hk he]; simp
theorem drop_end (s : ByteArray) : s.data.toList.drop s.size = [] := List.drop_of_length_le (by simp)
theorem implDecode (s : ByteArray) (w : World) (hs : s.size ≤ maxLen) :
  Calls Tryz.prog 172 #[.string s] w fun e w' => e = .returned (.string ⟨(decode s).toArray⟩) ∧ Below w.heap.size w w' := by
 unfold maxLen at hs
 by_cases hL : s.size ≤ 600
 ·rw [decode_small s hL]
  have hLi : ¬ ((600 : Int) < (s.size : Int)) := by omega
  go_enter Tryz.func172, Tryz.ntmps172
  go_wp2
  go_loopw [4] (fun i wr => ∃ (k : Nat) (acc : List UInt8), k ≤ s.size ∧ i = .int .i64 k ∧ Lib.IsBuilderF 67 5 w.heap.size w.heap.size (Lib.byteCells acc) wr ∧ Below w.heap.size w wr ∧ acc.length ≤ k ∧ Hid (acc ++ dec (s.data.toList.drop k) = dec s.data.toList)) (fun i wr => s.size - (intOf i).toNat)
  case atStart =>
   exact ⟨0, [], Nat.zero_le _, rfl, Lib.IsBuilderF.of (Lib.fresh_isBuilder _ _ w), (Below.refl _ w).alloc (Nat.le_refl _) _, Nat.le_refl _, rfl⟩
  case round =>
   obtain ⟨k, acc, hk, rfl, hI, hbw, hal, HA⟩ := hrel
   have hsz : w.heap.size ≤ wr.heap.size := hbw.size
   by_cases hp : k < s.size
   ·have hlen : (Lib.byteCells acc).length + 1 ≤ 140737488355328 := by rw [Lib.byteCells_length]; omega
    cases he : escAt s k with
    | true =>
     obtain ⟨hA2, hk3⟩ := acc_esc hp HA.out he
     have HA2 : Hid ((acc ++ [decB s k]) ++ dec (s.data.toList.drop (k + 3)) = dec s.data.toList) := hA2
     clear hA2
     go_wp2_with (first
      | (go_at_call 194; refine (decodeAt s k _ (by omega) hp).mono ?_; rintro e W1 ⟨rfl, n1, rfl⟩; rw [he])
      | (go_at_call 45; refine (writeByte_k w.heap.size w.heap.size _ _ _ (by exact hI) hlen (by exact hsz)).mono ?_; rintro e W1 ⟨rfl, g1, b1, _⟩))
     go_roundw
     case rel => exact ⟨k + 3, acc ++ [decB s k], by omega, by go_num, Or.inr (by rw [byteCells_one]; exact g1), (below_drewN hbw _).trans b1, by simp; omega, HA2⟩
     case measure => simp [intOf]; omega
    | false =>
     have HA2 : Hid ((acc ++ [s[k]]) ++ dec (s.data.toList.drop (k + 1)) = dec s.data.toList) := acc_not hp HA.out he
     go_wp2_with (first
      | (go_at_call 194; refine (decodeAt s k _ (by omega) hp).mono ?_; rintro e W1 ⟨rfl, n1, rfl⟩; rw [he])
      | (go_at_call 45; refine (writeByte_k w.heap.size w.heap.size _ _ _ (by exact hI) hlen (by exact hsz)).mono ?_; rintro e W1 ⟨rfl, g1, b1, _⟩))
     go_roundw
     case rel => exact ⟨k + 1, acc ++ [s[k]], by omega, by go_num, Or.inr (by rw [byteCells_one]; exact g1), (below_drewN hbw _).trans b1, by simp; omega, HA2⟩
     case measure => simp [intOf]; omega
   ·have hkk : k = s.size := by omega
    subst hkk
    have hacc : acc = dec s.data.toList := by have := HA.out; rw [drop_end] at this; simpa [dec] using this
    subst hacc
    go_wp2_with (go_at_call 47; refine (Tryz.Builder_String_any_k w.heap.size w.heap.size _ _ hI hsz).mono ?_; rintro e W1 ⟨rfl, _, b1, _⟩)
    go_ret
    exact ⟨rfl, hbw.trans b1⟩
 ·rw [decode_great s hL]
  have hLi : (600 : Int) < (s.size : Int) := by omega
  go_enter Tryz.func172, Tryz.ntmps172
  go_wp2
  go_ret
  exact ⟨rfl, Below.refl _ _⟩
end Go.Proofs.YtnfhajhdpdidlaaGreatDoor
end

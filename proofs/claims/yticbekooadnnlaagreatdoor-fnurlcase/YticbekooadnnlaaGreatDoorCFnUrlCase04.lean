/- Plain facts: a text in capital letters is read as the same host. The reader's pick answers a number from 0 on, below what it is asked for, and turns nothing but the reader's place. The reader's choice out of a list: one of the list's own, and nothing turns but the reader's place. A reader behind what leaves it. -/
import Derived.Test.YticbekooadnnlaaGreatDoorB02
import Derived.Test.YticbekooadnnlaaGreatDoorCFnUrlCase01
section
set_option linter.unusedVariables false
namespace Go.Proofs.YticbekooadnnlaaGreatDoor
open Go.RowKit

def capB (c : UInt8) : UInt8 := if 97 ≤ c.toNat ∧ c.toNat ≤ 122 then c - 32 else c
def capL (l : List UInt8) : List UInt8 := l.map capB
theorem capL_len (l : List UInt8) : (capL l).length = l.length := by simp [capL]
theorem capB_val (c : UInt8) : (97 ≤ c.toNat ∧ c.toNat ≤ 122 ∧ (capB c).toNat = c.toNat - 32) ∨ (¬ (97 ≤ c.toNat ∧ c.toNat ≤ 122) ∧ capB c = c) := by
  by_cases h : 97 ≤ c.toNat ∧ c.toNat ≤ 122
  · left
    refine ⟨h.1, h.2, ?_⟩
    unfold capB
    rw [if_pos h, UInt8.toNat_sub]
    have : (32 : UInt8).toNat = 32 := rfl
    rw [this]; omega
  · right; exact ⟨h, by unfold capB; rw [if_neg h]⟩
theorem hexV_cap (c : UInt8) : hexV (capB c) = hexV c := by
  rcases capB_val c with ⟨h1, h2, h3⟩ | ⟨_, h⟩
  · unfold hexV
    rw [h3]
    repeat' split
    all_goals omega
  · rw [h]
theorem low_cap (c : UInt8) : lowB (capB c) = lowB c := by
  rcases capB_val c with ⟨h1, h2, h3⟩ | ⟨_, h⟩
  · have e1 := lowB_cap (capB c) (by omega) (by omega)
    have e2 := lowB_not c (by omega)
    rw [e2]
    apply UInt8.toNat_inj.1
    omega
  · rw [h]
theorem cap_sign (c : UInt8) : capB c = 37 ↔ c = 37 := by
  rcases capB_val c with ⟨h1, h2, h3⟩ | ⟨_, h⟩
  · constructor
    · intro e; rw [e] at h3; have : (37 : UInt8).toNat = 37 := rfl; omega
    · intro e; subst e; revert h1; decide
  · rw [h]
theorem esc_cap (c a b : UInt8) : esc (capB c) (capB a) (capB b) = esc c a b := by
  unfold esc
  rw [hexV_cap, hexV_cap]
  have : (capB c == 37) = (c == 37) := by rw [Bool.eq_iff_iff, beq_iff_eq, beq_iff_eq]; exact cap_sign c
  simp only [cap_sign]
theorem hexB_cap (a b : UInt8) (ha : 0 ≤ hexV a) (hb : 0 ≤ hexV b) : hexB (capB a) (capB b) = hexB a b := by
  have e1 := hexB_val a b ha hb
  have e2 := hexB_val (capB a) (capB b) (by rw [hexV_cap]; exact ha) (by rw [hexV_cap]; exact hb)
  rw [hexV_cap, hexV_cap] at e2
  exact UInt8.toNat_inj.1 (by omega)
theorem esc_hex (c a b : UInt8) (h : esc c a b = true) : 0 ≤ hexV a ∧ 0 ≤ hexV b := by
  refine ⟨?_, ?_⟩
  · rcases Int.lt_or_le (hexV a) 0 with h' | h'
    · rw [esc_no1 c a b h'] at h; cases h
    · exact h'
  · rcases Int.lt_or_le (hexV b) 0 with h' | h'
    · rw [esc_no2 c a b h'] at h; cases h
    · exact h'
theorem low_dec_cap : ∀ (n : Nat) (l : List UInt8), l.length ≤ n → low (dec (capL l)) = low (dec l) := by
  intro n
  induction n with
  | zero =>
    intro l hl
    have : l = [] := List.length_eq_zero_iff.1 (by omega)
    subst this; rfl
  | succ n ih =>
    intro l hl
    match l, hl with
    | [], _ => rfl
    | c :: r, hl =>
      have hr : r.length ≤ n := by simpa using hl
      have cons : ∀ x : UInt8, ∀ y z : List UInt8, low y = low z → low (capB x :: y) = low (x :: z) := by
        intro x y z h
        show lowB (capB x) :: low y = lowB x :: low z
        rw [low_cap, h]
      by_cases h2 : r.length < 2
      · have e : capL (c :: r) = capB c :: capL r := rfl
        rw [e, dec_short _ _ (by rw [capL_len]; exact h2), dec_short c r h2]
        exact cons c _ _ (ih r hr)
      · match r, h2, hr with
        | a :: b :: r', _, hr =>
          have e : capL (c :: a :: b :: r') = capB c :: capB a :: capB b :: capL r' := rfl
          cases he : esc c a b with
          | true =>
            obtain ⟨ha, hb⟩ := esc_hex c a b he
            rw [e, dec_esc _ _ _ _ (by rw [esc_cap]; exact he), dec_esc c a b r' he, hexB_cap a b ha hb]
            show lowB (hexB a b) :: low (dec (capL r')) = lowB (hexB a b) :: low (dec r')
            rw [ih r' (by simp at hr; omega)]
          | false =>
            rw [e, dec_three _ _ _ _ (by rw [esc_cap]; exact he), dec_three c a b r' he]
            exact cons c _ _ (ih (a :: b :: r') hr)
        | [], h2, _ => exact absurd (by simp) h2
        | [a], h2, _ => exact absurd (by simp) h2
end Go.Proofs.YticbekooadnnlaaGreatDoor
end

section
set_option linter.unusedVariables false
namespace Go.Proofs.YticbekooadnnlaaGreatDoor
open Go.RowKit Go.Shelf

set_option maxHeartbeats 2000000 in
set_option maxRecDepth 100000 in
theorem pick (B r p : Nat) (n : Int) (w : World) (hn : 1 ≤ n) (hn2 : n ≤ 1000000) (hp : p ≤ 1000000) (h : Rd B r p w) :
    Calls Tryz.prog 38 #[.pointer (some ⟨r, 0, none⟩), .int .i64 n] w fun e w' => ∃ v : Int, e = .returned (.int .i64 v) ∧ 0 ≤ v ∧ v < n ∧ Rd B r (p + 1) w' ∧ w.grownBy w' (some r) := by
  have hput := h.put (p + 1)
  have hgr := setCell_grown w r 1 (.int .i64 ((p + 1 : Nat) : Int))
  rw [show ((p + 1 : Nat) : Int) = (p : Int) + 1 from by omega] at hput hgr
  have HP : Hid (Rd B r (p + 1) (w.setCell ⟨r, 1, none⟩ (.int .i64 ((p : Int) + 1)))) := hput
  have HG : Hid (w.grownBy (w.setCell ⟨r, 1, none⟩ (.int .i64 ((p : Int) + 1))) (some r)) := hgr
  clear hput hgr
  obtain ⟨hB, a, len, cap, z, hr, hl, hc⟩ := h
  have c0 : w.cell? ⟨r, 0, none⟩ = some (.slice a len cap) := by rw [Lib.cell_of_heap hr]; rfl
  have c1 : w.cell? ⟨r, 1, none⟩ = some (.int .i64 (p : Int)) := by rw [Lib.cell_of_heap hr]; rfl
  have f1 : w.frozen? ⟨r, 1, none⟩ = false := Lib.frozen_of_heap hr 1
  have hk1 : (p : Int) + 1 - 1 = (p : Int) := by omega
  have hpi : (p : Int) ≤ 1000000 := by omega
  clear hr
  by_cases h0 : len = 0
  · subst h0
    go_enter Tryz.func38, Tryz.ntmps38
    go_wp2
    go_ret
    exact ⟨0, rfl, by omega, by omega, HP.out, HG.out⟩
  · rcases hc with hc | ⟨b, off, rfl, hbB, hc⟩
    · exact absurd hc h0
    have hbr : b ≠ r := by omega
    have hl0 : (0 : Int) < (len : Int) := by omega
    have hl1 : ((len : Int) == 0) = false := by rw [beq_eq_false_iff_ne]; omega
    by_cases hlt : p < len
    · have hlti : (p : Int) < (len : Int) := by omega
      obtain ⟨hcell, hz0, hz1⟩ := hc p hlt
      clear hc
      go_enter Tryz.func38, Tryz.ntmps38
      go_wp2
      go_ret
      exact ⟨z p % n, rfl, Int.emod_nonneg _ (by omega), Int.emod_lt_of_pos _ (by omega), HP.out, HG.out⟩
    · have hlti : ¬ ((p : Int) < (len : Int)) := by omega
      have hlne : ¬ ((len : Int) = 0) := by omega
      obtain ⟨q1, hq1, hq1l⟩ : ∃ q : Nat, (p : Int) % (len : Int) = (q : Int) ∧ q < len := ⟨p % len, by omega, Nat.mod_lt _ (by omega)⟩
      obtain ⟨q2, hq2, hq2l⟩ : ∃ q : Nat, ((p : Int) * 7 + 3) % (len : Int) = (q : Int) ∧ q < len := ⟨(p * 7 + 3) % len, by simp, Nat.mod_lt _ (by omega)⟩
      obtain ⟨hcell1, hz0, hz1⟩ := hc q1 hq1l
      obtain ⟨hcell2, hy0, hy1⟩ := hc q2 hq2l
      have hw7 : IntKind.i64.wrap ((p : Int) * 7) = (p : Int) * 7 := by rw [IntKind.wrap_i64]; omega
      have hw73 : IntKind.i64.wrap ((p : Int) * 7 + 3) = (p : Int) * 7 + 3 := by rw [IntKind.wrap_i64]; omega
      obtain ⟨q3, hq3, hq3l⟩ : ∃ q : Nat, (p : Int) / (len : Int) = (q : Int) ∧ (q : Int) ≤ 1000000 := ⟨p / len, by simp, by have := Nat.div_le_self p len; omega⟩
      obtain ⟨x, hx, hxl⟩ := i64_xor_range (z q1 * 131 + z q2 * 1117 + (p : Int) * 29 + (q3 : Int) * 53) ((z q1 * 131 + z q2 * 1117 + (p : Int) * 29 + (q3 : Int) * 53) / 64) (by omega) (by omega) (by omega) (by omega)
      have hq1i : (q1 : Int) < (len : Int) := by omega
      have hq2i : (q2 : Int) < (len : Int) := by omega
      clear hc
      go_enter Tryz.func38, Tryz.ntmps38
      go_wp2
      go_quiet (fail)
      go_wp2
      go_ret
      exact ⟨(x : Int) % n, rfl, Int.emod_nonneg _ (by omega), Int.emod_lt_of_pos _ (by omega), HP.out, grown_drewN HG.out _⟩
end Go.Proofs.YticbekooadnnlaaGreatDoor
end

section
set_option linter.unusedVariables false
namespace Go.Proofs.YticbekooadnnlaaGreatDoor
open Go.RowKit Go.Shelf

set_option maxHeartbeats 1000000 in
set_option maxRecDepth 100000 in
theorem rdOf (B r p g c : Nat) (xs : List ByteArray) (t : TypeId) (fr : Nat × Nat) (A : Array Value) (w : World) (hA : A.toList = xs.map Value.string) (hg : w.heap[g]? = some (.cells A t fr)) (hgr : g ≠ r) (h1 : 1 ≤ xs.length) (hx : xs.length ≤ 1000000) (hp : p ≤ 1000000) (h : Rd B r p w) :
    Calls Tryz.prog 40 #[.pointer (some ⟨r, 0, none⟩), .slice (some ⟨g, 0, none⟩) xs.length c] w fun e w' => ∃ x, x ∈ xs ∧ e = .returned (Value.string x) ∧ Rd B r (p + 1) w' ∧ w.grownBy w' (some r) := by
  go_enter Tryz.func40, Tryz.ntmps40
  go_wp2_with fail
  refine (pick B r p _ _ (by omega) (by omega) hp h).mono ?_
  rintro e w1 ⟨v, rfl, hv0, hv1, hr1, hg1⟩
  obtain ⟨j, rfl⟩ := Int.eq_ofNat_of_zero_le hv0
  have hj : j < xs.length := by omega
  have hcell : w1.cell? ⟨g, j, none⟩ = some (Value.string xs[j]) := by
    have hh : w1.heap[g]? = some (.cells A t fr) := (hg1.block g (Array.getElem?_eq_some_iff.1 hg).1 (by simp [hgr])).trans hg
    rw [Lib.cell_of_heap hh, ← Array.getElem?_toList, hA]
    simp [hj]
  go_wp2
  go_ret
  exact ⟨xs[j], List.getElem_mem hj, rfl, hr1, hg1⟩

end Go.Proofs.YticbekooadnnlaaGreatDoor
end

section
set_option linter.unusedVariables false
namespace Go.Proofs.YticbekooadnnlaaGreatDoor
open Go.RowKit Go.Shelf

theorem grown_below {a b c : World} {row : Option Nat} (h : a.grownBy b row) (k : Below a.heap.size b c) : a.grownBy c row :=
  ⟨k.os.trans h.os, k.tape.trans h.tape, k.output.trans h.output, Nat.le_trans h.size k.size, fun j hj hn => (k.block j hj).trans (h.block j hj hn)⟩

theorem Rd.below {B r p N : Nat} {w w' : World} (h : Rd B r p w) (k : Below N w w') (hr : r < N) : Rd B r p w' :=
  h.stays (k.block r hr) (fun j hj => k.block j (by have := h.1; omega))
end Go.Proofs.YticbekooadnnlaaGreatDoor
end

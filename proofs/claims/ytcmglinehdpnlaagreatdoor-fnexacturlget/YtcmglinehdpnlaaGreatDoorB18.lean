/- strings.Replacer: buildOnce, by way of sync.Once. strings.byteStringReplacer's Replace, at the table that takes line ends and tabs away. strings.NewReplacer and (*Replacer).Replace, at the six texts that take line ends and tabs away; impl.urlTrim. -/
import Derived.Test.YtcmglinehdpnlaaGreatDoorB16
import Derived.Test.YtcmglinehdpnlaaGreatDoorB17
import Derived.Deep.RegionLaw
import Derived.Deep.OwnRows
import Derived.Laws.IdiomCopy
import Derived.Test.YtcmglinehdpnlaaGreatDoorB06
import Derived.Deep.RegionWith
import Derived.Test.YtcmglinehdpnlaaGreatDoorB02
section
set_option linter.unusedVariables false
namespace Go.Proofs.YtcmglinehdpnlaaGreatDoor
open Go.RowKit Go.Shelf

/-- The table lies in block h, and what it tells in block q. -/
def TabAt (h : Nat) (w : World) : Prop := ∃ q A, Tab 3 q A ∧ Blk h A 145 w ∧ Blk q (rowT 3) 9 w
theorem grown_low' {w w' : World} {row : Option Nat} (b : Below w.heap.size w w') : w.grownBy w' row := ⟨b.os, b.tape, b.output, b.size, fun j hj _ => b.block j hj⟩
set_option maxHeartbeats 2000000 in
set_option maxRecDepth 100000 in
theorem buildOnce (b o cap : Nat) (x0 x1 x2 x3 : Value) (w : World) (h : Blk b #[x0, x1, x2, x3, .slice (some ⟨o, 0, none⟩) 6 cap] 102 w) (h6 : Six o w) :
    Calls Tryz.prog 83 #[.pointer (some ⟨b, 0, none⟩)] w fun e w' => e = .returned (.tuple #[]) ∧ Blk b #[x0, x1, x2, .iface 146 (.pointer (some ⟨w.heap.size + 1, 0, none⟩)), .slice none 0 0] 102 w' ∧ TabAt (w.heap.size + 1) w' ∧ w.grownBy w' (some b) := by
  have hlt := h.lt
  have CB : Hid (Calls Tryz.prog 104 #[.pointer (some ⟨b, 0, none⟩)] w fun e w' => e = .returned (.iface 146 (.pointer (some ⟨w.heap.size + 1, 0, none⟩))) ∧ Mk w 3 w') := build b o cap x0 x1 x2 x3 w h h6
  have H0 : Hid (Blk b #[x0, x1, x2, x3, .slice (some ⟨o, 0, none⟩) 6 cap] 102 w) := h
  clear h h6
  go_enter Tryz.func83, Tryz.ntmps83
  go_wp2_with fail
  refine CB.out.mono ?_
  rintro e V ⟨rfl, hM⟩
  obtain ⟨A, hT, hA, hR, hW⟩ := hM
  have hb := H0.out.below hW hlt
  have c3 : V.cell? ⟨b, 3, none⟩ = some x3 := hb.cell 3
  have f3 := hb.free 3
  have c4 : V.cell? ⟨b, 4, none⟩ = some (.slice (some ⟨o, 0, none⟩) 6 cap) := hb.cell 4
  have f4 := hb.free 4
  have hq : w.heap.size ≠ b := by omega
  have hq2 : w.heap.size + 1 ≠ b := by omega
  have H1 : Hid (Blk b #[x0, x1, x2, .iface 146 (.pointer (some ⟨w.heap.size + 1, 0, none⟩)), .slice none 0 0] 102 ((V.setCell ⟨b, 3, none⟩ (.iface 146 (.pointer (some ⟨w.heap.size + 1, 0, none⟩)))).setCell ⟨b, 4, none⟩ (.slice none 0 0))) := by
    have := Blk.set (Blk.set hb 3 (.iface 146 (.pointer (some ⟨w.heap.size + 1, 0, none⟩)))) 4 (.slice none 0 0)
    show Blk _ _ _ _
    simpa using this
  have H2 : Hid (TabAt (w.heap.size + 1) ((V.setCell ⟨b, 3, none⟩ (.iface 146 (.pointer (some ⟨w.heap.size + 1, 0, none⟩)))).setCell ⟨b, 4, none⟩ (.slice none 0 0))) :=
    ⟨w.heap.size, A, hT, (hA.other _ _ _ hq2).other _ _ _ hq2, (hR.other _ _ _ hq).other _ _ _ hq⟩
  have H3 : Hid (w.grownBy ((V.setCell ⟨b, 3, none⟩ (.iface 146 (.pointer (some ⟨w.heap.size + 1, 0, none⟩)))).setCell ⟨b, 4, none⟩ (.slice none 0 0)) (some b)) :=
    grown_then (grown_then (grown_low' hW) (grown_set V b 3 _)) (grown_set _ b 4 _)
  clear hb hA hR hW hT CB H0
  go_wp2
  go_end0
  exact ⟨rfl, H1.out, H2.out, H3.out⟩

set_option maxRecDepth 100000 in
theorem boolLoad (a : Addr) (w : World) (h : w.cell? a = some (.int .u32 0)) :
    Calls Tryz.prog 102 #[.pointer (some a)] w fun e w' => e = .returned (.bool false) ∧ w' = w := by
  have hl := run_call_load (P := Tryz.prog) Tryz.func126 (by kernel_rfl) (by kernel_rfl) (by kernel_rfl) .u32 (by kernel_rfl) h
  go_enter Tryz.func102, Tryz.ntmps102
  go_wp2
  go_ret
  exact ⟨rfl, rfl⟩
set_option maxHeartbeats 2000000 in
set_option maxRecDepth 100000 in
theorem doSlow (b o cap : Nat) (x2 x3 : Value) (w : World) (h : Blk b #[.int .u32 0, .int .i32 0, x2, x3, .slice (some ⟨o, 0, none⟩) 6 cap] 102 w) (h6 : Six o w) :
    Calls Tryz.prog 103 #[.pointer (some ⟨b, 0, none⟩), .func (.func 83) #[.pointer (some ⟨b, 0, none⟩)] #[]] w fun e w' => e = .returned (.tuple #[]) ∧ Blk b #[.int .u32 1, .int .i32 0, x2, .iface 146 (.pointer (some ⟨w.heap.size + 1, 0, none⟩)), .slice none 0 0] 102 w' ∧ TabAt (w.heap.size + 1) w' ∧ w.grownBy w' (some b) := by
  have hlt := h.lt
  have c0 : w.cell? ⟨b, 0, none⟩ = some (.int .u32 0) := h.cell 0
  have c1 : w.cell? ⟨b, 1, none⟩ = some (.int .i32 0) := h.cell 1
  have f1 : w.frozen? ⟨b, 1, none⟩ = false := h.free 1
  have h1 : Blk b #[.int .u32 0, .int .i32 1, x2, x3, .slice (some ⟨o, 0, none⟩) 6 cap] 102 (w.setCell ⟨b, 1, none⟩ (.int .i32 1)) := by
    have := Blk.set h 1 (.int .i32 1)
    simpa using this
  have hob : o ≠ b := by
    intro e
    have := h6.1
    rw [e, h.cell 0] at this
    simp at this
  have h61 : Six o (w.setCell ⟨b, 1, none⟩ (.int .i32 1)) := by
    have key : ∀ j v, w.cell? ⟨o, j, none⟩ = some v → (w.setCell ⟨b, 1, none⟩ (.int .i32 1)).cell? ⟨o, j, none⟩ = some v := fun j v hv => (World.cell?_setCell_other _ ⟨b, 1, none⟩ ⟨o, j, none⟩ _ (fun e => hob (by simpa using (congrArg Addr.block e).symm))).trans hv
    exact ⟨key _ _ h6.1, key _ _ h6.2.1, key _ _ h6.2.2.1, key _ _ h6.2.2.2.1, key _ _ h6.2.2.2.2.1, key _ _ h6.2.2.2.2.2⟩
  have hsz : (w.setCell ⟨b, 1, none⟩ (.int .i32 1)).heap.size = w.heap.size := by simp [World.setCell]
  have CB : Hid (Calls Tryz.prog 83 #[.pointer (some ⟨b, 0, none⟩)] (w.setCell ⟨b, 1, none⟩ (.int .i32 1)) fun e w' => e = .returned (.tuple #[]) ∧ Blk b #[.int .u32 0, .int .i32 1, x2, .iface 146 (.pointer (some ⟨w.heap.size + 1, 0, none⟩)), .slice none 0 0] 102 w' ∧ TabAt (w.heap.size + 1) w' ∧ w.grownBy w' (some b)) := by
    refine (buildOnce b o cap _ _ x2 x3 _ h1 h61).mono ?_
    rintro e w' ⟨rfl, a, t, g⟩
    rw [hsz] at a t
    exact ⟨rfl, a, t, grown_then (grown_set w b 1 _) g⟩
  have HC0 : Hid ((w.setCell ⟨b, 1, none⟩ (.int .i32 1)).cell? ⟨b, 0, none⟩ = some (.int .u32 0)) := h1.cell 0
  have hnot : ∀ (x : Bool) (w : World), (Op.unary .not (.bool x)).run Tryz.prog w = .ok (.bool (!x)) w := fun _ _ => rfl
  clear h h1 h6 h61 hsz
  go_enter_defers Tryz.func103, Tryz.ntmps103
  go_wp2_with (go_at_call 127; refine (lock_free ⟨b, 1, none⟩ _ (by go_simp) (by go_simp)).mono ?_; rintro e w' ⟨rfl, rfl⟩)
  refine (boolLoad ⟨b, 0, none⟩ _ HC0.out).mono ?_
  rintro e W1 ⟨rfl, rfl⟩
  go_wp2_with fail
  refine CB.out.mono ?_
  rintro e W2 ⟨rfl, hb2, hT2, hG2⟩
  have HB2 : Hid (Blk b #[.int .u32 0, .int .i32 1, x2, .iface 146 (.pointer (some ⟨w.heap.size + 1, 0, none⟩)), .slice none 0 0] 102 W2) := hb2
  have HT2 : Hid (TabAt (w.heap.size + 1) W2) := hT2
  have HG2 : Hid (w.grownBy W2 (some b)) := hG2
  clear hb2 hT2 hG2
  go_wp2
  refine leaves_cons (f := 129) (args := #[.pointer (some ⟨b, 0, none⟩), .bool true]) (by simp) (by simp [go_sem]) ?_
  refine (store_deferred ⟨b, 0, none⟩ (.int .u32 0) .returning _ (HB2.out.cell 0) (HB2.out.free 0)).mono ?_
  rintro e u' w'' ⟨rfl, rfl, rfl⟩
  have hb3 : Blk b #[.int .u32 1, .int .i32 1, x2, .iface 146 (.pointer (some ⟨w.heap.size + 1, 0, none⟩)), .slice none 0 0] 102 (W2.drew.setCell ⟨b, 0, none⟩ (.int .u32 1)) := by
    have := Blk.set (HB2.out.drew) 0 (.int .u32 1)
    simpa using this
  refine leaves_cons (f := 128) (args := #[.pointer (some ⟨b, 1, none⟩)]) (by simp [settle]) (by simp [go_sem]) ?_
  refine (unlock_deferred ⟨b, 1, none⟩ _ _ (hb3.cell 1) (hb3.free 1)).mono ?_
  rintro e u' w'' ⟨rfl, rfl, rfl⟩
  have hb4 : Blk b #[.int .u32 1, .int .i32 0, x2, .iface 146 (.pointer (some ⟨w.heap.size + 1, 0, none⟩)), .slice none 0 0] 102 ((W2.drew.setCell ⟨b, 0, none⟩ (.int .u32 1)).setCell ⟨b, 1, none⟩ (.int .i32 0)) := by
    have := Blk.set hb3 1 (.int .i32 0)
    simpa using this
  have hT4 : TabAt (w.heap.size + 1) ((W2.drew.setCell ⟨b, 0, none⟩ (.int .u32 1)).setCell ⟨b, 1, none⟩ (.int .i32 0)) := by
    obtain ⟨q, A, t1, t2, t3⟩ := HT2.out
    have hq : q ≠ b := by
      intro e
      have hh : W2.heap[b]? = some (.cells (rowT 3) 9 (0, 0)) := by rw [← e]; exact t3
      have h2 : W2.heap[b]? = _ := HB2.out
      rw [hh] at h2
      simp at h2
    have hq2 : w.heap.size + 1 ≠ b := by omega
    exact ⟨q, A, t1, ((t2.drew).other _ _ _ hq2).other _ _ _ hq2, ((t3.drew).other _ _ _ hq).other _ _ _ hq⟩
  have hG4 : w.grownBy ((W2.drew.setCell ⟨b, 0, none⟩ (.int .u32 1)).setCell ⟨b, 1, none⟩ (.int .i32 0)) (some b) := grown_then (grown_then (grownBy_drew HG2.out) (grown_set _ b 0 _)) (grown_set _ b 1 _)
  simp [Leaves, settle, results, Tryz.results103]
  exact ⟨hb4, hT4, hG4⟩

set_option maxHeartbeats 2000000 in
set_option maxRecDepth 100000 in
theorem onceDo (b o cap : Nat) (x2 x3 : Value) (w : World) (h : Blk b #[.int .u32 0, .int .i32 0, x2, x3, .slice (some ⟨o, 0, none⟩) 6 cap] 102 w) (h6 : Six o w) :
    Calls Tryz.prog 82 #[.pointer (some ⟨b, 0, none⟩), .func (.func 83) #[.pointer (some ⟨b, 0, none⟩)] #[]] w fun e w' => e = .returned (.tuple #[]) ∧ Blk b #[.int .u32 1, .int .i32 0, x2, .iface 146 (.pointer (some ⟨w.heap.size + 1, 0, none⟩)), .slice none 0 0] 102 w' ∧ TabAt (w.heap.size + 1) w' ∧ w.grownBy w' (some b) := by
  have HC0 : Hid (w.cell? ⟨b, 0, none⟩ = some (.int .u32 0)) := h.cell 0
  have CB := doSlow b o cap x2 x3 w h h6
  have HCB : Hid (Calls Tryz.prog 103 #[.pointer (some ⟨b, 0, none⟩), .func (.func 83) #[.pointer (some ⟨b, 0, none⟩)] #[]] w fun e w' => e = .returned (.tuple #[]) ∧ Blk b #[.int .u32 1, .int .i32 0, x2, .iface 146 (.pointer (some ⟨w.heap.size + 1, 0, none⟩)), .slice none 0 0] 102 w' ∧ TabAt (w.heap.size + 1) w' ∧ w.grownBy w' (some b)) := CB
  have hnot : ∀ (x : Bool) (w : World), (Op.unary .not (.bool x)).run Tryz.prog w = .ok (.bool (!x)) w := fun _ _ => rfl
  clear h h6 CB
  go_enter Tryz.func82, Tryz.ntmps82
  go_wp2_with fail
  refine (boolLoad ⟨b, 0, none⟩ _ HC0.out).mono ?_
  rintro e W1 ⟨rfl, hW⟩
  have hW' := hW.symm
  subst hW'
  go_wp2_with fail
  refine HCB.out.mono ?_
  rintro e W2 ⟨rfl, hb, ht, hg⟩
  have HB : Hid (Blk b #[.int .u32 1, .int .i32 0, x2, .iface 146 (.pointer (some ⟨w.heap.size + 1, 0, none⟩)), .slice none 0 0] 102 W2) := hb
  have HT : Hid (TabAt (w.heap.size + 1) W2) := ht
  have HG : Hid (w.grownBy W2 (some b)) := hg
  clear hb ht hg
  go_wp2
  go_end0
  exact ⟨rfl, HB.out, HT.out, HG.out⟩
end Go.Proofs.YtcmglinehdpnlaaGreatDoor
end

section
set_option linter.unusedVariables false
namespace Go.Proofs.YtcmglinehdpnlaaGreatDoor
open Go.RowKit Go.Shelf

/-- A byte that stays. -/
def stays (c : UInt8) : Bool := !(c == 13 || c == 10 || c == 9)
def dropT (l : List UInt8) : List UInt8 := l.filter stays
def gone (l : List UInt8) : Nat := l.count 13 + l.count 10 + l.count 9
theorem gone_add (l : List UInt8) : (dropT l).length + gone l = l.length := by
  induction l with
  | nil => rfl
  | cons c r ih =>
    unfold dropT gone at ih ⊢
    simp only [List.filter_cons, List.count_cons, List.length_cons]
    by_cases h1 : c = 13
    · subst h1; simp [stays]; omega
    · by_cases h2 : c = 10
      · subst h2; simp [stays]; omega
      · by_cases h3 : c = 9
        · subst h3; simp [stays]; omega
        · simp [stays, h1, h2, h3]; omega
theorem drop_same (l : List UInt8) (h : gone l = 0) : dropT l = l := by
  have := gone_add l
  have hl : (dropT l).length = l.length := by omega
  exact List.filter_eq_self.2 (by
    intro c hc
    have := List.length_filter_eq_length_iff.1 hl
    exact this c hc)
set_option maxRecDepth 100000 in
theorem nil_neq (W : World) : (binOp .neq 63 (.slice none 0 0) (.slice none 0 0)).run Tryz.prog W = .ok (.bool false) W := rfl
set_option maxRecDepth 100000 in
theorem some_neq (x : Addr) (n c : Nat) (W : World) : (binOp .neq 63 (.slice (some x) n c) (.slice none 0 0)).run Tryz.prog W = .ok (.bool true) W := rfl
/-- What the table says of a byte. -/
theorem TabAt.byte {h : Nat} {w : World} (t : TabAt h w) (c : UInt8) : (stays c = true ∧ w.cell? ⟨h, c.toNat, none⟩ = some (.slice none 0 0)) ∨ (stays c = false ∧ ∃ x n, w.cell? ⟨h, c.toNat, none⟩ = some (.slice (some x) 0 n)) := by
  obtain ⟨q, A, ⟨h1, h2, h3, h4⟩, hA, hR⟩ := t
  cases hs : stays c with
  | true =>
    left
    refine ⟨rfl, (hA.cell _).trans (h3 _ (UInt8.toNat_lt c) ?_)⟩
    intro hm
    unfold dn at hm
    have hm' : c.toNat = 13 ∨ c.toNat = 10 ∨ c.toNat = 9 := by simpa using hm
    rcases hm' with e | e | e
    · have : c = 13 := UInt8.toNat_inj.1 e
      subst this; simp [stays] at hs
    · have : c = 10 := UInt8.toNat_inj.1 e
      subst this; simp [stays] at hs
    · have : c = 9 := UInt8.toNat_inj.1 e
      subst this; simp [stays] at hs
  | false =>
    right
    have hm : c.toNat ∈ dn 3 := by
      unfold stays at hs
      simp at hs
      by_cases a : c = 13
      · rw [a]; decide
      · by_cases b : c = 10
        · rw [b]; decide
        · rw [hs a b]; decide
    obtain ⟨x, n, e⟩ := h4 _ hm
    exact ⟨rfl, x, n, (hA.cell _).trans e⟩
theorem TabAt.below {h : Nat} {w w' : World} (t : TabAt h w) (b : Below w.heap.size w w') : TabAt h w' := by
  obtain ⟨q, A, hT, hA, hR⟩ := t
  exact ⟨q, A, hT, hA.below b hA.lt, hR.below b hR.lt⟩
theorem drop_snoc (l : List UInt8) (k : Nat) (hk : k < l.length) : dropT (l.take (k + 1)) = if stays l[k] = true then dropT (l.take k) ++ [l[k]] else dropT (l.take k) := by
  unfold dropT
  rw [List.take_succ_eq_append_getElem hk, List.filter_append]
  by_cases h : stays l[k] = true
  · rw [if_pos h]; simp [h]
  · rw [if_neg h]; simp [h]
theorem gone_snoc (l : List UInt8) (k : Nat) (hk : k < l.length) : gone (l.take (k + 1)) = gone (l.take k) + if stays l[k] = true then 0 else 1 := by
  have h1 := gone_add (l.take (k + 1))
  have h2 := gone_add (l.take k)
  have h3 := drop_snoc l k hk
  have e1 : (l.take (k + 1)).length = k + 1 := by rw [List.length_take]; omega
  have e2 : (l.take k).length = k := by rw [List.length_take]; omega
  by_cases h : stays l[k] = true
  · rw [if_pos h] at h3 ⊢
    rw [h3, List.length_append] at h1
    simp only [List.length_cons, List.length_nil] at h1
    omega
  · rw [if_neg h] at h3 ⊢
    rw [h3] at h1
    omega
theorem drop_lt (l : List UInt8) (k : Nat) (hk : k < l.length) (h : stays l[k] = true) : (dropT (l.take k)).length < (dropT l).length := by
  have e : dropT l = dropT (l.take (k + 1)) ++ dropT (l.drop (k + 1)) := by
    unfold dropT; rw [← List.filter_append, List.take_append_drop]
  rw [e, drop_snoc l k hk, if_pos h]
  simp
theorem drop_le (l : List UInt8) (k : Nat) : (dropT (l.take k)).length ≤ (dropT l).length := by
  have e : dropT l = dropT (l.take k) ++ dropT (l.drop k) := by
    unfold dropT; rw [← List.filter_append, List.take_append_drop]
  rw [e]; simp
/-- The new row as far as it has been written. -/
def bufL (l : List UInt8) (k : Nat) : List UInt8 := dropT (l.take k) ++ List.replicate ((dropT l).length - (dropT (l.take k)).length) 0
theorem bufL_len (l : List UInt8) (k : Nat) : (bufL l k).length = (dropT l).length := by
  have := drop_le l k
  unfold bufL; rw [List.length_append, List.length_replicate]; omega
theorem bufL_yes (l : List UInt8) (k : Nat) (hk : k < l.length) (h : stays l[k] = true) : (bufL l k).set (dropT (l.take k)).length l[k] = bufL l (k + 1) := by
  have h1 := drop_lt l k hk h
  unfold bufL
  rw [drop_snoc l k hk, if_pos h]
  obtain ⟨m, hm⟩ : ∃ m, (dropT l).length - (dropT (l.take k)).length = m + 1 := ⟨(dropT l).length - (dropT (l.take k)).length - 1, by omega⟩
  have hm2 : (dropT l).length - (dropT (l.take k) ++ [l[k]]).length = m := by simp; omega
  rw [hm, hm2, List.replicate_succ, List.set_append_right _ _ (Nat.le_refl _)]
  simp
theorem bufL_no (l : List UInt8) (k : Nat) (hk : k < l.length) (h : stays l[k] = false) : bufL l (k + 1) = bufL l k := by
  unfold bufL; rw [drop_snoc l k hk, if_neg (by rw [h]; decide)]
theorem bufL_all (l : List UInt8) : bufL l l.length = dropT l := by unfold bufL; rw [List.take_length]; simp
theorem makeN (n : Nat) (W : World) (hn : n ≤ 1000) : (Instr.makeSlice 63 (.int .i64 (n : Int)) (.int .i64 (n : Int))).run Tryz.prog W = .ok (.slice (some ⟨W.heap.size, 0, none⟩) n n) (W.alloc (.cells (madeCells #[.int .u8 0] n) 5)) := by
  obtain ⟨i0, hi, hz0, hz1, hz2⟩ := info_parts infoByte
  have := run_make (P := Tryz.prog) W 63 5 i0 (.int .u8 0) Tryz.underlying63 hi hz0 .i64 .i64 n n (by omega) (by omega) (by rw [hz2]; omega) (by omega)
  rw [this, hz1, Int.toNat_natCast, Nat.mul_one]
  rfl
/-- Bytes as the cells of a block. -/
def rowC (l : List UInt8) : Array Value := (l.map fun c => Value.int .u8 (c.toNat : Int)).toArray
theorem rowC_zero (n : Nat) : madeCells #[.int .u8 0] n = rowC (List.replicate n 0) := by
  apply Array.ext'
  unfold rowC madeCells
  apply List.ext_getElem
  · simp
  · intro i h1 h2
    have e : [Value.int .u8 0][i % 1]?.getD default = Value.int .u8 0 := by rw [Nat.mod_one]; rfl
    simp [e]
theorem rowC_set (l : List UInt8) (k : Nat) (c : UInt8) : (rowC l).setIfInBounds k (.int .u8 (c.toNat : Int)) = rowC (l.set k c) := by
  unfold rowC; rw [List.setIfInBounds_toArray, List.map_set]
theorem rowC_at (l : List UInt8) (k : Nat) (h : k < l.length) : (rowC l)[k]? = some (.int .u8 (l[k].toNat : Int)) := by
  unfold rowC; simp [h]
theorem rowC_text {g cap : Nat} {l : List UInt8} {w : World} (h : Blk g (rowC l) 5 w) : (convert 63 9 (.slice (some ⟨g, 0, none⟩) l.length cap)).run Tryz.prog w = .ok (.string (mk l)) w := by
  refine run_convert_bytes_back w 63 9 5 ⟨g, 0, none⟩ cap l Tryz.underlying63 Tryz.underlying5 Tryz.underlying9 ?_
  intro j hj
  rw [addr_add, h.cell j, rowC_at l j hj]
theorem copy0 (d : Option Addr) (n c : Nat) (x : Addr) (m : Nat) (W : World) : (Builtin.copy_ #[63, 63] 3 #[.slice d n c, .slice (some x) 0 m]).run Tryz.prog W = .ok (.int .i64 0) W :=
  run_copy_none W 63 63 3 5 d (some x) n c 0 m Tryz.underlying63 (by kernel_rfl) (by simp)
theorem below_drewN' (w : World) (d : Nat) : Below w.heap.size w (w.drewN d) := ⟨rfl, rfl, rfl, Nat.le_refl _, fun _ _ => rfl⟩
def cK (n13 n10 n9 k : Nat) : Nat := if k = 0 then 0 else if k = 1 then n13 else if k = 2 then n13 + n10 else n13 + n10 + n9
set_option maxHeartbeats 4000000 in
set_option maxRecDepth 100000 in
theorem repl (h : Nat) (s : ByteArray) (w : World) (ht : TabAt h w) (hs : s.size ≤ 1000) :
    Calls Tryz.prog 238 #[.pointer (some ⟨h, 0, none⟩), .string s] w fun e w' => e = .returned (.string (mk (dropT s.data.toList))) ∧ Below w.heap.size w w' := by
  have HT : Hid (TabAt h w) := ht
  obtain ⟨q, A, ⟨t1, t2, t3, t4⟩, hA, hR⟩ := ht
  have c256 : w.cell? ⟨h, 256, none⟩ = some (.slice (some ⟨q, 0, none⟩) 3 3) := (hA.cell 256).trans t2
  have q0 : w.cell? ⟨q, 0, none⟩ = some (.string ⟨#[13]⟩) := hR.cell 0
  have q1 : w.cell? ⟨q, 1, none⟩ = some (.string ⟨#[10]⟩) := hR.cell 1
  have q2 : w.cell? ⟨q, 2, none⟩ = some (.string ⟨#[9]⟩) := hR.cell 2
  have hln : s.data.toList.length = s.size := by simp
  obtain ⟨n13, hn13⟩ : ∃ n, n = s.data.toList.count 13 := ⟨_, rfl⟩
  obtain ⟨n10, hn10⟩ : ∃ n, n = s.data.toList.count 10 := ⟨_, rfl⟩
  obtain ⟨n9, hn9⟩ : ∃ n, n = s.data.toList.count 9 := ⟨_, rfl⟩
  have HN13 : Hid (n13 = s.data.toList.count 13) := hn13
  have HN10 : Hid (n10 = s.data.toList.count 10) := hn10
  have HN9 : Hid (n9 = s.data.toList.count 9) := hn9
  have hgl : n13 + n10 + n9 ≤ s.size := by
    have := gone_add s.data.toList
    unfold gone at this
    omega
  have HX13 : Hid (∃ x n, w.cell? ⟨h, 13, none⟩ = some (.slice (some x) 0 n)) := by
    rcases HT.out.byte 13 with ⟨e, _⟩ | ⟨_, x, n, e⟩
    · exact absurd e (by decide)
    · exact ⟨x, n, e⟩
  have HX10 : Hid (∃ x n, w.cell? ⟨h, 10, none⟩ = some (.slice (some x) 0 n)) := by
    rcases HT.out.byte 10 with ⟨e, _⟩ | ⟨_, x, n, e⟩
    · exact absurd e (by decide)
    · exact ⟨x, n, e⟩
  have HX9 : Hid (∃ x n, w.cell? ⟨h, 9, none⟩ = some (.slice (some x) 0 n)) := by
    rcases HT.out.byte 9 with ⟨e, _⟩ | ⟨_, x, n, e⟩
    · exact absurd e (by decide)
    · exact ⟨x, n, e⟩
  clear hA hR t1 t2 t3 t4 hn13 hn10 hn9 hln
  by_cases hb : 24 ≤ s.size
  · have hbi : (24 : Int) ≤ (s.size : Int) := by omega
    go_enter Tryz.func238, Tryz.ntmps238
    go_wp2
    go_loopw [5, 6, 32] (fun ns an ix wr => ∃ (k d : Nat), k ≤ 3 ∧ ix = .int .i64 (k : Int) ∧ ns = .int .i64 ((s.size : Int) - (cK n13 n10 n9 k : Int)) ∧ an = .bool (cK n13 n10 n9 k != 0) ∧ wr = w.drewN d) (fun ns an ix wr => 3 - (intOf ix).toNat)
    case atStart => exact ⟨0, 0, by decide, rfl, by simp [cK], rfl, rfl⟩
    case round =>
      obtain ⟨k, d, hk, rfl, rfl, rfl, rfl⟩ := hrel
      rcases (show k = 0 ∨ k = 1 ∨ k = 2 ∨ k = 3 by omega) with rfl | rfl | rfl | rfl
      · obtain ⟨xr, nr, hx⟩ := HX13.out
        have hx' : (w.drewN d).cell? ⟨h, 13, none⟩ = some (.slice (some xr) 0 nr) := hx
        have hx2 : (w.drewN d).drew.cell? ⟨h, 13, none⟩ = some (.slice (some xr) 0 nr) := hx
        have e13 : (((ByteArray.mk #[13])[0]'(by decide)).toNat : Int) = 13 := rfl
        have CC : Hid (∀ W, Calls Tryz.prog 202 #[.string s, .string ⟨#[13]⟩] W fun e w' => e = .returned (.int .i64 (n13 : Int)) ∧ w' = W) := fun W => by rw [HN13.out]; exact Tryz.strings_Count_one s 13 W
        go_wp2_with fail
        refine (CC.out _).mono ?_
        rintro e W1 ⟨rfl, hW1⟩
        have hW1' := hW1.symm
        subst hW1'
        by_cases hz : n13 = 0
        · have hz' : ((n13 : Int) != 0) = false := by simp [hz]
          have HZ : Hid (n13 = 0) := hz
          clear hz CC
          go_wp2
          go_roundw
          case rel => exact ⟨1, d, by decide, by go_num, by rw [HZ.out]; simp [cK], by rw [HZ.out]; simp [cK], rfl⟩
          case measure => simp [intOf]
        · have hz' : ((n13 : Int) != 0) = true := by simp [hz]
          have HZ : Hid (n13 ≠ 0) := hz
          clear hz CC
          go_wp2
          go_quiet (fail)
          go_wp2
          go_roundw
          case rel => exact ⟨1, _, by decide, by go_num, by simp [cK, wrap64]; omega, by have := HZ.out; simp [cK]; omega, rfl⟩
          case measure => simp [intOf]
      · obtain ⟨xr, nr, hx⟩ := HX10.out
        have hx' : (w.drewN d).cell? ⟨h, 10, none⟩ = some (.slice (some xr) 0 nr) := hx
        have hx2 : (w.drewN d).drew.cell? ⟨h, 10, none⟩ = some (.slice (some xr) 0 nr) := hx
        have e13 : (((ByteArray.mk #[10])[0]'(by decide)).toNat : Int) = 10 := rfl
        have CC : Hid (∀ W, Calls Tryz.prog 202 #[.string s, .string ⟨#[10]⟩] W fun e w' => e = .returned (.int .i64 (n10 : Int)) ∧ w' = W) := fun W => by rw [HN10.out]; exact Tryz.strings_Count_one s 10 W
        go_wp2_with fail
        refine (CC.out _).mono ?_
        rintro e W1 ⟨rfl, hW1⟩
        have hW1' := hW1.symm
        subst hW1'
        by_cases hz : n10 = 0
        · have hz' : ((n10 : Int) != 0) = false := by simp [hz]
          have HZ : Hid (n10 = 0) := hz
          clear hz CC
          go_wp2
          go_roundw
          case rel => exact ⟨2, d, by decide, by go_num, by rw [HZ.out]; simp [cK], by rw [HZ.out]; simp [cK], rfl⟩
          case measure => simp [intOf]
        · have hz' : ((n10 : Int) != 0) = true := by simp [hz]
          have HZ : Hid (n10 ≠ 0) := hz
          clear hz CC
          go_wp2
          go_quiet (fail)
          go_wp2
          go_roundw
          case rel => exact ⟨2, _, by decide, by go_num, by simp [cK, wrap64]; omega, by have := HZ.out; simp [cK]; omega, rfl⟩
          case measure => simp [intOf]
      · obtain ⟨xr, nr, hx⟩ := HX9.out
        have hx' : (w.drewN d).cell? ⟨h, 9, none⟩ = some (.slice (some xr) 0 nr) := hx
        have hx2 : (w.drewN d).drew.cell? ⟨h, 9, none⟩ = some (.slice (some xr) 0 nr) := hx
        have e13 : (((ByteArray.mk #[9])[0]'(by decide)).toNat : Int) = 9 := rfl
        have CC : Hid (∀ W, Calls Tryz.prog 202 #[.string s, .string ⟨#[9]⟩] W fun e w' => e = .returned (.int .i64 (n9 : Int)) ∧ w' = W) := fun W => by rw [HN9.out]; exact Tryz.strings_Count_one s 9 W
        go_wp2_with fail
        refine (CC.out _).mono ?_
        rintro e W1 ⟨rfl, hW1⟩
        have hW1' := hW1.symm
        subst hW1'
        by_cases hz : n9 = 0
        · have hz' : ((n9 : Int) != 0) = false := by simp [hz]
          have HZ : Hid (n9 = 0) := hz
          clear hz CC
          go_wp2
          go_roundw
          case rel => exact ⟨3, d, by decide, by go_num, by rw [HZ.out]; simp [cK], by rw [HZ.out]; simp [cK], rfl⟩
          case measure => simp [intOf]
        · have hz' : ((n9 : Int) != 0) = true := by simp [hz]
          have HZ : Hid (n9 ≠ 0) := hz
          clear hz CC
          go_wp2
          go_quiet (fail)
          go_wp2
          go_roundw
          case rel => exact ⟨3, _, by decide, by go_num, by simp [cK, wrap64]; omega, by have := HZ.out; simp [cK]; omega, rfl⟩
          case measure => simp [intOf]
      · have HBW : Hid (Below w.heap.size w (w.drewN d)) := below_drewN' w d
        generalize w.drewN d = W0 at *
        have hcK : cK n13 n10 n9 3 = n13 + n10 + n9 := rfl
        have HGO : Hid (gone s.data.toList = n13 + n10 + n9) := by show _ = _; unfold gone; rw [HN13.out, HN10.out, HN9.out]
        have HLN : Hid (s.data.toList.length = s.size) := by show _ = _; simp
        have HAD : Hid ((dropT s.data.toList).length + (n13 + n10 + n9) = s.size) := by show _ = _; rw [← HGO.out, ← HLN.out]; exact gone_add _
        by_cases hz : n13 + n10 + n9 = 0
        · have HS : Hid (mk (dropT s.data.toList) = s) := by show _ = _; rw [drop_same _ (HGO.out.trans hz), mk_list]
          rw [hcK, hz]
          clear hz hcK
          go_wp2
          go_ret
          rw [HS.out]; exact ⟨rfl, HBW.out⟩
        · obtain ⟨N, hN⟩ : ∃ N, N = (dropT s.data.toList).length := ⟨_, rfl⟩
          have HNN : Hid (N = (dropT s.data.toList).length) := hN
          have hNs : (s.size : Int) - ((n13 + n10 + n9 : Nat) : Int) = (N : Int) := by have := HAD.out; omega
          have hN9 : N ≤ 1000 := by have := HAD.out; omega
          have hb0 : (n13 + n10 + n9 != 0) = true := by rw [bne_iff_ne]; exact hz
          rw [hcK, hNs, hb0]
          clear hcK hz hb0 hNs hN
          have hmk := makeN N W0 hN9
          have HW1 : Hid (Below w.heap.size w (W0.alloc (.cells (madeCells #[.int .u8 0] N) 5))) := HBW.out.alloc HBW.out.size _
          have HR1 : Hid (Blk W0.heap.size (rowC (bufL s.data.toList 0)) 5 (W0.alloc (.cells (madeCells #[.int .u8 0] N) 5))) := by
            show Blk _ _ _ _
            have e : bufL s.data.toList 0 = List.replicate N 0 := by unfold bufL; rw [HNN.out]; simp [dropT]
            rw [e, ← rowC_zero]; exact Blk.new W0 _ _
          have hw0 : w.heap.size ≤ W0.heap.size := HBW.out.size
          generalize W0.heap.size = g at *
          go_wp2
          go_loopw [13, 14] (fun j i wr => ∃ k : Nat, k ≤ s.size ∧ i = .int .i64 (k : Int) ∧ j = .int .i64 ((dropT (s.data.toList.take k)).length : Int) ∧ Hid (Blk g (rowC (bufL s.data.toList k)) 5 wr) ∧ Hid (Below w.heap.size w wr)) (fun j i wr => s.size - (intOf i).toNat)
          case atStart => exact ⟨0, Nat.zero_le _, rfl, by simp [dropT], HR1, HW1⟩
          case round =>
            clear hmk HR1 HW1
            obtain ⟨k, hk, rfl, rfl, HR, HW⟩ := hrel
            have hlq := HLN.out
            by_cases hp : k < s.size
            · have hkl : k < s.data.toList.length := by omega
              have hki : (k : Int) < (s.size : Int) := by omega
              have HSK : Hid (s.data.toList[k] = s[k]) := rfl
              have h256 : (s[k].toNat : Int) < 256 := by have := UInt8.toNat_lt s[k]; omega
              rcases (HT.out.below HW.out).byte s[k] with ⟨hst, hc⟩ | ⟨hst, xr, nr, hc⟩
              · have hjN : (dropT (s.data.toList.take k)).length < N := by rw [HNN.out]; exact drop_lt _ k hkl hst
                have hjb : (dropT (s.data.toList.take k)).length < (bufL s.data.toList k).length := by rw [bufL_len]; exact drop_lt _ k hkl hst
                have HJ : Hid ((dropT (s.data.toList.take (k + 1))).length = (dropT (s.data.toList.take k)).length + 1) := by show _ = _; rw [drop_snoc _ k hkl, if_pos (show stays s.data.toList[k] = true from hst)]; simp
                have HBF : Hid ((bufL s.data.toList k).set (dropT (s.data.toList.take k)).length s[k] = bufL s.data.toList (k + 1)) := bufL_yes _ k hkl hst
                generalize (dropT (s.data.toList.take k)).length = j at *
                have hji : (j : Int) < (N : Int) := by omega
                have cj := (HR.out.cell j).trans (rowC_at _ j hjb)
                have fj := HR.out.free j
                have HR2 : Hid (Blk g (rowC (bufL s.data.toList (k + 1))) 5 (wr.setCell ⟨g, j, none⟩ (.int .u8 (s[k].toNat : Int)))) := by
                  show Blk _ _ _ _
                  rw [← HBF.out, ← rowC_set]; exact Blk.set HR.out j _
                have HW2 : Hid (Below w.heap.size w (wr.setCell ⟨g, j, none⟩ (.int .u8 (s[k].toNat : Int)))) := HW.out.setCell (p := ⟨g, j, none⟩) hw0 _
                have hnq := nil_neq wr
                clear hjN hst hlq HSK
                go_wp2
                go_roundw
                case rel => exact ⟨k + 1, by omega, by go_num, by rw [HJ.out]; go_num, HR2, HW2⟩
                case measure => simp [intOf]; omega
              · have HJ : Hid ((dropT (s.data.toList.take (k + 1))).length = (dropT (s.data.toList.take k)).length) := by show _ = _; rw [drop_snoc _ k hkl, if_neg (by rw [show s.data.toList[k] = s[k] from rfl, hst]; decide)]
                have HBF : Hid (bufL s.data.toList (k + 1) = bufL s.data.toList k) := bufL_no _ k hkl hst
                have hjN : (dropT (s.data.toList.take k)).length ≤ N := by rw [HNN.out]; exact drop_le _ k
                generalize (dropT (s.data.toList.take k)).length = j at *
                have hji : (j : Int) ≤ (N : Int) := by omega
                have hsn := some_neq xr 0 nr wr
                have hcp := fun d n c => copy0 d n c xr nr wr.drew
                clear hst hlq HSK
                go_wp2
                go_region
                go_wp2
                go_roundw
                case rel => exact ⟨k + 1, by omega, by go_num, by rw [HJ.out], by rw [HBF.out]; exact HR.out.drew, HW.out.drew⟩
                case measure => simp [intOf]; omega
            · have hkk : k = s.size := by omega
              have HAL : Hid (bufL s.data.toList k = dropT s.data.toList) := by show _ = _; rw [hkk, ← HLN.out]; exact bufL_all _
              have hki : ¬ ((k : Int) < (s.size : Int)) := by omega
              have hcv := rowC_text (cap := N) (by rw [← HAL.out]; exact HR.out : Blk g (rowC (dropT s.data.toList)) 5 wr)
              rw [← HNN.out] at hcv
              clear hkk hlq
              go_wp2
              go_ret
              exact ⟨rfl, HW.out⟩
  · have hbi : ¬ ((24 : Int) ≤ (s.size : Int)) := by omega
    have HLN : Hid (s.data.toList.length = s.size) := by show _ = _; simp
    have HGO : Hid (gone s.data.toList = n13 + n10 + n9) := by show _ = _; unfold gone; rw [HN13.out, HN10.out, HN9.out]
    go_enter Tryz.func238, Tryz.ntmps238
    go_wp2
    go_loop [5, 6, 10] (fun ns an ix => ∃ k : Nat, k ≤ s.size ∧ ix = .int .i64 (k : Int) ∧ ns = .int .i64 ((s.size : Int) - (gone (s.data.toList.take k) : Int)) ∧ an = .bool (gone (s.data.toList.take k) != 0)) (fun ns an ix => s.size - (intOf ix).toNat)
    case atStart => exact ⟨0, Nat.zero_le _, rfl, by simp [gone], by simp [gone]⟩
    case round =>
      obtain ⟨k, hk, rfl, rfl, rfl⟩ := hrel
      by_cases hp : k < s.size
      · have hkl : k < s.data.toList.length := by have := HLN.out; omega
        have hki : (k : Int) < (s.size : Int) := by omega
        have h256 : (s[k].toNat : Int) < 256 := by have := UInt8.toNat_lt s[k]; omega
        have hgk : gone (s.data.toList.take k) ≤ k := by
          have h1 := gone_add (s.data.toList.take k)
          have h2 : (s.data.toList.take k).length ≤ k := by rw [List.length_take]; exact Nat.min_le_left _ _
          omega
        have hsn' := gone_snoc s.data.toList k hkl
        rcases HT.out.byte s[k] with ⟨hst, hc⟩ | ⟨hst, xr, nr, hc⟩
        · have HG1 : Hid (gone (s.data.toList.take (k + 1)) = gone (s.data.toList.take k)) := by show _ = _; rw [hsn', if_pos (show stays s.data.toList[k] = true from hst)]; rfl
          have hnq := nil_neq w
          clear hst hsn'
          generalize gone (s.data.toList.take k) = gk at *
          go_wp2
          go_round
          case rel => exact ⟨k + 1, by omega, by go_num, by rw [HG1.out], by rw [HG1.out]⟩
          case measure => simp [intOf]; omega
        · have HG1 : Hid (gone (s.data.toList.take (k + 1)) = gone (s.data.toList.take k) + 1) := by show _ = _; rw [hsn', if_neg (show ¬ stays s.data.toList[k] = true by rw [show s.data.toList[k] = s[k] from rfl, hst]; decide)]
          have hsn := some_neq xr 0 nr w
          clear hst hsn'
          generalize gone (s.data.toList.take k) = gk at *
          go_wp2
          go_round
          case rel => exact ⟨k + 1, by omega, by go_num, by rw [HG1.out]; go_num, by rw [HG1.out]; simp⟩
          case measure => simp [intOf]; omega
      · have hki : ¬ ((k : Int) < (s.size : Int)) := by omega
        have hga : gone (s.data.toList.take k) = cK n13 n10 n9 3 := by
          rw [List.take_of_length_le (by have := HLN.out; omega)]; exact HGO.out
        rw [hga]
        have HBW : Hid (Below w.heap.size w w) := Below.refl _ w
        clear hga
        have hcK : cK n13 n10 n9 3 = n13 + n10 + n9 := rfl
        have HAD : Hid ((dropT s.data.toList).length + (n13 + n10 + n9) = s.size) := by show _ = _; rw [← HGO.out, ← HLN.out]; exact gone_add _
        by_cases hz : n13 + n10 + n9 = 0
        · have HS : Hid (mk (dropT s.data.toList) = s) := by show _ = _; rw [drop_same _ (HGO.out.trans hz), mk_list]
          rw [hcK, hz]
          clear hz hcK
          go_wp2
          go_ret
          rw [HS.out]; exact ⟨rfl, HBW.out⟩
        · obtain ⟨N, hN⟩ : ∃ N, N = (dropT s.data.toList).length := ⟨_, rfl⟩
          have HNN : Hid (N = (dropT s.data.toList).length) := hN
          have hNs : (s.size : Int) - ((n13 + n10 + n9 : Nat) : Int) = (N : Int) := by have := HAD.out; omega
          have hN9 : N ≤ 1000 := by have := HAD.out; omega
          have hb0 : (n13 + n10 + n9 != 0) = true := by rw [bne_iff_ne]; exact hz
          rw [hcK, hNs, hb0]
          clear hcK hz hb0 hNs hN
          have hmk := makeN N w hN9
          have HW1 : Hid (Below w.heap.size w (w.alloc (.cells (madeCells #[.int .u8 0] N) 5))) := HBW.out.alloc HBW.out.size _
          have HR1 : Hid (Blk w.heap.size (rowC (bufL s.data.toList 0)) 5 (w.alloc (.cells (madeCells #[.int .u8 0] N) 5))) := by
            show Blk _ _ _ _
            have e : bufL s.data.toList 0 = List.replicate N 0 := by unfold bufL; rw [HNN.out]; simp [dropT]
            rw [e, ← rowC_zero]; exact Blk.new w _ _
          have hw0 : w.heap.size ≤ w.heap.size := Nat.le_refl _
          go_wp2
          go_loopw [13, 14] (fun j i wr => ∃ k : Nat, k ≤ s.size ∧ i = .int .i64 (k : Int) ∧ j = .int .i64 ((dropT (s.data.toList.take k)).length : Int) ∧ Hid (Blk w.heap.size (rowC (bufL s.data.toList k)) 5 wr) ∧ Hid (Below w.heap.size w wr)) (fun j i wr => s.size - (intOf i).toNat)
          case atStart => exact ⟨0, Nat.zero_le _, rfl, by simp [dropT], HR1, HW1⟩
          case round =>
            clear hmk HR1 HW1
            obtain ⟨k, hk, rfl, rfl, HR, HW⟩ := hrel
            have hlq := HLN.out
            by_cases hp : k < s.size
            · have hkl : k < s.data.toList.length := by omega
              have hki : (k : Int) < (s.size : Int) := by omega
              have HSK : Hid (s.data.toList[k] = s[k]) := rfl
              have h256 : (s[k].toNat : Int) < 256 := by have := UInt8.toNat_lt s[k]; omega
              rcases (HT.out.below HW.out).byte s[k] with ⟨hst, hc⟩ | ⟨hst, xr, nr, hc⟩
              · have hjN : (dropT (s.data.toList.take k)).length < N := by rw [HNN.out]; exact drop_lt _ k hkl hst
                have hjb : (dropT (s.data.toList.take k)).length < (bufL s.data.toList k).length := by rw [bufL_len]; exact drop_lt _ k hkl hst
                have HJ : Hid ((dropT (s.data.toList.take (k + 1))).length = (dropT (s.data.toList.take k)).length + 1) := by show _ = _; rw [drop_snoc _ k hkl, if_pos (show stays s.data.toList[k] = true from hst)]; simp
                have HBF : Hid ((bufL s.data.toList k).set (dropT (s.data.toList.take k)).length s[k] = bufL s.data.toList (k + 1)) := bufL_yes _ k hkl hst
                generalize (dropT (s.data.toList.take k)).length = j at *
                have hji : (j : Int) < (N : Int) := by omega
                have cj := (HR.out.cell j).trans (rowC_at _ j hjb)
                have fj := HR.out.free j
                have HR2 : Hid (Blk w.heap.size (rowC (bufL s.data.toList (k + 1))) 5 (wr.setCell ⟨w.heap.size, j, none⟩ (.int .u8 (s[k].toNat : Int)))) := by
                  show Blk _ _ _ _
                  rw [← HBF.out, ← rowC_set]; exact Blk.set HR.out j _
                have HW2 : Hid (Below w.heap.size w (wr.setCell ⟨w.heap.size, j, none⟩ (.int .u8 (s[k].toNat : Int)))) := HW.out.setCell (p := ⟨w.heap.size, j, none⟩) hw0 _
                have hnq := nil_neq wr
                clear hjN hst hlq HSK
                go_wp2
                go_roundw
                case rel => exact ⟨k + 1, by omega, by go_num, by rw [HJ.out]; go_num, HR2, HW2⟩
                case measure => simp [intOf]; omega
              · have HJ : Hid ((dropT (s.data.toList.take (k + 1))).length = (dropT (s.data.toList.take k)).length) := by show _ = _; rw [drop_snoc _ k hkl, if_neg (by rw [show s.data.toList[k] = s[k] from rfl, hst]; decide)]
                have HBF : Hid (bufL s.data.toList (k + 1) = bufL s.data.toList k) := bufL_no _ k hkl hst
                have hjN : (dropT (s.data.toList.take k)).length ≤ N := by rw [HNN.out]; exact drop_le _ k
                generalize (dropT (s.data.toList.take k)).length = j at *
                have hji : (j : Int) ≤ (N : Int) := by omega
                have hsn := some_neq xr 0 nr wr
                have hcp := fun d n c => copy0 d n c xr nr wr.drew
                clear hst hlq HSK
                go_wp2
                go_region
                go_wp2
                go_roundw
                case rel => exact ⟨k + 1, by omega, by go_num, by rw [HJ.out], by rw [HBF.out]; exact HR.out.drew, HW.out.drew⟩
                case measure => simp [intOf]; omega
            · have hkk : k = s.size := by omega
              have HAL : Hid (bufL s.data.toList k = dropT s.data.toList) := by show _ = _; rw [hkk, ← HLN.out]; exact bufL_all _
              have hki : ¬ ((k : Int) < (s.size : Int)) := by omega
              have hcv := rowC_text (cap := N) (by rw [← HAL.out]; exact HR.out : Blk w.heap.size (rowC (dropT s.data.toList)) 5 wr)
              rw [← HNN.out] at hcv
              clear hkk hlq
              go_wp2
              go_ret
              exact ⟨rfl, HW.out⟩
end Go.Proofs.YtcmglinehdpnlaaGreatDoor
end

section
set_option linter.unusedVariables false
set_option linter.unusedSimpArgs false
namespace Go.Proofs.YtcmglinehdpnlaaGreatDoor
open Go.RowKit Go.Shelf

def six : List (List UInt8) := [[9], [], [10], [], [13], []]
/-- The six texts as the caller lays them. -/
def sixC : Array Value := #[.string ⟨#[9]⟩, .string ⟨#[]⟩, .string ⟨#[10]⟩, .string ⟨#[]⟩, .string ⟨#[13]⟩, .string ⟨#[]⟩]
theorem six_at (g : Nat) (w : World) (h : StrsAt g six w) : Six g w :=
  ⟨h.cell 0 (by decide), h.cell 1 (by decide), h.cell 2 (by decide), h.cell 3 (by decide), h.cell 4 (by decide), h.cell 5 (by decide)⟩
theorem six_q (b : Nat) (w : World) (h : Blk b sixC 9 w) : ∀ j (hj : j < six.length), w.cell? ⟨b, 0 + j, none⟩ = some (.string (mk six[j])) := by
  intro j hj
  have hj' : j < 6 := hj
  rw [Nat.zero_add, h.cell j]
  match j, hj' with
  | 0, _ => rfl
  | 1, _ => rfl
  | 2, _ => rfl
  | 3, _ => rfl
  | 4, _ => rfl
  | 5, _ => rfl

set_option maxHeartbeats 2000000 in
set_option maxRecDepth 100000 in
theorem newReplacer (b c : Nat) (w : World) (h : Blk b sixC 9 w) :
    Calls Tryz.prog 55 #[.slice (some ⟨b, 0, none⟩) 6 c] w fun e w' => ∃ r o cap, e = .returned (.pointer (some ⟨r, 0, none⟩)) ∧ w.heap.size ≤ r ∧ Blk r #[.int .u32 0, .int .i32 0, .int .u32 0, .nilIface, .slice (some ⟨o, 0, none⟩) 6 cap] 102 w' ∧ Six o w' ∧ Below w.heap.size w w' := by
  have hq : Hid (∀ j (hj : j < six.length), w.cell? ⟨b, 0 + j, none⟩ = some (.string (mk six[j]))) := six_q b w h
  have H0 : Hid (OwnS w.heap.size (.slice none 0 0) [] w) := ownS_nil w _
  clear h
  go_enter Tryz.func55, Tryz.ntmps55
  go_wp2_with (at_builtin; refine wpAppendStrs w rfl _ _ rfl w.heap.size _ [] six H0.out rfl b 0 c rfl hq.out (by decide) (Nat.le_refl _) ?_; intro v1 w1 R b1; rw [List.nil_append] at R; obtain ⟨o, cap, rfl, ho, hcap, hst⟩ := ownS_strs R (by decide))
  have H6 : Hid (Six o w1) := six_at o w1 hst
  have HB1 : Hid (Below w.heap.size w w1) := b1
  clear R hst b1 hcap
  go_ret
  refine ⟨w1.heap.size, o, cap, rfl, HB1.out.size, Blk.new w1 _ _, ?_, HB1.out.alloc HB1.out.size _⟩
  exact H6.out.low ((Below.refl _ w1).alloc (Nat.le_refl _) _) (Nat.le_refl _)

set_option maxHeartbeats 2000000 in
set_option maxRecDepth 100000 in
theorem replaceAll6 (r o cap : Nat) (s : ByteArray) (w : World) (h : Blk r #[.int .u32 0, .int .i32 0, .int .u32 0, .nilIface, .slice (some ⟨o, 0, none⟩) 6 cap] 102 w) (h6 : Six o w) (hs : s.size ≤ 1000) :
    Calls Tryz.prog 56 #[.pointer (some ⟨r, 0, none⟩), .string s] w fun e w' => e = .returned (.string (mk (dropT s.data.toList))) ∧ w.grownBy w' (some r) := by
  have CO := onceDo r o cap _ _ w h h6
  have HCO : Hid (Calls Tryz.prog 82 #[.pointer (some ⟨r, 0, none⟩), .func (.func 83) #[.pointer (some ⟨r, 0, none⟩)] #[]] w fun e w' => e = .returned (.tuple #[]) ∧ Blk r #[.int .u32 1, .int .i32 0, .int .u32 0, .iface 146 (.pointer (some ⟨w.heap.size + 1, 0, none⟩)), .slice none 0 0] 102 w' ∧ TabAt (w.heap.size + 1) w' ∧ w.grownBy w' (some r)) := CO
  clear h h6 CO
  go_enter Tryz.func56, Tryz.ntmps56
  go_wp2_with fail
  refine HCO.out.mono ?_
  rintro e W1 ⟨rfl, hb, ht, hg⟩
  have c3 : W1.cell? ⟨r, 3, none⟩ = some (.iface 146 (.pointer (some ⟨w.heap.size + 1, 0, none⟩))) := hb.cell 3
  have HT : Hid (TabAt (w.heap.size + 1) W1) := ht
  have HG : Hid (w.grownBy W1 (some r)) := hg
  clear hb ht hg
  go_wp2_with fail
  refine (repl (w.heap.size + 1) s W1 HT.out hs).mono ?_
  rintro e W2 ⟨rfl, b2⟩
  have HG2 : Hid (w.grownBy W2 (some r)) := grown_low HG.out b2 HG.out.size
  clear b2
  go_wp2
  go_ret
  exact ⟨rfl, HG2.out⟩
end Go.Proofs.YtcmglinehdpnlaaGreatDoor
end

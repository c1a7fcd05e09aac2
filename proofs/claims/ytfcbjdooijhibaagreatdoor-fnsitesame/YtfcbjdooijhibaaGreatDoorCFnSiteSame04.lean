/- An origin as a key of a map. Plain facts: texts that no set changes; numbers and hosts that are written are read as themselves. Plain facts: a host that is written is read as itself; what is read is a host that is ok. Plain facts: an address in its normal form, written, is read as itself. -/
import Derived.Test.YtfcbjdooijhibaaGreatDoorCFnSiteSame02
import Derived.Maps.OwnOps
import Derived.Maps.Views
import Derived.WideKeyEntry
import Derived.DeepKeys4
import Derived.Test.YtfcbjdooijhibaaGreatDoorD14
import Derived.Test.YtfcbjdooijhibaaGreatDoorD13
set_option linter.unusedVariables false
set_option linter.unusedSimpArgs false
set_option maxRecDepth 100000
section
namespace Go.Proofs.YtfcbjdooijhibaaGreatDoor
open Go.RowKit Go.Shelf
open Go.Maps (Keyed)
open Go.WideMaps (KeyLaw)
theorem org_wide : (match Tryz.prog.underlying 40 with | some (.array _ _) | some (.struct _) => true | _ => false) = true := by kernel_rfl
theorem org_keyType : Tryz.prog.keyType 40 = true := by kernel_rfl
theorem org_size : decide (3 ≤ Tryz.prog.types.size) = true := by kernel_rfl
theorem org_row : decide (40 < Tryz.prog.types.size) = true := by kernel_rfl
theorem org_laidOut : laidOutB Tryz.prog = true := by kernel_rfl
theorem org_law : KeyLaw Tryz.prog 40 := deep_law_laid org_laidOut (m := 6) (by omega) (of_decide_eq_true org_row) (by kernel_rfl) org_wide
def orgKey (s : ByteArray) (k : Int) (t : ByteArray) (x p : Int) : Lit := .string (keyBytes [.string s.data.toList, .int .i64 k, .string t.data.toList, .int .i64 x, .int .i64 p])
theorem cells_o : Tryz.prog.cellsOf 40 = 5 := by kernel_rfl
theorem cells_h : Tryz.prog.cellsOf 24 = 3 := by kernel_rfl
theorem cells_s : Tryz.prog.cellsOf 9 = 1 := by kernel_rfl
theorem cells_i : Tryz.prog.cellsOf 3 = 1 := by kernel_rfl
theorem org_key (s : ByteArray) (k : Int) (t : ByteArray) (x p : Int) (hs : s.size ≤ maxLen) (hk : (Lit.int .i64 k).wf = true) (ht : t.size ≤ maxLen) (hx : (Lit.int .i64 x).wf = true) (hp : (Lit.int .i64 p).wf = true) :
  keyOf Tryz.prog 40 (.agg #[.string s, .int .i64 k, .string t, .int .i64 x, .int .i64 p]) = some (orgKey s k t x p) := by
 obtain ⟨m, hm⟩ := Nat.exists_eq_add_of_le (of_decide_eq_true org_size)
 have hl : Tryz.prog.keyLits (Tryz.prog.types.size + 1) 40 [.string s, .int .i64 k, .string t, .int .i64 x, .int .i64 p] = some [.string s.data.toList, .int .i64 k, .string t.data.toList, .int .i64 x, .int .i64 p] := by
  rw [hm, show 3 + m + 1 = m + 1 + 1 + 1 + 1 by omega]
  simp [Program.keyLits, Tryz.underlying40, Tryz.underlying24, Tryz.underlying9, Tryz.underlying3, cells_o, cells_h, cells_s, cells_i, hs, hk, ht, hx, hp]
  rw [if_pos (by decide)]
  rfl
 unfold keyOf
 have hf : (Value.agg #[.string s, .int .i64 k, .string t, .int .i64 x, .int .i64 p]).formed Tryz.prog 40 = true := by
  simp [Value.formed, Tryz.underlying40, cells_o]
 rw [Tryz.underlying40]
 simp only [org_keyType, hf, Bool.and_self, if_true]
 have e : (Value.agg #[.string s, .int .i64 k, .string t, .int .i64 x, .int .i64 p]).cells.toList = [.string s, .int .i64 k, .string t, .int .i64 x, .int .i64 p] := by simp [Value.cells]
 rw [e, hl]
 rfl
end Go.Proofs.YtfcbjdooijhibaaGreatDoor
end
section
namespace Go.Proofs.YtfcbjdooijhibaaGreatDoor
open Go.RowKit Go.Shelf
def clo (set : Int) (l : List UInt8) : Prop := ∀ c ∈ l, isIn set c = false
theorem set_cases (set : Int) (hs : 1 ≤ set ∧ set ≤ 5) : set = 1 ∨ set = 2 ∨ set = 3 ∨ set = 4 ∨ set = 5 := by omega
theorem fig_free (set : Int) (hs : 1 ≤ set ∧ set ≤ 5) (n : Nat) (hn : n < 16) : isIn set (fig n) = false := by
 have h : ∀ n : _root_.Fin 16, isIn 1 (fig n) = false ∧ isIn 2 (fig n) = false ∧ isIn 3 (fig n) = false ∧ isIn 4 (fig n) = false ∧ isIn 5 (fig n) = false := by decide
 have := h ⟨n, hn⟩
 rcases set_cases set hs with rfl | rfl | rfl | rfl | rfl
 ·exact this.1
 ·exact this.2.1
 ·exact this.2.2.1
 ·exact this.2.2.2.1
 ·exact this.2.2.2.2
theorem pct_free (set : Int) (hs : 1 ≤ set ∧ set ≤ 5) : isIn set 37 = false := by
 rcases set_cases set hs with rfl | rfl | rfl | rfl | rfl <;> decide
theorem enc_clo (set : Int) (hs : 1 ≤ set ∧ set ≤ 5) (l : List UInt8) : clo set (enc (isIn set) l) := by
 intro c hc
 unfold enc at hc
 rw [List.mem_flatMap] at hc
 obtain ⟨d, hd, hc⟩ := hc
 have hf := fig_shr d
 by_cases h : isIn set d = true
 ·rw [encB_yes _ _ h] at hc
  simp only [List.mem_cons, List.not_mem_nil, or_false] at hc
  rcases hc with rfl | rfl | rfl
  ·exact pct_free set hs
  ·exact fig_free set hs _ hf.1
  ·exact fig_free set hs _ hf.2
 ·have h' : isIn set d = false := by simpa using h
  rw [encB_no _ _ h'] at hc
  simp only [List.mem_cons, List.not_mem_nil, or_false] at hc
  rw [hc]; exact h'
theorem wr_small (set : Int) (l : List UInt8) (hl : l.length ≤ 200) : (wrT set l).data.toList = enc (isIn set) l := by
 unfold wrT
 rw [encode_small set (mk l) (by rw [mk_size]; exact hl), mk_data]
theorem wr_clo (set : Int) (hs : 1 ≤ set ∧ set ≤ 5) (l : List UInt8) (hl : l.length ≤ 200) : clo set (wrT set l).data.toList := by
 rw [wr_small set l hl]; exact enc_clo set hs l
theorem clo_nil (set : Int) : clo set [] := fun c hc => by cases hc
end Go.Proofs.YtfcbjdooijhibaaGreatDoor
end
section
namespace Go.Proofs.YtfcbjdooijhibaaGreatDoor
open Go.RowKit Go.Shelf
theorem fourFrom_range (n : Nat) (hn : n ≤ 4) : ∀ (ps : List (List UInt8)) (i : Nat) (a r : Int), i + ps.length = n → 0 ≤ a → (i < n → a < midI i) → (i = n → a ≤ 4294967295) → fourFrom n i a ps = some r → 0 ≤ r ∧ r ≤ 4294967295 := by
 intro ps
 induction ps with
 | nil =>
  intro i a r hi h0 h1 h2 h
  have : a = r := by simpa [fourFrom] using h
  have := h2 (by simpa using hi)
  omega
 | cons p ps ih =>
  intro i a r hi h0 h1 h2 h
  have hi' : i + 1 + ps.length = n := by simpa [Nat.add_assoc, Nat.add_comm 1] using hi
  have hm := h1 (by omega)
  cases hp : partN p with
  | none => rw [four_none _ _ _ _ _ hp] at h; cases h
  | some v =>
   have hv0 := partN_ge p v hp
   by_cases hl : i + 1 = n
   ·by_cases hc : v < capI i
    ·rw [four_last n i a v p ps hp hl hc] at h
     refine ih (i + 1) _ r hi' ?_ (fun x => by omega) (fun _ => ?_) h
     ·have : 0 ≤ capI i := by unfold capI; split <;> decide
      have := Int.mul_nonneg h0 this
      omega
     ·have hi3 : i = 0 ∨ i = 1 ∨ i = 2 ∨ i = 3 := by omega
      rcases hi3 with rfl | rfl | rfl | rfl <;> simp only [midI, capI] at hm hc ⊢ <;> omega
    ·rw [four_last_no n i a v p ps hp hl hc] at h; cases h
   ·by_cases hc : v < 256
    ·rw [four_mid n i a v p ps hp hl hc] at h
     refine ih (i + 1) _ r hi' (by omega) (fun x => ?_) (fun x => absurd x hl) h
     have hi3 : i = 0 ∨ i = 1 ∨ i = 2 := by omega
     rcases hi3 with rfl | rfl | rfl <;> simp only [midI] at hm ⊢ <;> omega
    ·rw [four_mid_no n i a v p ps hp hl hc] at h; cases h
theorem fourL_range (l : List UInt8) (a : Int) (h : fourL l = some a) : 0 ≤ a ∧ a ≤ 4294967295 := by
 unfold fourL at h
 split at h
 ·rename_i hc
  have hne := partsL_ne l
  exact fourFrom_range _ hc.2 (partsL l) 0 0 a (by omega) (by omega) (fun _ => by show (0 : Int) < 1; decide) (fun e => by omega) h
 ·cases h
def hostN (k : Int) (s : ByteArray) (a : Int) : Prop := named k s a = true ∨ (k = 2 ∧ s = ⟨#[]⟩ ∧ 0 ≤ a ∧ a ≤ 4294967295)
theorem host_read (l : List UInt8) (h : getOk l = true) : hostN (gk l) (gn l) (ga l) := by
 unfold getOk at h
 by_cases hl : l.length ≤ 200
 ·rw [if_pos hl] at h
  unfold gk gn ga
  rw [if_pos hl, if_pos hl, if_pos hl]
  generalize readL l = t at h ⊢
  unfold hostOkL at h
  have hk := of_decide_eq_true h
  unfold hostKind at hk
  by_cases he : endsL t = true
  ·rw [if_pos he] at hk
   by_cases hf : fourOk t = true
   ·right
    unfold hostKind hostName hostAddr
    rw [if_pos he, if_pos hf, if_pos he, if_pos he, if_pos hf]
    refine ⟨rfl, rfl, ?_⟩
    cases h4 : fourL t with
    | none => rw [(four_is_none t h4).1] at hf; cases hf
    | some z => rw [(four_is_some t z h4).2]; exact fourL_range t z h4
   ·rw [if_neg hf] at hk; exact absurd rfl hk
  ·rw [if_neg he] at hk
   by_cases hn : nameL t = true
   ·left
    unfold hostKind hostName hostAddr
    rw [if_neg he, if_pos hn, if_neg he, if_pos hn, if_neg he]
    unfold named
    rw [mk_data, hn]
    have : endsL t = false := by simpa using he
    rw [this]; rfl
   ·rw [if_neg hn] at hk; exact absurd rfl hk
 ·rw [if_neg hl] at h; cases h
end Go.Proofs.YtfcbjdooijhibaaGreatDoor
end
section
namespace Go.Proofs.YtfcbjdooijhibaaGreatDoor
open Go.RowKit Go.Shelf
structure Nf (q : P) : Prop where
 make ::
 sch : schL q.sc.data.toList = true
 que : (q.hq = true ∧ clo 2 q.qu.data.toList) ∨ (q.hq = false ∧ q.qu = ⟨#[]⟩)
 frg : (q.hf = true ∧ clo 3 q.fr.data.toList) ∨ (q.hf = false ∧ q.fr = ⟨#[]⟩)
 main : (ownZ q.sc < 0 ∧ q.us = ⟨#[]⟩ ∧ q.pw = ⟨#[]⟩ ∧ q.hk = 0 ∧ q.hn = ⟨#[]⟩ ∧ q.ha = 0 ∧ q.po = -1 ∧ q.ps = [] ∧ clo 5 q.op.data.toList ∧ ∀ c ∈ q.op.data.toList, c ≠ 63 ∧ c ≠ 35) ∨
  (0 ≤ ownZ q.sc ∧ q.op = ⟨#[]⟩ ∧ clo 4 q.us.data.toList ∧ clo 4 q.pw.data.toList ∧ hostN q.hk q.hn q.ha ∧ (q.po = -1 ∨ (0 ≤ q.po ∧ q.po ≤ 65535 ∧ q.po ≠ ownZ q.sc)) ∧ q.ps ≠ [] ∧ ∀ p ∈ q.ps, fixP p)
end Go.Proofs.YtfcbjdooijhibaaGreatDoor
end

/- The law FnExactOriginPut answers true at every origin and leaves its argument as it was; the five tables of the library that its row lays are tied to the program's text by the card. -/
import Derived.Test.YtdiloljmpcapfaaDoorCards
import Derived.Test.YtdiloljmpcapfaaDoorTie
import Derived.Test.YtdiloljmpcapfaaDoorWFnExactOriginPut
import Derived.WalkKit
import Derived.ProofKit
import Derived.OpenShut
import Derived.ShutString
import Derived.Below
import Derived.Deep.DeepHandedRow
import Derived.Deep.DeepLaidRun
import Derived.Deep.Strs
import Derived.Lib.LaidTab
set_option linter.unusedVariables false
namespace Go.Proofs.YtdiloljmpcapfaaDoor
open Go.ChangeShapes Go.WideShapes Go.ChangeAt Go.RowKit
open Go.ChangeMaps (open_string shut_string)

theorem host_fields : ∃ f0 f1 f2 : Field, Tryd.prog.underlying 23 = some (.struct #[f0, f1, f2]) ∧ f0.type = 3 ∧ f1.type = 9 ∧ f2.type = 3 ∧ f0.offset = 0 ∧ f1.offset = 1 ∧ f2.offset = 2 := ⟨_, _, _, Tryd.underlying23, rfl, rfl, rfl, rfl, rfl, rfl⟩
theorem host_cells : Tryd.prog.cellsOf 23 = 3 ∧ Tryd.prog.cellsOf 3 = 1 ∧ Tryd.prog.cellsOf 9 = 1 := ⟨by kernel_rfl, by kernel_rfl, by kernel_rfl⟩

theorem org_fields : ∃ f0 f1 f2 : Field, Tryd.prog.underlying 25 = some (.struct #[f0, f1, f2]) ∧ f0.type = 9 ∧ f1.type = 23 ∧ f2.type = 3 ∧ f0.offset = 0 ∧ f1.offset = 1 ∧ f2.offset = 4 := ⟨_, _, _, Tryd.underlying25, rfl, rfl, rfl, rfl, rfl, rfl⟩
theorem org_cells : Tryd.prog.cellsOf 25 = 5 := by kernel_rfl

set_option maxRecDepth 100000 in
theorem open_origin {H : Type} {enc : TypeId × Value → H} {W : World} {r : Reach} {b0 base : Nat} {sp : Nat → Bool} {held : Bool} {v : Value} {d : DataW H} {ps : List MemPlace} (hval : Value.okWide Tryd.prog W r b0 25 v) (hd : DataW.Trod enc Tryd.prog W base sp held 25 v d ps) :
    ∃ (c : ByteArray) (k : Int) (s : ByteArray) (a p : Int), v = .agg #[.string c, .int .i64 k, .string s, .int .i64 a, .int .i64 p] ∧ d = .agg [.lit (.string c.data.toList), .agg [.lit (.int .i64 k), .lit (.string s.data.toList), .lit (.int .i64 a)], .lit (.int .i64 p)] ∧ ps = [] ∧ c.size ≤ maxLen ∧ s.size ≤ maxLen ∧ (Lit.int .i64 k).wf = true ∧ (Lit.int .i64 a).wf = true ∧ (Lit.int .i64 p).wf = true := by
  obtain ⟨f0, f1, f2, hu, t0, t1, t2, o0, o1, o2⟩ := org_fields
  obtain ⟨i0, i1, i2, hv, u0, u1, u2, q0, q1, q2⟩ := host_fields
  obtain ⟨n3, n1, n2⟩ := host_cells
  obtain ⟨cs, rfl, hsz⟩ := okWide_struct hu hval
  obtain ⟨fuel, hf⟩ := hd
  obtain ⟨y0, y1, y2, n, hx, hl, h0, h1, h2⟩ := Go.Deep.trod_struct3 hu hf
  rw [org_cells] at hsz
  obtain ⟨c0, c1, c2, c3, c4, rfl⟩ : ∃ c0 c1 c2 c3 c4, cs = #[c0, c1, c2, c3, c4] := by
    match cs, hsz with
    | ⟨[c0, c1, c2, c3, c4]⟩, _ => exact ⟨c0, c1, c2, c3, c4, rfl⟩
  rw [t0, o0, n2] at h0
  rw [t1, o1, n3] at h1
  rw [t2, o2, n1] at h2
  have h1' : DataW.trod enc Tryd.prog W base sp held n 23 [c1, c2, c3] = some y1 := h1
  obtain ⟨x0, x1, x2, m, hx', hl', g0, g1, g2⟩ := Go.Deep.trod_struct3 hv h1'
  rw [u0, q0, n1] at g0
  rw [u1, q1, n2] at g1
  rw [u2, q2, n1] at g2
  obtain ⟨c, e0, rfl, w0⟩ := DataW.trod_string Tryd.underlying9 h0
  obtain ⟨p, e4, rfl, w4⟩ := DataW.trod_int Tryd.underlying3 h2
  obtain ⟨k, e1, rfl, w1⟩ := DataW.trod_int Tryd.underlying3 g0
  obtain ⟨s, e2, rfl, w2⟩ := DataW.trod_string Tryd.underlying9 g1
  obtain ⟨a, e3, rfl, w3⟩ := DataW.trod_int Tryd.underlying3 g2
  simp [Value.cells] at e0 e1 e2 e3 e4
  subst e0 e1 e2 e3 e4
  subst hx'
  obtain ⟨hd, hp⟩ := Prod.mk.inj hx
  exact ⟨c, k, s, a, p, rfl, hd, by simpa using hp, w0, w2, w1, w3, w4⟩

set_option maxRecDepth 100000 in
theorem shut_origin {H : Type} {enc : TypeId × Value → H} {W : World} {base : Nat} {sp : Nat → Bool} {held : Bool} {c : ByteArray} {k : Int} {s : ByteArray} {a p : Int} (wc : c.size ≤ maxLen) (w1 : s.size ≤ maxLen) (w0 : (Lit.int .i64 k).wf = true) (w2 : (Lit.int .i64 a).wf = true) (w4 : (Lit.int .i64 p).wf = true) :
    DataW.Trod enc Tryd.prog W base sp held 25 (.agg #[.string c, .int .i64 k, .string s, .int .i64 a, .int .i64 p]) (.agg [.lit (.string c.data.toList), .agg [.lit (.int .i64 k), .lit (.string s.data.toList), .lit (.int .i64 a)], .lit (.int .i64 p)]) [] := by
  obtain ⟨f0, f1, f2, hu, t0, t1, t2, o0, o1, o2⟩ := org_fields
  obtain ⟨i0, i1, i2, hv, u0, u1, u2, q0, q1, q2⟩ := host_fields
  obtain ⟨n3, n1, n2⟩ := host_cells
  have hi : ∀ x : Int, (Lit.int .i64 x).wf = true → DataW.trod enc Tryd.prog W base sp held 1 3 [.int .i64 x] = some (.lit (.int .i64 x), []) := fun x hx => trod_int_mk 0 Tryd.underlying3 hx
  have hi2 : ∀ x : Int, (Lit.int .i64 x).wf = true → DataW.trod enc Tryd.prog W base sp held 2 3 [.int .i64 x] = some (.lit (.int .i64 x), []) := fun x hx => trod_int_mk 1 Tryd.underlying3 hx
  have hst : ∀ z : ByteArray, z.size ≤ maxLen → DataW.trod enc Tryd.prog W base sp held 1 9 [.string z] = some (.lit (.string z.data.toList), []) := fun z hz => by simp [DataW.trod, Tryd.underlying9, hz]
  have hst2 : ∀ z : ByteArray, z.size ≤ maxLen → DataW.trod enc Tryd.prog W base sp held 2 9 [.string z] = some (.lit (.string z.data.toList), []) := fun z hz => by simp [DataW.trod, Tryd.underlying9, hz]
  have hh : DataW.trod enc Tryd.prog W base sp held 2 23 [.int .i64 k, .string s, .int .i64 a] = some (.agg [.lit (.int .i64 k), .lit (.string s.data.toList), .lit (.int .i64 a)], []) :=
    Go.Deep.trod_struct3_mk (n := 1) (cs := [.int .i64 k, .string s, .int .i64 a]) (y0 := (.lit (.int .i64 k), [])) (y1 := (.lit (.string s.data.toList), [])) (y2 := (.lit (.int .i64 a), [])) hv (by rw [n3]; rfl) (by rw [u0, q0, n1]; exact hi k w0) (by rw [u1, q1, n2]; exact hst s w1) (by rw [u2, q2, n1]; exact hi a w2)
  exact ⟨3, Go.Deep.trod_struct3_mk (n := 2) (cs := [.string c, .int .i64 k, .string s, .int .i64 a, .int .i64 p]) (y0 := (.lit (.string c.data.toList), [])) (y1 := (.agg [.lit (.int .i64 k), .lit (.string s.data.toList), .lit (.int .i64 a)], [])) (y2 := (.lit (.int .i64 p), [])) hu (by rw [org_cells]; rfl) (by rw [t0, o0, n2]; exact hst2 c wc) (by rw [t1, o1, n3]; exact hh) (by rw [t2, o2, n1]; exact hi2 p w4)⟩

theorem fnExactOriginPut_own : ownKnob Tryd.prog.godebug = none := by kernel_rfl

set_option maxRecDepth 100000 in
theorem fnExactOriginPut_contract (H : Type) (enc : TypeId × Value → H) (W : World) (base : Nat) (args : Array Value) (ds gs : List (DataW H)) (before : List MemPlace)
    (hval : ∀ (j : Nat) t v, Tryd.f3.params[j]? = some t → args[j]? = some v → Value.okWide Tryd.prog W .any base t v)
    (hW : DataW.Whole enc Tryd.prog Tryd.f3.params.toList Rows.fnExactOriginPutSpec.vars false W args.toList ds gs before) (hsh : W.ShapedOpen Tryd.prog) (ht : Lib.TabIs Tryd.prog W "internal/strconv.uint64pow10" .u64 Lib.pow10Tab) :
    Calls Tryd.prog 3 args W fun e W' => ∃ v, e = .returned v ∧ Rows.fnExactOriginPutSpec.post enc Tryd.prog Tryd.f3 false true false false W args v W' := by
  have hW' := hW
  obtain ⟨p, q, hA0, hV, rfl, hfz, hnd⟩ := hW
  have hA : DataW.TrodAll enc Tryd.prog W 0 (fun _ => true) true Tryd.f3.params.toList args.toList ds p := hA0
  rw [Tryd.params3] at hA hval
  obtain ⟨v0, vs0, d0, ds0, p0, q0, hargs, rfl, rfl, h0, r0⟩ := trodAll_cons hA
  obtain ⟨rfl, rfl, rfl⟩ := trodAll_nil r0
  obtain rfl : args = #[v0] := by cases args; simp_all
  obtain ⟨rfl, rfl⟩ := trodVars_none hV
  obtain ⟨c0, k0, s0, a0, p9, rfl, rfl, rfl, wc, w1, w0, w2, w4⟩ := open_origin (hval 0 25 v0 rfl rfl) h0
  clear hA0
  simp only [List.append_nil] at hW'
  refine (fnExactOriginPut_walk W (Tryd.laysM146.s1_3 W hsh) ht c0 k0 s0 a0 p9 wc w1).mono fun e W' ⟨he, bel⟩ => ?_
  subst he
  exact ⟨_, rfl, _, _, _, [], _, [], hW', trodAll_mk1 (shut_bool Tryd.underlying4 _), (trodAll_cons_mk (shut_origin wc w1 w0 w2 w4) trodAll_mk0), rfl, bel.frame _, fun h => by cases h⟩

theorem laid_pow10 {W : World} (h : laidMet Tryd.prog Rows.fnExactOriginPutRow.laid W) : Lib.TabIs Tryd.prog W "internal/strconv.uint64pow10" .u64 Lib.pow10Tab := by
  obtain ⟨ps, ⟨_, _, _, _, _, q1, _, _, _, _, h1, _⟩, _⟩ := h
  obtain ⟨_, _, _, _, _, q2, _, _, _, _, h2, _⟩ := h1
  obtain ⟨g', t', cs, fuel, p, q3, hg', ht', hvar, hd, _, _⟩ := h2
  have hg : Tryd.prog.globalNamed "internal/strconv.uint64pow10" = some 0 := by kernel_rfl
  have hty : (Tryd.prog.globals[0]?).map (·.type) = some 70 := by kernel_rfl
  obtain rfl := Option.some.inj (hg.symm.trans hg')
  obtain rfl := Option.some.inj (hty.symm.trans ht')
  have e : (Rows.laid_internal_strconv_uint64pow10 : DataW Unit) = Lib.tabData .u64 Lib.pow10Tab := by kernel_rfl
  unfold Lib.TabIs
  rw [hvar, ← Lib.cells_of_tab (zs := Lib.pow10Tab) Tryd.underlying70 Tryd.underlying59 (by kernel_rfl) (by kernel_rfl) (e ▸ hd)]

/-- A world for the witness: the settled one, the five tables holding what they are laid with. -/
def laidRow (k : IntKind) (cs : List Int) : Obj → Obj
  | .cells _ t frozen => .cells (cs.map (Value.int k)).toArray t frozen
  | o => o
set_option maxRecDepth 100000 in
theorem fnExactOriginPut_met (os : Os) : laidMet Tryd.prog Rows.fnExactOriginPutRow.laid (({ World.holding Tryd.prog os ⟨#[], #[], []⟩ with heap := (((((World.holding Tryd.prog os ⟨#[], #[], []⟩).heap.modify 4 (laidRow .u8 (Go.Pinned.utf8FirstZ.map Int.ofNat))).modify 5 (laidRow .u8 [128, 191, 160, 191, 128, 159, 144, 191, 128, 143, 0, 0, 0, 0, 0, 0, 0, 0, 0, 0, 0, 0, 0, 0, 0, 0, 0, 0, 0, 0, 0, 0])).modify 2 (laidRow .u8 [0, 1, 28, 2, 29, 14, 24, 3, 30, 22, 20, 15, 25, 17, 4, 8, 31, 27, 13, 23, 21, 19, 16, 7, 26, 12, 18, 6, 11, 5, 10, 9])).modify 3 (laidRow .u8 [0, 1, 56, 2, 57, 49, 28, 3, 61, 58, 42, 50, 38, 29, 17, 4, 62, 47, 59, 36, 45, 43, 51, 22, 53, 39, 33, 30, 24, 18, 12, 5, 63, 55, 48, 27, 60, 41, 37, 16, 46, 35, 44, 21, 52, 32, 23, 11, 54, 26, 40, 15, 34, 20, 31, 10, 25, 14, 19, 9, 13, 8, 7, 6])).modify 0 (laidRow .u64 Lib.pow10Tab) } : World).forCall (fun _ _ => 0) ⟨#[], #[.agg #[.string ByteArray.empty, .int .i64 0, .string ByteArray.empty, .int .i64 0, .int .i64 0]], []⟩).memory :=
  laidMet_of_run3 8 (by kernel_rfl) (by kernel_rfl) (by kernel_rfl)
theorem fnExactOriginPut_reads (os : Os) {H : Type} (enc : TypeId × Value → H) : ∃ places, DataW.whole enc Tryd.prog (({ World.holding Tryd.prog os ⟨#[], #[], []⟩ with heap := (((((World.holding Tryd.prog os ⟨#[], #[], []⟩).heap.modify 4 (laidRow .u8 (Go.Pinned.utf8FirstZ.map Int.ofNat))).modify 5 (laidRow .u8 [128, 191, 160, 191, 128, 159, 144, 191, 128, 143, 0, 0, 0, 0, 0, 0, 0, 0, 0, 0, 0, 0, 0, 0, 0, 0, 0, 0, 0, 0, 0, 0])).modify 2 (laidRow .u8 [0, 1, 28, 2, 29, 14, 24, 3, 30, 22, 20, 15, 25, 17, 4, 8, 31, 27, 13, 23, 21, 19, 16, 7, 26, 12, 18, 6, 11, 5, 10, 9])).modify 3 (laidRow .u8 [0, 1, 56, 2, 57, 49, 28, 3, 61, 58, 42, 50, 38, 29, 17, 4, 62, 47, 59, 36, 45, 43, 51, 22, 53, 39, 33, 30, 24, 18, 12, 5, 63, 55, 48, 27, 60, 41, 37, 16, 46, 35, 44, 21, 52, 32, 23, 11, 54, 26, 40, 15, 34, 20, 31, 10, 25, 14, 19, 9, 13, 8, 7, 6])).modify 0 (laidRow .u64 Lib.pow10Tab) } : World).forCall (fun _ _ => 0) ⟨#[], #[.agg #[.string ByteArray.empty, .int .i64 0, .string ByteArray.empty, .int .i64 0, .int .i64 0]], []⟩).memory Tryd.f3.params.toList Rows.fnExactOriginPutSpec.vars false #[Value.agg #[.string ByteArray.empty, .int .i64 0, .string ByteArray.empty, .int .i64 0, .int .i64 0]].toList 8 = some ([.agg [.lit (.string []), .agg [.lit (.int .i64 0), .lit (.string []), .lit (.int .i64 0)], .lit (.int .i64 0)]], [], places) :=
  ⟨[], by kernel_rfl⟩

set_option maxRecDepth 100000 in
theorem fnExactOriginPut_lifted (os : Os) (started : os.Started) (H : Type) (enc : TypeId × Value → H) (F : Stop.Interp) :
    ReturnsInHanded {} Tryd.checked os 3 .any ((OpenSpec.ofChange Rows.fnExactOriginPutSpec).preRow enc Tryd.prog Tryd.f3 Rows.fnExactOriginPutRow.domain false Rows.fnExactOriginPutRow.laid) (((OpenSpec.ofChange Rows.fnExactOriginPutSpec).at F).post enc Tryd.prog Tryd.f3 false true false false) := by
  obtain ⟨places, hx⟩ := fnExactOriginPut_reads os enc
  refine returnsInHanded_of_row (C := Tryd.checked) (s := OpenSpec.ofChange Rows.fnExactOriginPutSpec) fnExactOriginPut_own started (by kernel_rfl) Tryd.func3
    (witness_row_at (enc := enc) (C := Tryd.checked) false ({ World.holding Tryd.prog os ⟨#[], #[], []⟩ with heap := (((((World.holding Tryd.prog os ⟨#[], #[], []⟩).heap.modify 4 (laidRow .u8 (Go.Pinned.utf8FirstZ.map Int.ofNat))).modify 5 (laidRow .u8 [128, 191, 160, 191, 128, 159, 144, 191, 128, 143, 0, 0, 0, 0, 0, 0, 0, 0, 0, 0, 0, 0, 0, 0, 0, 0, 0, 0, 0, 0, 0, 0])).modify 2 (laidRow .u8 [0, 1, 28, 2, 29, 14, 24, 3, 30, 22, 20, 15, 25, 17, 4, 8, 31, 27, 13, 23, 21, 19, 16, 7, 26, 12, 18, 6, 11, 5, 10, 9])).modify 3 (laidRow .u8 [0, 1, 56, 2, 57, 49, 28, 3, 61, 58, 42, 50, 38, 29, 17, 4, 62, 47, 59, 36, 45, 43, 51, 22, 53, 39, 33, 30, 24, 18, 12, 5, 63, 55, 48, 27, 60, 41, 37, 16, 46, 35, 44, 21, 52, 32, 23, 11, 54, 26, 40, 15, 34, 20, 31, 10, 25, 14, 19, 9, 13, 8, 7, 6])).modify 0 (laidRow .u64 Lib.pow10Tab) } : World) #[.agg #[.string ByteArray.empty, .int .i64 0, .string ByteArray.empty, .int .i64 0, .int .i64 0]] rfl (by kernel_rfl) (by kernel_rfl) (by kernel_rfl)
      (OpenSpec.preRow_of_cond 8 hx (by kernel_rfl) (fun k hk => by cases hk) (by kernel_rfl) (fnExactOriginPut_met os))) ?_
  intro W base args ds gs before hval hW _ _ _ hL hsh _
  exact fnExactOriginPut_contract H enc W base args ds gs before hval hW hsh (laid_pow10 hL)

theorem fnExactOriginPut_said : Rows.FnExactOriginPutSaid :=
  OpenClaim.holds_of_cond 3 Tryd.f3 rfl rfl rfl rfl rfl rfl rfl ⟨rfl, rfl, rfl, rfl, rfl⟩ rfl rfl rfl rfl rfl (by kernel_rfl) Tryd.func3 (by kernel_rfl)
    (of_decide_eq_true (by kernel_rfl)) (by unfold Func.isWrapper; first | (rw [if_pos (by decide +kernel)]; kernel_rfl) | (rw [if_neg (by decide +kernel)]; exact ⟨rfl, rfl⟩))
    (fun os started H enc _ F => by rw [OpenClaim.pre_eq_preRow]; exact fnExactOriginPut_lifted os started H enc F)

theorem fnExactOriginPut_plain (f : FuncId) (fn : Func) (hf : Tryd.pinned.checked.prog.funcNamed Rows.fnExactOriginPutRow.func = some f) (hfn : Tryd.pinned.checked.prog.funcs[f]? = some fn) :
    false = Tryd.pinned.checked.prog.looks [] ∧ ∀ (j : Nat) t, fn.params[j]? = some t → Tryd.pinned.checked.prog.wantsStandIn t = false := by
  obtain rfl : f = 3 := Option.some.inj ((show Tryd.prog.funcNamed Rows.fnExactOriginPutRow.func = some 3 by kernel_rfl).symm.trans hf) |>.symm
  obtain rfl : fn = Tryd.f3 := (Option.some.inj (Tryd.func3.symm.trans hfn)).symm
  refine ⟨by kernel_rfl, fun j t ht => ?_⟩
  rw [Tryd.params3] at ht
  obtain rfl : t = 25 := by simpa using Array.mem_of_getElem? ht
  exact (show Tryd.prog.wantsStandIn 25 = false by kernel_rfl)

theorem fnExactOriginPut_proved : Rows.FnExactOriginPutCardSaid :=
  Claim7.holds_tied_plain_at .later [] _ _ _ _ fnExactOriginPut_said (fun _ h => by cases h) (by kernel_rfl) (fun _ h => by cases h) fnExactOriginPut_row_tie rfl ⟨rfl, rfl⟩ (by kernel_rfl) rfl fnExactOriginPut_plain (by kernel_rfl)
#print axioms fnExactOriginPut_proved
end Go.Proofs.YtdiloljmpcapfaaDoor

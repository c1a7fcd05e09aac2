/- The law FnExactUrlLess answers true at all addresses and leaves its arguments as they were; the five tables of the library and io.EOF, which its row lays, are tied to the program's text by the card. -/
import Derived.Test.YtnfhajhdpdidlaaGreatDoorCFnExactUrlLess01
import Derived.WalkKit
import Derived.ProofKit
import Derived.OpenShut
import Derived.ShutString
import Derived.ChangeOld
import Derived.Below
import Derived.SliceStrings
import Derived.Deep.Strs
import Derived.Test.YtnfhajhdpdidlaaGreatDoorCards
import Derived.Test.YtnfhajhdpdidlaaGreatDoorTie
import Derived.Test.YtnfhajhdpdidlaaGreatDoorCFnExactUrlLess11
import Derived.Test.YtnfhajhdpdidlaaGreatDoorB16
import Derived.Deep.DeepHandedRow
import Derived.Deep.DeepLaidRun
set_option linter.unusedVariables false
set_option linter.unusedSimpArgs false
set_option maxRecDepth 100000
section
namespace Go.Proofs.YtnfhajhdpdidlaaGreatDoor
open Go.ChangeShapes Go.WideShapes Go.ChangeAt Go.RowKit
theorem host_fieldsU : ∃ f0 f1 f2 : Field, Tryz.prog.underlying 23 = some (.struct #[f0, f1, f2]) ∧ f0.type = 3 ∧ f1.type = 9 ∧ f2.type = 3 ∧ f0.offset = 0 ∧ f1.offset = 1 ∧ f2.offset = 2 := ⟨_, _, _, Tryz.underlying23, rfl, rfl, rfl, rfl, rfl, rfl⟩
theorem url_fields : ∃ f0 f1 f2 f3 f4 f5 f6 f7 f8 f9 f10 : Field, Tryz.prog.underlying 26 = some (.struct #[f0, f1, f2, f3, f4, f5, f6, f7, f8, f9, f10]) ∧ f0.type = 9 ∧ f1.type = 9 ∧ f2.type = 9 ∧ f3.type = 23 ∧ f4.type = 3 ∧ f5.type = 24 ∧ f6.type = 9 ∧ f7.type = 4 ∧ f8.type = 9 ∧ f9.type = 4 ∧ f10.type = 9 ∧ f0.offset = 0 ∧ f1.offset = 1 ∧ f2.offset = 2 ∧ f3.offset = 3 ∧ f4.offset = 6 ∧ f5.offset = 7 ∧ f6.offset = 8 ∧ f7.offset = 9 ∧ f8.offset = 10 ∧ f9.offset = 11 ∧ f10.offset = 12 := ⟨_, _, _, _, _, _, _, _, _, _, _, Tryz.underlying26, rfl, rfl, rfl, rfl, rfl, rfl, rfl, rfl, rfl, rfl, rfl, rfl, rfl, rfl, rfl, rfl, rfl, rfl, rfl, rfl, rfl, rfl⟩
theorem url_cells : Tryz.prog.cellsOf 26 = 13 ∧ Tryz.prog.cellsOf 23 = 3 ∧ Tryz.prog.cellsOf 3 = 1 ∧ Tryz.prog.cellsOf 9 = 1 ∧ Tryz.prog.cellsOf 4 = 1 ∧ Tryz.prog.cellsOf 24 = 1 := ⟨by kernel_rfl, by kernel_rfl, by kernel_rfl, by kernel_rfl, by kernel_rfl, by kernel_rfl⟩
theorem open_url {H : Type} {enc : TypeId × Value → H} {W : World} {r : Reach} {b0 base : Nat} {held : Bool} {v : Value} {d : DataW H} {ps : List MemPlace} (hval : Value.okWide Tryz.prog W r b0 26 v) (hd : DataW.Trod enc Tryz.prog W base (fun _ => true) held 26 v d ps) :
  ∃ (q : P) (a : Option Addr) (n c : Nat), v = .agg (q.cells (.slice a n c)) ∧ StrsOf a n q.ps W ∧ Sz q ∧ q.po ≤ 9223372036854775807 := by
 obtain ⟨f0, f1, f2, f3, f4, f5, f6, f7, f8, f9, f10, hu, t0, t1, t2, t3, t4, t5, t6, t7, t8, t9, t10, o0, o1, o2, o3, o4, o5, o6, o7, o8, o9, o10⟩ := url_fields
 obtain ⟨g0, g1, g2, hu2, s0, s1, s2, p0, p1, p2⟩ := host_fieldsU
 obtain ⟨m13, m3, mi, ms, mb, ml⟩ := url_cells
 obtain ⟨cs, rfl, hsz⟩ := okWide_struct hu hval
 obtain ⟨fuel, hf⟩ := hd
 obtain ⟨xs, n, rfl, hx, hl, hlen, hF⟩ := DataW.trod_struct hu hf
 rw [m13] at hsz
 obtain ⟨c0, c1, c2, c3, c4, c5, c6, c7, c8, c9, c10, c11, c12, rfl⟩ : ∃ c0 c1 c2 c3 c4 c5 c6 c7 c8 c9 c10 c11 c12, cs = #[c0, c1, c2, c3, c4, c5, c6, c7, c8, c9, c10, c11, c12] := by
  match cs, hsz with
  | ⟨[c0, c1, c2, c3, c4, c5, c6, c7, c8, c9, c10, c11, c12]⟩, _ => exact ⟨c0, c1, c2, c3, c4, c5, c6, c7, c8, c9, c10, c11, c12, rfl⟩
 match xs, hlen with
 | [x0, x1, x2, x3, x4, x5, x6, x7, x8, x9, x10], _ =>
  have h0 := hF 0 f0 rfl
  rw [t0, o0, ms] at h0
  simp [Value.cells] at h0
  have h1 := hF 1 f1 rfl
  rw [t1, o1, ms] at h1
  simp [Value.cells] at h1
  have h2 := hF 2 f2 rfl
  rw [t2, o2, ms] at h2
  simp [Value.cells] at h2
  have h3 := hF 3 f3 rfl
  rw [t3, o3, m3] at h3
  simp [Value.cells] at h3
  have h4 := hF 4 f4 rfl
  rw [t4, o4, mi] at h4
  simp [Value.cells] at h4
  have h5 := hF 5 f5 rfl
  rw [t5, o5, ml] at h5
  simp [Value.cells] at h5
  have h6 := hF 6 f6 rfl
  rw [t6, o6, ms] at h6
  simp [Value.cells] at h6
  have h7 := hF 7 f7 rfl
  rw [t7, o7, mb] at h7
  simp [Value.cells] at h7
  have h8 := hF 8 f8 rfl
  rw [t8, o8, ms] at h8
  simp [Value.cells] at h8
  have h9 := hF 9 f9 rfl
  rw [t9, o9, mb] at h9
  simp [Value.cells] at h9
  have h10 := hF 10 f10 rfl
  rw [t10, o10, ms] at h10
  simp [Value.cells] at h10
  obtain ⟨y0, e0, _, w0⟩ := DataW.trod_string Tryz.underlying9 h0
  simp at e0
  subst e0
  obtain ⟨y1, e1, _, w1⟩ := DataW.trod_string Tryz.underlying9 h1
  simp at e1
  subst e1
  obtain ⟨y2, e2, _, w2⟩ := DataW.trod_string Tryz.underlying9 h2
  simp at e2
  subst e2
  obtain ⟨u0, u1, u2, n3, _, _, k0, k1, k2⟩ := Go.Deep.trod_struct3 hu2 h3
  rw [s0, p0, mi] at k0
  rw [s1, p1, ms] at k1
  rw [s2, p2, mi] at k2
  obtain ⟨z0, a0, _, _⟩ := DataW.trod_int Tryz.underlying3 k0
  obtain ⟨z1, a1, _, wz⟩ := DataW.trod_string Tryz.underlying9 k1
  obtain ⟨z2, a2, _, _⟩ := DataW.trod_int Tryz.underlying3 k2
  simp at a0 a1 a2
  subst a0 a1 a2
  obtain ⟨y4, e4, _, w4⟩ := DataW.trod_int Tryz.underlying3 h4
  simp at e4
  subst e4
  obtain ⟨a, len, cap, zs, e5, hS, hz, hzl⟩ : ∃ (a : Option Addr) (len cap : Nat) (zs : List (List UInt8)), c7 = .slice a len cap ∧ StrsOf a len zs W ∧ len ≤ maxLen ∧ ∀ s ∈ zs, s.length ≤ maxLen := by
   rcases open_strings Tryz.underlying24 Tryz.underlying9 (by kernel_rfl) h5 with ⟨hcs, _⟩ | ⟨x, l, c, zs, hcs, _, hl, hm, hz, _, hcell, hwz⟩
   ·simp at hcs
    exact ⟨none, 0, 0, [], hcs, ⟨rfl, .inl rfl⟩, Nat.zero_le _, fun s hs => by cases hs⟩
   ·simp at hcs
    refine ⟨some x, l, c, _, hcs, strs_open hl (by simpa using hz) hcell, Nat.le_trans hl hm, fun s hs => ?_⟩
    obtain ⟨u, hu, rfl⟩ := List.mem_map.1 hs
    have := hwz u (List.mem_of_mem_take hu)
    simpa using this
  subst e5
  obtain ⟨y6, e6, _, w6⟩ := DataW.trod_string Tryz.underlying9 h6
  simp at e6
  subst e6
  obtain ⟨y7, e7, _⟩ := DataW.trod_bool Tryz.underlying4 h7
  simp at e7
  subst e7
  obtain ⟨y8, e8, _, w8⟩ := DataW.trod_string Tryz.underlying9 h8
  simp at e8
  subst e8
  obtain ⟨y9, e9, _⟩ := DataW.trod_bool Tryz.underlying4 h9
  simp at e9
  subst e9
  obtain ⟨y10, e10, _, w10⟩ := DataW.trod_string Tryz.underlying9 h10
  simp at e10
  subst e10
  refine ⟨⟨y0, y1, y2, z0, z1, z2, y4, zs, y6, y7, y8, y9, y10⟩, a, len, cap, rfl, hS, ⟨w0, w1, w2, wz, w6, w8, w10, ?_, hzl⟩, ?_⟩
  ·have := hS.1; show zs.length ≤ _; omega
  ·have h := w4
   have hm : IntKind.i64.max = 9223372036854775807 := by decide
   have h2 : y4 ≤ IntKind.i64.max := by simp [Lit.wf] at h; exact h.2
   rw [hm] at h2
   exact h2
end Go.Proofs.YtnfhajhdpdidlaaGreatDoor
end
section
namespace Go.Proofs.YtnfhajhdpdidlaaGreatDoor
open Go.ChangeShapes Go.WideShapes Go.ChangeAt Go.RowKit
open Go.ChangeMaps (open_string shut_string)
theorem fnExactUrlLess_own : ownKnob Tryz.prog.godebug = none := by kernel_rfl
theorem fnExactUrlLess_laidOut : laidOutB Tryz.prog = true := by kernel_rfl
theorem fnExactUrlLess_contract (H : Type) (enc : TypeId × Value → H) (W : World) (base : Nat) (args : Array Value) (ds gs : List (DataW H)) (before : List MemPlace)
  (hval : ∀ (j : Nat) t v, Tryz.f7.params[j]? = some t → args[j]? = some v → Value.okWide Tryz.prog W .any base t v)
  (hW : DataW.Whole enc Tryz.prog Tryz.f7.params.toList Rows.fnExactUrlLessSpec.vars false W args.toList ds gs before) (hL : Lean1 W) :
  Calls Tryz.prog 7 args W fun e W' => ∃ v, e = .returned v ∧ Rows.fnExactUrlLessSpec.post enc Tryz.prog Tryz.f7 false true false false W args v W' := by
 have hW' := hW
 obtain ⟨p, q, hA0, hV, rfl, hfz, hnd⟩ := hW
 have hA : DataW.TrodAll enc Tryz.prog W 0 (fun _ => true) true Tryz.f7.params.toList args.toList ds p := hA0
 rw [Tryz.params7] at hA hval
 obtain ⟨v0, vs0, d0, ds0, p0, q0, hargs, rfl, rfl, h0, r0⟩ := trodAll_cons hA
 obtain ⟨v1, vs1, d1, ds1, p1, q1, rfl, rfl, rfl, h1, r1⟩ := trodAll_cons r0
 obtain ⟨rfl, rfl, rfl⟩ := trodAll_nil r1
 obtain rfl : args = #[v0, v1] := by cases args; simp_all
 obtain ⟨rfl, rfl⟩ := trodVars_none hV
 have k0 := h0
 have lt0 : ∀ x ∈ p0, x.block < W.heap.size := by obtain ⟨m, hm⟩ := k0; exact DataW.trod_lt m _ _ _ hm
 obtain ⟨u0, a0, n0, c0, rfl, s0, z0, po0⟩ := open_url (hval 0 26 v0 rfl rfl) h0
 have k1 := h1
 have lt1 : ∀ x ∈ p1, x.block < W.heap.size := by obtain ⟨m, hm⟩ := k1; exact DataW.trod_lt m _ _ _ hm
 obtain ⟨u1, a1, n1, c1, rfl, s1, z1, po1⟩ := open_url (hval 1 26 v1 rfl rfl) h1
 clear hA0
 refine (fnExactUrlLess_walk W hL u0 a0 n0 c0 s0 z0 po0 u1 a1 n1 c1 s1 z1 po1).mono fun e W' ⟨he, bel⟩ => ?_
 subst he
 exact ⟨_, rfl, _, _, _, [], _, [], hW', trodAll_mk1 (shut_bool Tryz.underlying4 _), (trodAll_cons_mk (Below.trod fnExactUrlLess_laidOut (by kernel_rfl) (of_decide_eq_true (by kernel_rfl)) k0 bel lt0) (trodAll_cons_mk (Below.trod fnExactUrlLess_laidOut (by kernel_rfl) (of_decide_eq_true (by kernel_rfl)) k1 bel lt1) trodAll_mk0)), rfl, bel.frame _, fun h => by cases h⟩
theorem fnExactUrlLess_met (os : Os) : laidMet Tryz.prog Rows.fnExactUrlLessRow.laid (({ World.holding Tryz.prog os ⟨#[.cells #[.string { data := #[69, 79, 70] }] 145], #[], []⟩ with heap := ((((((World.holding Tryz.prog os ⟨#[.cells #[.string { data := #[69, 79, 70] }] 145], #[], []⟩).heap.modify 2 (laidRow .u8 (Go.Pinned.utf8FirstZ.map Int.ofNat))).modify 3 (laidRow .u8 [128, 191, 160, 191, 128, 159, 144, 191, 128, 143, 0, 0, 0, 0, 0, 0, 0, 0, 0, 0, 0, 0, 0, 0, 0, 0, 0, 0, 0, 0, 0, 0])).modify 5 (laidRow .u8 [0, 1, 28, 2, 29, 14, 24, 3, 30, 22, 20, 15, 25, 17, 4, 8, 31, 27, 13, 23, 21, 19, 16, 7, 26, 12, 18, 6, 11, 5, 10, 9])).modify 6 (laidRow .u8 [0, 1, 56, 2, 57, 49, 28, 3, 61, 58, 42, 50, 38, 29, 17, 4, 62, 47, 59, 36, 45, 43, 51, 22, 53, 39, 33, 30, 24, 18, 12, 5, 63, 55, 48, 27, 60, 41, 37, 16, 46, 35, 44, 21, 52, 32, 23, 11, 54, 26, 40, 15, 34, 20, 31, 10, 25, 14, 19, 9, 13, 8, 7, 6])).modify 4 (laidRow .u64 Lib.pow10Tab)).modify 1 (eofRow (World.holding Tryz.prog default ⟨#[], #[], []⟩).heap.size) } : World).forCall (fun _ _ => 0) ⟨#[], #[.agg #[.string ByteArray.empty, .string ByteArray.empty, .string ByteArray.empty, .int .i64 0, .string ByteArray.empty, .int .i64 0, .int .i64 0, .slice none 0 0, .string ByteArray.empty, .bool false, .string ByteArray.empty, .bool false, .string ByteArray.empty], .agg #[.string ByteArray.empty, .string ByteArray.empty, .string ByteArray.empty, .int .i64 0, .string ByteArray.empty, .int .i64 0, .int .i64 0, .slice none 0 0, .string ByteArray.empty, .bool false, .string ByteArray.empty, .bool false, .string ByteArray.empty]], []⟩).memory :=
 laidMet_of_run3 8 (by kernel_rfl) (by kernel_rfl) (by kernel_rfl)
theorem fnExactUrlLess_reads (os : Os) {H : Type} (enc : TypeId × Value → H) : ∃ places, DataW.whole enc Tryz.prog (({ World.holding Tryz.prog os ⟨#[.cells #[.string { data := #[69, 79, 70] }] 145], #[], []⟩ with heap := ((((((World.holding Tryz.prog os ⟨#[.cells #[.string { data := #[69, 79, 70] }] 145], #[], []⟩).heap.modify 2 (laidRow .u8 (Go.Pinned.utf8FirstZ.map Int.ofNat))).modify 3 (laidRow .u8 [128, 191, 160, 191, 128, 159, 144, 191, 128, 143, 0, 0, 0, 0, 0, 0, 0, 0, 0, 0, 0, 0, 0, 0, 0, 0, 0, 0, 0, 0, 0, 0])).modify 5 (laidRow .u8 [0, 1, 28, 2, 29, 14, 24, 3, 30, 22, 20, 15, 25, 17, 4, 8, 31, 27, 13, 23, 21, 19, 16, 7, 26, 12, 18, 6, 11, 5, 10, 9])).modify 6 (laidRow .u8 [0, 1, 56, 2, 57, 49, 28, 3, 61, 58, 42, 50, 38, 29, 17, 4, 62, 47, 59, 36, 45, 43, 51, 22, 53, 39, 33, 30, 24, 18, 12, 5, 63, 55, 48, 27, 60, 41, 37, 16, 46, 35, 44, 21, 52, 32, 23, 11, 54, 26, 40, 15, 34, 20, 31, 10, 25, 14, 19, 9, 13, 8, 7, 6])).modify 4 (laidRow .u64 Lib.pow10Tab)).modify 1 (eofRow (World.holding Tryz.prog default ⟨#[], #[], []⟩).heap.size) } : World).forCall (fun _ _ => 0) ⟨#[], #[.agg #[.string ByteArray.empty, .string ByteArray.empty, .string ByteArray.empty, .int .i64 0, .string ByteArray.empty, .int .i64 0, .int .i64 0, .slice none 0 0, .string ByteArray.empty, .bool false, .string ByteArray.empty, .bool false, .string ByteArray.empty], .agg #[.string ByteArray.empty, .string ByteArray.empty, .string ByteArray.empty, .int .i64 0, .string ByteArray.empty, .int .i64 0, .int .i64 0, .slice none 0 0, .string ByteArray.empty, .bool false, .string ByteArray.empty, .bool false, .string ByteArray.empty]], []⟩).memory Tryz.f7.params.toList Rows.fnExactUrlLessSpec.vars false #[Value.agg #[.string ByteArray.empty, .string ByteArray.empty, .string ByteArray.empty, .int .i64 0, .string ByteArray.empty, .int .i64 0, .int .i64 0, .slice none 0 0, .string ByteArray.empty, .bool false, .string ByteArray.empty, .bool false, .string ByteArray.empty], Value.agg #[.string ByteArray.empty, .string ByteArray.empty, .string ByteArray.empty, .int .i64 0, .string ByteArray.empty, .int .i64 0, .int .i64 0, .slice none 0 0, .string ByteArray.empty, .bool false, .string ByteArray.empty, .bool false, .string ByteArray.empty]].toList 8 = some ([.agg [.lit (.string []), .lit (.string []), .lit (.string []), .agg [.lit (.int .i64 0), .lit (.string []), .lit (.int .i64 0)], .lit (.int .i64 0), .nil, .lit (.string []), .lit (.bool false), .lit (.string []), .lit (.bool false), .lit (.string [])], .agg [.lit (.string []), .lit (.string []), .lit (.string []), .agg [.lit (.int .i64 0), .lit (.string []), .lit (.int .i64 0)], .lit (.int .i64 0), .nil, .lit (.string []), .lit (.bool false), .lit (.string []), .lit (.bool false), .lit (.string [])]], [], places) :=
 ⟨[], by kernel_rfl⟩
theorem fnExactUrlLess_lifted (os : Os) (started : os.Started) (H : Type) (enc : TypeId × Value → H) (F : Stop.Interp) :
  ReturnsInHanded {} Tryz.checked os 7 .any ((OpenSpec.ofChange Rows.fnExactUrlLessSpec).preRow enc Tryz.prog Tryz.f7 Rows.fnExactUrlLessRow.domain false Rows.fnExactUrlLessRow.laid) (((OpenSpec.ofChange Rows.fnExactUrlLessSpec).at F).post enc Tryz.prog Tryz.f7 false true false false) := by
 obtain ⟨places, hx⟩ := fnExactUrlLess_reads os enc
 refine returnsInHanded_of_row (C := Tryz.checked) (s := OpenSpec.ofChange Rows.fnExactUrlLessSpec) fnExactUrlLess_own started (by kernel_rfl) Tryz.func7
  (witness_row_at (enc := enc) (C := Tryz.checked) false ({ World.holding Tryz.prog os ⟨#[.cells #[.string { data := #[69, 79, 70] }] 145], #[], []⟩ with heap := ((((((World.holding Tryz.prog os ⟨#[.cells #[.string { data := #[69, 79, 70] }] 145], #[], []⟩).heap.modify 2 (laidRow .u8 (Go.Pinned.utf8FirstZ.map Int.ofNat))).modify 3 (laidRow .u8 [128, 191, 160, 191, 128, 159, 144, 191, 128, 143, 0, 0, 0, 0, 0, 0, 0, 0, 0, 0, 0, 0, 0, 0, 0, 0, 0, 0, 0, 0, 0, 0])).modify 5 (laidRow .u8 [0, 1, 28, 2, 29, 14, 24, 3, 30, 22, 20, 15, 25, 17, 4, 8, 31, 27, 13, 23, 21, 19, 16, 7, 26, 12, 18, 6, 11, 5, 10, 9])).modify 6 (laidRow .u8 [0, 1, 56, 2, 57, 49, 28, 3, 61, 58, 42, 50, 38, 29, 17, 4, 62, 47, 59, 36, 45, 43, 51, 22, 53, 39, 33, 30, 24, 18, 12, 5, 63, 55, 48, 27, 60, 41, 37, 16, 46, 35, 44, 21, 52, 32, 23, 11, 54, 26, 40, 15, 34, 20, 31, 10, 25, 14, 19, 9, 13, 8, 7, 6])).modify 4 (laidRow .u64 Lib.pow10Tab)).modify 1 (eofRow (World.holding Tryz.prog default ⟨#[], #[], []⟩).heap.size) } : World) #[.agg #[.string ByteArray.empty, .string ByteArray.empty, .string ByteArray.empty, .int .i64 0, .string ByteArray.empty, .int .i64 0, .int .i64 0, .slice none 0 0, .string ByteArray.empty, .bool false, .string ByteArray.empty, .bool false, .string ByteArray.empty], .agg #[.string ByteArray.empty, .string ByteArray.empty, .string ByteArray.empty, .int .i64 0, .string ByteArray.empty, .int .i64 0, .int .i64 0, .slice none 0 0, .string ByteArray.empty, .bool false, .string ByteArray.empty, .bool false, .string ByteArray.empty]] rfl (by kernel_rfl) (by kernel_rfl) (by kernel_rfl)
   (OpenSpec.preRow_of_cond 8 hx (by kernel_rfl) (fun k hk => by cases hk) (by kernel_rfl) (fnExactUrlLess_met os))) ?_
 intro W base args ds gs before hval hW _ _ _ hL hsh _
 exact fnExactUrlLess_contract H enc W base args ds gs before hval hW (lean1_laid hL hsh)
theorem fnExactUrlLess_said : Rows.FnExactUrlLessSaid :=
 OpenClaim.holds_of_cond 7 Tryz.f7 rfl rfl rfl rfl rfl rfl rfl ⟨rfl, rfl, rfl, rfl, rfl⟩ rfl rfl rfl rfl rfl (by kernel_rfl) Tryz.func7 (by kernel_rfl)
  (of_decide_eq_true (by kernel_rfl)) (by unfold Func.isWrapper; first | (rw [if_pos (by decide +kernel)]; kernel_rfl) | (rw [if_neg (by decide +kernel)]; exact ⟨rfl, rfl⟩))
  (fun os started H enc _ F => by rw [OpenClaim.pre_eq_preRow]; exact fnExactUrlLess_lifted os started H enc F)
theorem fnExactUrlLess_plain (f : FuncId) (fn : Func) (hf : Tryz.pinned.checked.prog.funcNamed Rows.fnExactUrlLessRow.func = some f) (hfn : Tryz.pinned.checked.prog.funcs[f]? = some fn) :
  true = Tryz.pinned.checked.prog.looks [] ∧ ∀ (j : Nat) t, fn.params[j]? = some t → Tryz.pinned.checked.prog.wantsStandIn t = false := by
 obtain rfl : f = 7 := Option.some.inj ((show Tryz.prog.funcNamed Rows.fnExactUrlLessRow.func = some 7 by kernel_rfl).symm.trans hf) |>.symm
 obtain rfl : fn = Tryz.f7 := (Option.some.inj (Tryz.func7.symm.trans hfn)).symm
 refine ⟨by kernel_rfl, fun j t ht => ?_⟩
 rw [Tryz.params7] at ht
 obtain rfl : t = 26 := by simpa using Array.mem_of_getElem? ht
 exact (show Tryz.prog.wantsStandIn 26 = false by kernel_rfl)
theorem fnExactUrlLess_proved : Rows.FnExactUrlLessCardSaid :=
 Claim7.holds_tied_plain_at .later [] _ _ _ _ fnExactUrlLess_said (fun _ h => by cases h) (by kernel_rfl) (fun _ h => by cases h) fnExactUrlLess_row_tie rfl ⟨rfl, rfl⟩ (by kernel_rfl) rfl fnExactUrlLess_plain (by kernel_rfl)
#print axioms fnExactUrlLess_proved
end Go.Proofs.YtnfhajhdpdidlaaGreatDoor
end

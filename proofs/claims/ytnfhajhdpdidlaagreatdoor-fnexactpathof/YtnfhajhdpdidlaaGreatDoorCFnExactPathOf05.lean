/- An address that is handed in, opened: its parts, its path's pieces, and how long they are. -/
import Derived.Test.YtnfhajhdpdidlaaGreatDoorCFnExactPathOf01
import Derived.WalkKit
import Derived.ProofKit
import Derived.OpenShut
import Derived.ShutString
import Derived.ChangeOld
import Derived.Below
import Derived.SliceStrings
import Derived.Deep.Strs
set_option linter.unusedVariables false
set_option maxRecDepth 100000
section
namespace Go.Proofs.YtnfhajhdpdidlaaGreatDoor
open Go.ChangeShapes Go.WideShapes Go.ChangeAt Go.RowKit
theorem host_fieldsU : ∃ f0 f1 f2 : Field, Tryz.prog.underlying 23 = some (.struct #[f0, f1, f2]) ∧ f0.type = 3 ∧ f1.type = 9 ∧ f2.type = 3 ∧ f0.offset = 0 ∧ f1.offset = 1 ∧ f2.offset = 2 := ⟨_, _, _, Tryz.underlying23, rfl, rfl, rfl, rfl, rfl, rfl⟩
theorem url_fields : ∃ f0 f1 f2 f3 f4 f5 f6 f7 f8 f9 f10 : Field, Tryz.prog.underlying 26 = some (.struct #[f0, f1, f2, f3, f4, f5, f6, f7, f8, f9, f10]) ∧ f0.type = 9 ∧ f1.type = 9 ∧ f2.type = 9 ∧ f3.type = 23 ∧ f4.type = 3 ∧ f5.type = 24 ∧ f6.type = 9 ∧ f7.type = 4 ∧ f8.type = 9 ∧ f9.type = 4 ∧ f10.type = 9 ∧ f0.offset = 0 ∧ f1.offset = 1 ∧ f2.offset = 2 ∧ f3.offset = 3 ∧ f4.offset = 6 ∧ f5.offset = 7 ∧ f6.offset = 8 ∧ f7.offset = 9 ∧ f8.offset = 10 ∧ f9.offset = 11 ∧ f10.offset = 12 := ⟨_, _, _, _, _, _, _, _, _, _, _, Tryz.underlying26, rfl, rfl, rfl, rfl, rfl, rfl, rfl, rfl, rfl, rfl, rfl, rfl, rfl, rfl, rfl, rfl, rfl, rfl, rfl, rfl, rfl, rfl⟩
theorem url_cells : Tryz.prog.cellsOf 26 = 13 ∧ Tryz.prog.cellsOf 23 = 3 ∧ Tryz.prog.cellsOf 3 = 1 ∧ Tryz.prog.cellsOf 9 = 1 ∧ Tryz.prog.cellsOf 4 = 1 ∧ Tryz.prog.cellsOf 24 = 1 := ⟨by kernel_rfl, by kernel_rfl, by kernel_rfl, by kernel_rfl, by kernel_rfl, by kernel_rfl⟩
theorem open_url {H : Type} {enc : TypeId × Value → H} {W : World} {r : Reach} {b0 base : Nat} {held : Bool} {v : Value} {d : DataW H} {ps : List MemPlace} (hval : Value.okWide Tryz.prog W r b0 26 v) (hd : DataW.Trod enc Tryz.prog W base (fun _ => true) held 26 v d ps) :
  ∃ (q : P) (a : Option Addr) (n c : Nat), v = .agg (q.cells (.slice a n c)) ∧ StrsOf a n q.ps W ∧ Sz q ∧ q.po ≤ 9223372036854775807 := by
 obtain ⟨f0, f1, f2, f3, f4, f5, f6, f7, f8, f9, f10, hu, t0, t1, t2, t3, t4, t5, t6, t7, t8, t9, t10, o0, o1, o2, o3, o4, o5, o6, o7, o8, o9, o10⟩ := url_fields
 obtain ⟨g0, g1, g2, hu2, s0, s1, s2, p0, p1, p2⟩ := host_fieldsU
 obtain ⟨m13, m3, mi, ms, mb, ml⟩ := url_cells
 obtain ⟨cs, rfl, hsz⟩ := okWide_struct hu hval
 obtain ⟨fuel, hf⟩ := hd
 obtain ⟨xs, n, rfl, hx, hl, hlen, hF⟩ := DataW.trod_struct hu hf
 rw [m13] at hsz
 obtain ⟨c0, c1, c2, c3, c4, c5, c6, c7, c8, c9, c10, c11, c12, rfl⟩ : ∃ c0 c1 c2 c3 c4 c5 c6 c7 c8 c9 c10 c11 c12, cs = #[c0, c1, c2, c3, c4, c5, c6, c7, c8, c9, c10, c11, c12] := by
  match cs, hsz with
  | ⟨[c0, c1, c2, c3, c4, c5, c6, c7, c8, c9, c10, c11, c12]⟩, _ => exact ⟨c0, c1, c2, c3, c4, c5, c6, c7, c8, c9, c10, c11, c12, rfl⟩
 match xs, hlen with
 | [x0, x1, x2, x3, x4, x5, x6, x7, x8, x9, x10], _ =>
  have h0 := hF 0 f0 rfl
  rw [t0, o0, ms] at h0
  simp [Value.cells] at h0
  have h1 := hF 1 f1 rfl
  rw [t1, o1, ms] at h1
  simp [Value.cells] at h1
  have h2 := hF 2 f2 rfl
  rw [t2, o2, ms] at h2
  simp [Value.cells] at h2
  have h3 := hF 3 f3 rfl
  rw [t3, o3, m3] at h3
  simp [Value.cells] at h3
  have h4 := hF 4 f4 rfl
  rw [t4, o4, mi] at h4
  simp [Value.cells] at h4
  have h5 := hF 5 f5 rfl
  rw [t5, o5, ml] at h5
  simp [Value.cells] at h5
  have h6 := hF 6 f6 rfl
  rw [t6, o6, ms] at h6
  simp [Value.cells] at h6
  have h7 := hF 7 f7 rfl
  rw [t7, o7, mb] at h7
  simp [Value.cells] at h7
  have h8 := hF 8 f8 rfl
  rw [t8, o8, ms] at h8
  simp [Value.cells] at h8
  have h9 := hF 9 f9 rfl
  rw [t9, o9, mb] at h9
  simp [Value.cells] at h9
  have h10 := hF 10 f10 rfl
  rw [t10, o10, ms] at h10
  simp [Value.cells] at h10
  obtain ⟨y0, e0, _, w0⟩ := DataW.trod_string Tryz.underlying9 h0
  simp at e0
  subst e0
  obtain ⟨y1, e1, _, w1⟩ := DataW.trod_string Tryz.underlying9 h1
  simp at e1
  subst e1
  obtain ⟨y2, e2, _, w2⟩ := DataW.trod_string Tryz.underlying9 h2
  simp at e2
  subst e2
  obtain ⟨u0, u1, u2, n3, _, _, k0, k1, k2⟩ := Go.Deep.trod_struct3 hu2 h3
  rw [s0, p0, mi] at k0
  rw [s1, p1, ms] at k1
  rw [s2, p2, mi] at k2
  obtain ⟨z0, a0, _, _⟩ := DataW.trod_int Tryz.underlying3 k0
  obtain ⟨z1, a1, _, wz⟩ := DataW.trod_string Tryz.underlying9 k1
  obtain ⟨z2, a2, _, _⟩ := DataW.trod_int Tryz.underlying3 k2
  simp at a0 a1 a2
  subst a0 a1 a2
  obtain ⟨y4, e4, _, w4⟩ := DataW.trod_int Tryz.underlying3 h4
  simp at e4
  subst e4
  obtain ⟨a, len, cap, zs, e5, hS, hz, hzl⟩ : ∃ (a : Option Addr) (len cap : Nat) (zs : List (List UInt8)), c7 = .slice a len cap ∧ StrsOf a len zs W ∧ len ≤ maxLen ∧ ∀ s ∈ zs, s.length ≤ maxLen := by
   rcases open_strings Tryz.underlying24 Tryz.underlying9 (by kernel_rfl) h5 with ⟨hcs, _⟩ | ⟨x, l, c, zs, hcs, _, hl, hm, hz, _, hcell, hwz⟩
   ·simp at hcs
    exact ⟨none, 0, 0, [], hcs, ⟨rfl, .inl rfl⟩, Nat.zero_le _, fun s hs => by cases hs⟩
   ·simp at hcs
    refine ⟨some x, l, c, _, hcs, strs_open hl (by simpa using hz) hcell, Nat.le_trans hl hm, fun s hs => ?_⟩
    obtain ⟨u, hu, rfl⟩ := List.mem_map.1 hs
    have := hwz u (List.mem_of_mem_take hu)
    simpa using this
  subst e5
  obtain ⟨y6, e6, _, w6⟩ := DataW.trod_string Tryz.underlying9 h6
  simp at e6
  subst e6
  obtain ⟨y7, e7, _⟩ := DataW.trod_bool Tryz.underlying4 h7
  simp at e7
  subst e7
  obtain ⟨y8, e8, _, w8⟩ := DataW.trod_string Tryz.underlying9 h8
  simp at e8
  subst e8
  obtain ⟨y9, e9, _⟩ := DataW.trod_bool Tryz.underlying4 h9
  simp at e9
  subst e9
  obtain ⟨y10, e10, _, w10⟩ := DataW.trod_string Tryz.underlying9 h10
  simp at e10
  subst e10
  refine ⟨⟨y0, y1, y2, z0, z1, z2, y4, zs, y6, y7, y8, y9, y10⟩, a, len, cap, rfl, hS, ⟨w0, w1, w2, wz, w6, w8, w10, ?_, hzl⟩, ?_⟩
  ·have := hS.1; show zs.length ≤ _; omega
  ·have h := w4
   have hm : IntKind.i64.max = 9223372036854775807 := by decide
   have h2 : y4 ≤ IntKind.i64.max := by simp [Lit.wf] at h; exact h.2
   rw [hm] at h2
   exact h2
end Go.Proofs.YtnfhajhdpdidlaaGreatDoor
end

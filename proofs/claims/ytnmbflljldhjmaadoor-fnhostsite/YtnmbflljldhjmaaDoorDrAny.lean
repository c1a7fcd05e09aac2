/- spec.l11AnyHost, spec.DrawHostSite: a host is drawn, and perhaps one field turned. -/
import Derived.Test.YtnmbflljldhjmaaDoorDrHostL
import Derived.Test.YtnmbflljldhjmaaDoorOfI
import Derived.Test.YtnmbflljldhjmaaDoorSitQ
set_option linter.unusedVariables false
namespace Go.Proofs.YtnmbflljldhjmaaDoor
open Go.RowKit Go.Shelf

def namesL : List ByteArray := [⟨#[65]⟩, ⟨#[]⟩, ⟨#[97, 46, 98]⟩, ⟨#[49]⟩, ⟨#[120, 46]⟩]
theorem namesL_size (x : ByteArray) (h : x ∈ namesL) : x.size ≤ 200 := by
  simp only [namesL, List.mem_cons, List.not_mem_nil, or_false] at h
  rcases h with rfl | rfl | rfl | rfl | rfl <;> decide

/-- A host in a block of its own. -/
def HostB (h : Nat) (k : Int) (n : ByteArray) (a : Int) (w : World) : Prop := w.heap[h]? = some (.cells #[.int .i64 k, .string n, .int .i64 a] 24 (0, 0))
theorem HostB.grown {h r : Nat} {k : Int} {n : ByteArray} {a : Int} {w w' : World} (x : HostB h k n a w) (g : w.grownBy w' (some r)) (hr : h ≠ r) : HostB h k n a w' := (g.block h (Array.getElem?_eq_some_iff.1 x).1 (by simp [hr])).trans x
theorem HostB.below {h B : Nat} {k : Int} {n : ByteArray} {a : Int} {w w' : World} (x : HostB h k n a w) (b : Below B w w') (hB : h < B) : HostB h k n a w' := (b.block h hB).trans x
theorem HostB.lt {h : Nat} {k : Int} {n : ByteArray} {a : Int} {w : World} (x : HostB h k n a w) : h < w.heap.size := (Array.getElem?_eq_some_iff.1 x).1
theorem HostB.cells {h : Nat} {k : Int} {n : ByteArray} {a : Int} {w : World} (x : HostB h k n a w) : w.cell? ⟨h, 0, none⟩ = some (.int .i64 k) ∧ w.cell? ⟨h, 1, none⟩ = some (.string n) ∧ w.cell? ⟨h, 2, none⟩ = some (.int .i64 a) :=
  ⟨by rw [Lib.cell_of_heap x]; rfl, by rw [Lib.cell_of_heap x]; rfl, by rw [Lib.cell_of_heap x]; rfl⟩
theorem HostB.free {h : Nat} {k : Int} {n : ByteArray} {a : Int} {w : World} (x : HostB h k n a w) : w.frozen? ⟨h, 0, none⟩ = false ∧ w.frozen? ⟨h, 1, none⟩ = false ∧ w.frozen? ⟨h, 2, none⟩ = false := ⟨Lib.frozen_of_heap x 0, Lib.frozen_of_heap x 1, Lib.frozen_of_heap x 2⟩

theorem setCell_else (W : World) (g j k : Nat) (v : Value) (h : k ≠ g) : (W.setCell ⟨g, j, none⟩ v).heap[k]? = W.heap[k]? := by
  by_cases hk : k < W.heap.size
  · exact (setCell_grown W g j v).block k hk (by simp [h])
  · have e : (W.setCell ⟨g, j, none⟩ v).heap.size = W.heap.size := by simp
    rw [Array.getElem?_eq_none (by omega), Array.getElem?_eq_none (by omega)]
theorem grown_new {w W : World} {r : Nat} (h : w.grownBy W (some r)) (g j : Nat) (v : Value) (hg : w.heap.size ≤ g) : w.grownBy (W.setCell ⟨g, j, none⟩ v) (some r) :=
  ⟨h.os, h.tape, h.output, by simpa using h.size, fun k hk hr => (setCell_else W g j k v (by omega)).trans (h.block k hk hr)⟩
theorem Rd.new {B r p g : Nat} {W : World} (h : Rd B r p W) (j : Nat) (v : Value) (hg : r < g) : Rd B r p (W.setCell ⟨g, j, none⟩ v) :=
  h.stays (setCell_else W g j r v (by omega)) (fun k hk => setCell_else W g j k v (by have := h.1; omega))

set_option maxHeartbeats 2000000 in
set_option maxRecDepth 100000 in
theorem l11AnyHost (B r p : Nat) (w : World) (hp : p ≤ 1000) (h : Rd B r p w) :
    Calls Tryd.prog 9 #[.pointer (some ⟨r, 0, none⟩)] w fun e w' => ∃ (k : Int) (n : ByteArray) (a : Int) (q : Nat), e = .returned (.agg #[.int .i64 k, .string n, .int .i64 a]) ∧ n.size ≤ 200 ∧ q ≤ p + 3 ∧ Rd B r q w' ∧ w.grownBy w' (some r) := by
  have hrl := h.lt
  have hB : B ≤ r := h.1
  go_enter Tryd.func9, Tryd.ntmps9
  go_wp2_with fail
  refine (l11Host B r p _ (by omega) (rd_more h _)).mono ?_
  rintro e w1 ⟨s, hs, rfl, hr1, hg1⟩
  have hz1 : HostB w.heap.size 0 ⟨#[]⟩ 0 w1 := HostB.grown (heap_alloc_new w _) hg1 (by omega)
  have hss := hostsL_size s hs
  obtain ⟨k, n, a, hag, hn⟩ := getAgg_small s.data.toList
  have CS : Hid (∀ W, Calls Tryd.prog 22 #[.string s] W fun e w' => e = .returned (.tuple #[.agg #[.int .i64 k, .string n, .int .i64 a], .bool (getOk s.data.toList)]) ∧ Below W.heap.size W w') := by
    intro W
    have := specHostGet s W (by omega)
    rw [hag] at this; exact this
  generalize getOk s.data.toList = ok at *
  clear hag
  have G1 : w.grownBy w1 (some r) := grown_trans (World.grownBy_alloc w _ _) hg1
  go_wp2_with fail
  refine (CS.out _).mono ?_
  rintro e w2 ⟨rfl, d2⟩
  clear CS
  have G2 : w.grownBy w2 (some r) := grown_trans G1 (grown_below (World.grownBy.refl w1 _) d2)
  have hr2 : Rd B r (p + 1) w2 := hr1.below d2 hr1.lt
  have hz2 : HostB w.heap.size 0 ⟨#[]⟩ 0 w2 := hz1.below d2 hz1.lt
  have hlt2 := hz2.lt
  have hrl2 := hr2.lt
  have hH3 : HostB w2.heap.size k n a (w2.alloc (Obj.cells #[Value.int IntKind.i64 k, Value.string n, Value.int IntKind.i64 a] 24)) := heap_alloc_new w2 _
  have hz3 : HostB w.heap.size 0 ⟨#[]⟩ 0 (w2.alloc (Obj.cells #[Value.int IntKind.i64 k, Value.string n, Value.int IntKind.i64 a] 24)) := (Lib.alloc_old w2 _ w.heap.size hlt2).trans hz2
  have G3 := grown_alloc G2 (Obj.cells #[Value.int IntKind.i64 k, Value.string n, Value.int IntKind.i64 a] 24)
  have hr3 := rd_more hr2 (Obj.cells #[Value.int IntKind.i64 k, Value.string n, Value.int IntKind.i64 a] 24)
  go_wp2_with fail
  refine (pick B r (p + 1) 12 _ (by decide) (by decide) (by omega) hr3).mono ?_
  rintro e w4 ⟨v, rfl, hv0, hv1, hr4, hg4⟩
  have hH4 : HostB w2.heap.size k n a w4 := hH3.grown hg4 (by omega)
  have hz4 : HostB w.heap.size 0 ⟨#[]⟩ 0 w4 := hz3.grown hg4 (by omega)
  have G4 := grown_trans G3 hg4
  clear hr1 hg1 hz1 G1 d2 hr2 hz2 G2 hH3 hz3 G3 hr3 hg4
  have hne : w2.heap.size ≠ w.heap.size := by omega
  have hne' : w.heap.size ≠ w2.heap.size := by omega
  obtain ⟨z0, z1, z2⟩ := hz4.cells
  obtain ⟨f0, f1, f2⟩ := hz4.free
  have hwr : w.heap.size ≤ w2.heap.size := by omega
  by_cases v0 : v = 0
  · subst v0
    go_wp2_with fail
    refine (pick B r (p + 1 + 1) 4 _ (by decide) (by decide) (by omega) hr4).mono ?_
    rintro e w5 ⟨u, rfl, hu0, hu1, hr5, hg5⟩
    have hH5 := hH4.grown hg5 (by omega)
    have hz5 := hz4.grown hg5 (by omega)
    have G5 := grown_trans G4 hg5
    have hlt5 := hz5.lt
    have hltH := hH5.lt
    obtain ⟨c0, c1, c2⟩ := hH5.cells
    obtain ⟨y0, y1, y2⟩ := hH5.free
    obtain ⟨x0, x1, x2⟩ := hz5.cells
    obtain ⟨g0, g1, g2⟩ := hz5.free
    clear z0 z1 z2 f0 f1 f2
    go_wp2
    refine bodyPost_ret (v := .agg #[.int .i64 u, .string n, .int .i64 a]) (by simp [results, Tryd.results9, go_sem, x0, x1, x2]) rfl ⟨u, n, a, p + 1 + 1 + 1, rfl, hn, by omega, ?_, ?_⟩
    · exact (((hr5.new 0 _ hrl2).new 0 _ hrl).new 1 _ hrl).new 2 _ hrl
    · exact grown_new (grown_new (grown_new (grown_new G5 _ _ _ hwr) _ _ _ (Nat.le_refl _)) _ _ _ (Nat.le_refl _)) _ _ _ (Nat.le_refl _)
  have e0 : (v == 0) = false := beq_eq_false_iff_ne.2 v0
  by_cases v1 : v = 1
  · subst v1
    go_wp2_with fail
    refine (rdOf B r (p + 1 + 1) w4.heap.size 5 namesL 9 (0, 0) _ _ rfl (heap_alloc_new w4 _) (by have := hr4.lt; omega) (by simp [namesL]) (by simp [namesL]) (by omega) (rd_more hr4 _)).mono ?_
    rintro e w5 ⟨u, hu, rfl, hr5, hg5⟩
    have hH5 : HostB w2.heap.size k n a w5 := HostB.grown ((Lib.alloc_old w4 _ w2.heap.size hH4.lt).trans hH4) hg5 (by omega)
    have hz5 : HostB w.heap.size 0 ⟨#[]⟩ 0 w5 := HostB.grown ((Lib.alloc_old w4 _ w.heap.size hz4.lt).trans hz4) hg5 (by omega)
    have G5 := grown_trans (grown_alloc G4 _) hg5
    have hus := namesL_size u hu
    have hlt5 := hz5.lt
    have hltH := hH5.lt
    obtain ⟨c0, c1, c2⟩ := hH5.cells
    obtain ⟨y0, y1, y2⟩ := hH5.free
    obtain ⟨x0, x1, x2⟩ := hz5.cells
    obtain ⟨g0, g1, g2⟩ := hz5.free
    clear z0 z1 z2 f0 f1 f2
    go_wp2
    refine bodyPost_ret (v := .agg #[.int .i64 k, .string u, .int .i64 a]) (by simp [results, Tryd.results9, go_sem, x0, x1, x2]) rfl ⟨k, u, a, p + 1 + 1 + 1, rfl, hus, by omega, ?_, ?_⟩
    · exact (((hr5.new 1 _ hrl2).new 0 _ hrl).new 1 _ hrl).new 2 _ hrl
    · exact grown_new (grown_new (grown_new (grown_new G5 _ _ _ hwr) _ _ _ (Nat.le_refl _)) _ _ _ (Nat.le_refl _)) _ _ _ (Nat.le_refl _)
  have e1 : (v == 1) = false := beq_eq_false_iff_ne.2 v1
  by_cases v2 : v = 2
  · subst v2
    go_wp2_with fail
    refine (rdOne B r (p + 1 + 1) w4.heap.size 4 [-1, 4294967295, 4294967296, 7] 3 (0, 0) _ _ rfl (heap_alloc_new w4 _) (by have := hr4.lt; omega) (by simp) (by simp) (by omega) (rd_more hr4 _)).mono ?_
    rintro e w5 ⟨u, hu, rfl, hr5, hg5⟩
    have hH5 : HostB w2.heap.size k n a w5 := HostB.grown ((Lib.alloc_old w4 _ w2.heap.size hH4.lt).trans hH4) hg5 (by omega)
    have hz5 : HostB w.heap.size 0 ⟨#[]⟩ 0 w5 := HostB.grown ((Lib.alloc_old w4 _ w.heap.size hz4.lt).trans hz4) hg5 (by omega)
    have G5 := grown_trans (grown_alloc G4 _) hg5
    have hlt5 := hz5.lt
    have hltH := hH5.lt
    obtain ⟨c0, c1, c2⟩ := hH5.cells
    obtain ⟨y0, y1, y2⟩ := hH5.free
    obtain ⟨x0, x1, x2⟩ := hz5.cells
    obtain ⟨g0, g1, g2⟩ := hz5.free
    clear z0 z1 z2 f0 f1 f2 hu
    go_wp2
    refine bodyPost_ret (v := .agg #[.int .i64 k, .string n, .int .i64 u]) (by simp [results, Tryd.results9, go_sem, x0, x1, x2]) rfl ⟨k, n, u, p + 1 + 1 + 1, rfl, hn, by omega, ?_, ?_⟩
    · exact (((hr5.new 2 _ hrl2).new 0 _ hrl).new 1 _ hrl).new 2 _ hrl
    · exact grown_new (grown_new (grown_new (grown_new G5 _ _ _ hwr) _ _ _ (Nat.le_refl _)) _ _ _ (Nat.le_refl _)) _ _ _ (Nat.le_refl _)
  have e2 : (v == 2) = false := beq_eq_false_iff_ne.2 v2
  obtain ⟨c0, c1, c2⟩ := hH4.cells
  have hlt5 := hz4.lt
  have hltH := hH4.lt
  go_wp2
  refine bodyPost_ret (v := .agg #[.int .i64 k, .string n, .int .i64 a]) (by simp [results, Tryd.results9, go_sem, z0, z1, z2]) rfl ⟨k, n, a, p + 1 + 1, rfl, hn, by omega, ?_, ?_⟩
  · exact ((hr4.new 0 _ hrl).new 1 _ hrl).new 2 _ hrl
  · exact grown_new (grown_new (grown_new G4 _ _ _ (Nat.le_refl _)) _ _ _ (Nat.le_refl _)) _ _ _ (Nat.le_refl _)

theorem code_alloc {B : Nat} {w : World} {a : Option Addr} {len cap : Nat} (h : Code B w a len cap) (hB : B ≤ w.heap.size) (o : Obj) : Code B (w.alloc o) a len cap := by
  obtain ⟨hl, hm, hc⟩ := h
  refine ⟨hl, hm, ?_⟩
  rcases hc with hc | ⟨b, off, ha, hb, z, hc⟩
  · exact .inl hc
  · refine .inr ⟨b, off, ha, hb, z, fun i hi => ⟨?_, (hc i hi).2⟩⟩
    have : (w.alloc o).cell? ⟨b, off + i, none⟩ = w.cell? ⟨b, off + i, none⟩ := by unfold World.cell?; rw [Lib.alloc_old w _ b (by omega)]
    rw [this]; exact (hc i hi).1
set_option maxHeartbeats 1000000 in
set_option maxRecDepth 100000 in
theorem drawHostSite (B : Nat) (a : Option Addr) (len cap : Nat) (w : World) (hB : B ≤ w.heap.size) (h : Code B w a len cap) :
    Calls Tryd.prog 4 #[.slice a len cap] w fun e w' => ∃ (k : Int) (n : ByteArray) (x : Int), e = .returned (.agg #[.int .i64 k, .string n, .int .i64 x]) ∧ n.size ≤ 200 ∧ Below w.heap.size w w' := by
  go_enter Tryd.func4, Tryd.ntmps4
  go_wp2_with fail
  refine (l1Open B a len cap _ (by simp; omega) (code_alloc h hB _)).mono ?_
  rintro e w1 ⟨rfl, hr, b1⟩
  have hz1 : HostB w.heap.size 0 ⟨#[]⟩ 0 w1 := HostB.below (heap_alloc_new w _) b1 (by simp)
  have B1 : Below w.heap.size w w1 := box_below b1
  obtain ⟨r, hrr⟩ : ∃ r, r = (w.alloc (Obj.cells #[Value.int IntKind.i64 0, Value.string ⟨#[]⟩, Value.int IntKind.i64 0] 24)).heap.size := ⟨_, rfl⟩
  rw [← hrr] at hr
  have hrw : r = w.heap.size + 1 := by rw [hrr]; simp
  clear hrr b1
  subst hrw
  go_wp2_with fail
  refine (l11AnyHost B (w.heap.size + 1) 0 _ (by decide) hr).mono ?_
  rintro e w2 ⟨k, n, x, q, rfl, hn, hq, hr2, hg2⟩
  have hz2 := hz1.grown hg2 (by omega)
  have hlt2 := hz2.lt
  obtain ⟨x0, x1, x2⟩ := hz2.cells
  obtain ⟨g0, g1, g2⟩ := hz2.free
  have B2 : Below w.heap.size w w2 := B1.trans (below_grown hg2 (by omega) B1.size)
  clear hz1 hz2
  go_wp2
  refine bodyPost_ret (v := .agg #[.int .i64 k, .string n, .int .i64 x]) (by simp [results, Tryd.results4, go_sem, x0, x1, x2]) rfl ⟨k, n, x, rfl, hn, ?_⟩
  exact ((B2.setCell (p := ⟨w.heap.size, 0, none⟩) (Nat.le_refl _) _).setCell (p := ⟨w.heap.size, 1, none⟩) (Nat.le_refl _) _).setCell (p := ⟨w.heap.size, 2, none⟩) (Nat.le_refl _) _
end Go.Proofs.YtnmbflljldhjmaaDoor

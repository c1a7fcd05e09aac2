/- The law FnHostLower answers true, whatever the code. -/
import Derived.Test.YtmajfpmlpppnmaaDoorHostGS
import Derived.Test.YtmajfpmlpppnmaaDoorCapP
import Derived.Test.YtmajfpmlpppnmaaDoorByteR
import Derived.Test.YtmajfpmlpppnmaaDoorDrHost
set_option linter.unusedVariables false
namespace Go.Proofs.YtmajfpmlpppnmaaDoor
open Go.RowKit Go.Shelf

theorem cell_keep {B G o : Nat} {v : Value} {w w' : World} (hb : Below B w w') (h : w.cell? ⟨G, o, none⟩ = some v) (hG : G < B) : w'.cell? ⟨G, o, none⟩ = some v := by
  rw [hb.cell (p := ⟨G, o, none⟩) hG]; exact h
/-- A host in a block of its own. -/
def HostAt (h : Nat) (k : Int) (n : ByteArray) (a : Int) (w : World) : Prop := w.heap[h]? = some (.cells #[.int .i64 k, .string n, .int .i64 a] 24 (0, 0))
theorem HostAt.below {h B : Nat} {k : Int} {n : ByteArray} {a : Int} {w w' : World} (x : HostAt h k n a w) (b : Below B w w') (hB : h < B) : HostAt h k n a w' := (b.block h hB).trans x
theorem HostAt.lt {h : Nat} {k : Int} {n : ByteArray} {a : Int} {w : World} (x : HostAt h k n a w) : h < w.heap.size := (Array.getElem?_eq_some_iff.1 x).1
theorem HostAt.cells {h : Nat} {k : Int} {n : ByteArray} {a : Int} {w : World} (x : HostAt h k n a w) : w.cell? ⟨h, 0, none⟩ = some (.int .i64 k) ∧ w.cell? ⟨h, 1, none⟩ = some (.string n) ∧ w.cell? ⟨h, 2, none⟩ = some (.int .i64 a) :=
  ⟨by rw [Lib.cell_of_heap x]; rfl, by rw [Lib.cell_of_heap x]; rfl, by rw [Lib.cell_of_heap x]; rfl⟩
theorem get_cap (l : List UInt8) : getAgg (capL l) = getAgg l ∧ getOk (capL l) = getOk l := by
  have e : readL (capL l) = readL l := low_dec_cap l.length l (Nat.le_refl _)
  unfold getAgg getOk
  rw [capL_len, e]; exact ⟨rfl, rfl⟩
theorem getAgg_is (l : List UInt8) : ∃ (k : Int) (n : ByteArray) (a : Int), getAgg l = .agg #[.int .i64 k, .string n, .int .i64 a] := by
  unfold getAgg
  split
  · exact ⟨_, _, _, rfl⟩
  · exact ⟨_, _, _, rfl⟩

set_option maxHeartbeats 4000000 in
set_option maxRecDepth 100000 in
theorem fnHostLower_walk (w : World) (hM : ∃ m, w.cell? ⟨0, 0, none⟩ = some (.int .i64 m)) (a : Option Addr) (len cap : Nat) (zs : List Int) (h : IsRow .u8 w a len cap zs) :
    Calls Tryd.prog 6 #[.slice a len cap] w fun e w' => e = .returned (.bool true) ∧ Below w.heap.size w w' := by
  obtain ⟨m, hm⟩ := hM
  have hC := code_of_row h
  have hG : 0 < w.heap.size := cell_in hm
  by_cases h1 : (1048576 : Int) < (len : Int)
  · go_enter Tryd.func6, Tryd.ntmps6
    go_wp2
    go_ret
    exact ⟨rfl, Below.refl _ _⟩
  have h1' : (len : Int) ≤ 1048576 := by omega
  clear h1 h
  go_enter Tryd.func6, Tryd.ntmps6
  go_wp2_with fail
  refine (drawHostGet w.heap.size a len cap _ (Nat.le_refl _) hC).mono ?_
  rintro e w1 ⟨s, rfl, hs, b1⟩
  obtain ⟨kd, nm, ad, hag⟩ := getAgg_is s.data.toList
  obtain ⟨l, hl⟩ : ∃ l, l = s.data.toList := ⟨_, rfl⟩
  have hll : l.length = s.size := by rw [hl]; simp
  have hsl : mk l = s := by rw [hl]; exact mk_list s
  obtain ⟨gc1, gc2⟩ := get_cap l
  rw [← hl] at hag
  have CI : Hid (∀ W, Below w.heap.size w W → Calls Tryd.prog 11 #[.string s] W fun e w' => e = .returned (.tuple #[.agg #[.int .i64 kd, .string nm, .int .i64 ad], .bool (getOk l)]) ∧ Below W.heap.size W w') := by
    intro W hW
    have := implHostGet s W ⟨m, cell_keep hW hm hG⟩ (by omega)
    rw [← hl, hag] at this; exact this
  have CS : Hid (∀ W, Calls Tryd.prog 16 #[.string s] W fun e w' => e = .returned (.tuple #[.agg #[.int .i64 kd, .string nm, .int .i64 ad], .bool (getOk l)]) ∧ Below W.heap.size W w') := by
    intro W
    have := specHostGet s W (by omega)
    rw [← hl, hag] at this; exact this
  have CC : Hid (∀ W, Below w.heap.size w W → Calls Tryd.prog 11 #[.string (mk (capL l))] W fun e w' => e = .returned (.tuple #[.agg #[.int .i64 kd, .string nm, .int .i64 ad], .bool (getOk l)]) ∧ Below W.heap.size W w') := by
    intro W hW
    have := implHostGet (mk (capL l)) W ⟨m, cell_keep hW hm hG⟩ (by rw [mk_size, capL_len]; omega)
    rw [mk_data, gc1, gc2, hag] at this; exact this
  have HL : Hid (l = s.data.toList) := hl
  have HLL : Hid (l.length = s.size) := hll
  generalize getOk l = ok at *
  clear hag gc1 gc2 hC hl hsl hll
  go_wp2_with fail
  refine (CI.out _ b1).mono ?_
  rintro e w2 ⟨rfl, d2⟩
  have b2 := b1.trans (d2.mono b1.size)
  have b3 : Below w.heap.size w (w2.alloc (.cells #[.int .i64 kd, .string nm, .int .i64 ad] 24)) := b2.alloc b2.size _
  have hA3 : HostAt w2.heap.size kd nm ad (w2.alloc (.cells #[.int .i64 kd, .string nm, .int .i64 ad] 24)) := heap_alloc_new w2 _
  have hwg : w.heap.size ≤ w2.heap.size := b2.size
  go_wp2_with fail
  refine (CS.out _).mono ?_
  rintro e w4 ⟨rfl, d4⟩
  have b4 := b3.trans (d4.mono b3.size)
  have hA4 := hA3.below d4 (by simp)
  have hg4 := hA4.lt
  have hgn : w2.heap.size ≠ w4.heap.size := by omega
  obtain ⟨q0, q1, q2⟩ := hA4.cells
  have b5 : Below w.heap.size w (w4.alloc (.cells #[.int .i64 kd, .string nm, .int .i64 ad] 24)) := b4.alloc b4.size _
  have hA5 : HostAt w2.heap.size kd nm ad (w4.alloc (.cells #[.int .i64 kd, .string nm, .int .i64 ad] 24)) := (Lib.alloc_old w4 _ w2.heap.size hg4).trans hA4
  obtain ⟨c, W6, hrun, hR, hB6⟩ := bytes_run s (w4.alloc (.cells #[.int .i64 kd, .string nm, .int .i64 ad] 24))
  obtain ⟨r, hr⟩ : ∃ r, r = (w4.alloc (.cells #[.int .i64 kd, .string nm, .int .i64 ad] 24)).heap.size := ⟨_, rfl⟩
  have hrw : r = w4.heap.size + 1 := by rw [hr]; simp
  rw [← hr] at hrun hR hB6
  rw [← HL.out] at hR
  clear hr
  subst hrw
  have B6 : Below w.heap.size w W6 := b5.trans (hB6.mono (by have := b4.size; omega))
  have hA6 : HostAt w2.heap.size kd nm ad W6 := hA5.below hB6 (by omega)
  clear CS CI hA3 hA4 b1 b2 b3 d2 d4 hA5
  go_wp2
  go_loopw [9] (fun i wr => ∃ k : Nat, k ≤ l.length ∧ i = .int .i64 k ∧ RowB (w4.heap.size + 1) (capL (l.take k) ++ l.drop k) wr ∧ Below (w4.heap.size + 1) W6 wr) (fun i wr => l.length - (intOf i).toNat)
  case atStart => exact ⟨0, Nat.zero_le _, rfl, hR, Below.refl _ _⟩
  case round =>
    clear hrun hR q0 q1 q2
    obtain ⟨k, hk, rfl, hI, hbw⟩ := hrel
    by_cases hp : k < l.length
    · have hki : (k : Int) < (s.size : Int) := by have := HLL.out; omega
      have hI' : RowB (w4.heap.size + 1) ((l.take k).map capB ++ l.drop k) wr := hI
      obtain ⟨hc, hf⟩ := hI'.atMap hp
      have hb := u8_lt l[k]
      by_cases hx : (97 : Int) ≤ (l[k].toNat : Int) ∧ (l[k].toNat : Int) ≤ 122
      · obtain ⟨hx1, hx2⟩ := hx
        have hw1 : IntKind.u8.wrap ((l[k].toNat : Int) - 32) = (l[k].toNat : Int) - 32 := by rw [IntKind.wrap_u8]; omega
        have HP : Hid (RowB (w4.heap.size + 1) (capL (l.take (k + 1)) ++ l.drop (k + 1)) (wr.setCell ⟨w4.heap.size + 1, k, none⟩ (.int .u8 ((l[k].toNat : Int) - 32)))) := hI'.putMap hp _ (by rcases capB_val l[k] with ⟨_, _, h3⟩ | ⟨h3, _⟩ <;> omega)
        clear hI hI'
        go_wp2
        go_roundw
        case rel => exact ⟨k + 1, by omega, by go_num, HP.out, hbw.setCell (p := ⟨w4.heap.size + 1, k, none⟩) (Nat.le_refl _) _⟩
        case measure => simp [intOf]; omega
      · have HP : Hid (RowB (w4.heap.size + 1) (capL (l.take (k + 1)) ++ l.drop (k + 1)) wr) := hI'.same hp (by rcases capB_val l[k] with ⟨h3, h4, _⟩ | ⟨_, h3⟩; omega; exact h3)
        clear hI hI'
        rcases (show (l[k].toNat : Int) < 97 ∨ ((97 : Int) ≤ (l[k].toNat : Int) ∧ (122 : Int) < (l[k].toNat : Int)) from by omega) with hx1 | ⟨hx1, hx2⟩
        all_goals
          clear hx
          go_wp2
          go_roundw
          case rel => exact ⟨k + 1, by omega, by go_num, HP.out, hbw⟩
          case measure => simp [intOf]; omega
    · have hkk : k = l.length := by omega
      have hkn : ¬ ((k : Int) < (s.size : Int)) := by have := HLL.out; omega
      rw [hkk] at hI
      clear hkk
      rw [List.take_length, List.drop_length, List.append_nil] at hI
      have htx := hI.text (cap := c)
      rw [capL_len, HLL.out] at htx
      have hBr : Below w.heap.size w wr := B6.trans (hbw.mono (by omega))
      have hA7 := hA6.below hbw (by omega)
      clear hI
      go_wp2_with fail
      refine (CC.out _ hBr).mono ?_
      rintro _ W8 ⟨rfl, d8⟩
      have hA8 := hA7.below d8 hA7.lt
      have hlt8 := hA8.lt
      have hgn8 : w2.heap.size ≠ W8.heap.size := by omega
      obtain ⟨p0, p1, p2⟩ := hA8.cells
      have b8 := hBr.trans (d8.mono hBr.size)
      go_wp2
      go_ret
      exact ⟨rfl, b8.alloc b8.size _⟩
end Go.Proofs.YtmajfpmlpppnmaaDoor

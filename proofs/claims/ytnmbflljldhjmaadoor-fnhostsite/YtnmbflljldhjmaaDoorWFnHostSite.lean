/- The law FnHostSite answers true, whatever the code. -/
import Derived.Test.YtnmbflljldhjmaaDoorDrAny
set_option linter.unusedVariables false
namespace Go.Proofs.YtnmbflljldhjmaaDoor
open Go.RowKit Go.Shelf

theorem tab_lt {w : World} (h : Lib.TabIs Tryd.prog w "internal/strconv.uint64pow10" .u64 Lib.pow10Tab) : 1 < w.heap.size := by
  have hgn : Tryd.prog.globalNamed "internal/strconv.uint64pow10" = some 1 := by kernel_rfl
  have := h.cell hgn 0 (by rw [Lib.pow10Tab_length]; omega)
  exact cell_lt this
theorem ok_named {s : ByteArray} {a : Int} (h : okH 1 s a = true) : a = 0 ∧ nameL s.data.toList = true ∧ endsL s.data.toList = false := by
  rw [ok_one] at h
  simp only [Bool.and_eq_true, Bool.not_eq_true', decide_eq_true_eq] at h
  exact ⟨h.2, h.1.1, h.1.2⟩

set_option maxHeartbeats 4000000 in
set_option maxRecDepth 100000 in
theorem fnHostSite_walk (w : World) (hm : ∃ m, w.cell? ⟨0, 0, none⟩ = some (.int .i64 m)) (ht : Lib.TabIs Tryd.prog w "internal/strconv.uint64pow10" .u64 Lib.pow10Tab) (c : Option Addr) (len cap : Nat) (zs : List Int) (h : IsRow .u8 w c len cap zs) :
    Calls Tryd.prog 3 #[.slice c len cap] w fun e w' => e = .returned (.bool true) ∧ Below w.heap.size w w' := by
  have hC := code_of_row h
  by_cases h1 : (1048576 : Int) < (len : Int)
  · go_enter Tryd.func3, Tryd.ntmps3
    go_wp2
    go_ret
    exact ⟨rfl, Below.refl _ _⟩
  have h1' : (len : Int) ≤ 1048576 := by omega
  have hlt : 0 < w.heap.size := by
    obtain ⟨m, hm⟩ := hm
    exact cell_lt hm
  have HM : Hid (∀ W, Below w.heap.size w W → ∃ m, W.cell? ⟨0, 0, none⟩ = some (.int .i64 m)) := by
    obtain ⟨m, hm⟩ := hm
    intro W b
    exact ⟨m, (b.cell (p := ⟨0, 0, none⟩) hlt).trans hm⟩
  have hB : 1 < w.heap.size := tab_lt ht
  have HT : Hid (∀ W, Below w.heap.size w W → Lib.TabIs Tryd.prog W "internal/strconv.uint64pow10" .u64 Lib.pow10Tab) := fun W b => tab_below ht b hB
  have SI : Hid (∀ (k : Int) (s : ByteArray) (a : Int) (W : World), Below w.heap.size w W → s.size ≤ 1000 → Calls Tryd.prog 5 #[.agg #[.int .i64 k, .string s, .int .i64 a]] W fun e w' => e = .returned (.string (mk (siteT k s a))) ∧ Below W.heap.size W w') := fun k s a W b hs => implSite k s a W (HM.out _ b) (Nat.lt_of_lt_of_le hB b.size) (HT.out _ b) (by omega)
  have GI : Hid (∀ (s : ByteArray) (W : World), Below w.heap.size w W → s.size ≤ 1000 → Calls Tryd.prog 8 #[.string s] W fun e w' => e = .returned (.tuple #[getAgg s.data.toList, .bool (getOk s.data.toList)]) ∧ Below W.heap.size W w') := fun s W b hs => implHostGet s W (HM.out _ b) (by omega)
  clear h1 h hm ht hB hlt HM HT
  go_enter Tryd.func3, Tryd.ntmps3
  go_wp2_with fail
  refine (drawHostSite w.heap.size c len cap _ (Nat.le_refl _) hC).mono ?_
  rintro e w1 ⟨k, n, a, rfl, hn, b1⟩
  have CI : Hid (∀ W, Below w.heap.size w W → Calls Tryd.prog 5 #[.agg #[.int .i64 k, .string n, .int .i64 a]] W fun e w' => e = .returned (.string (mk (siteT k n a))) ∧ Below W.heap.size W w') := fun W b => SI.out k n a W b (by omega)
  have CS : Hid (∀ W, Calls Tryd.prog 6 #[.agg #[.int .i64 k, .string n, .int .i64 a]] W fun e w' => e = .returned (.string (mk (siteT k n a))) ∧ Below W.heap.size W w') := fun W => specSite k n a W (by omega)
  have CO : Hid (∀ W, Calls Tryd.prog 7 #[.agg #[.int .i64 k, .string n, .int .i64 a]] W fun e w' => e = .returned (.bool (okH k n a)) ∧ Below W.heap.size W w') := fun W => specOk k n a W (by omega)
  obtain ⟨S, hT⟩ : ∃ S, S = mk (siteT k n a) := ⟨_, rfl⟩
  rw [← hT] at CI CS
  have HTT : Hid (S = mk (siteT k n a)) := hT
  clear hT hC
  have hH2 : HostB w1.heap.size k n a (w1.alloc (Obj.cells #[Value.int IntKind.i64 k, Value.string n, Value.int IntKind.i64 a] 24)) := heap_alloc_new w1 _
  have b2 : Below w.heap.size w (w1.alloc (Obj.cells #[Value.int IntKind.i64 k, Value.string n, Value.int IntKind.i64 a] 24)) := b1.alloc b1.size _
  go_wp2_with fail
  refine (CI.out _ b2).mono ?_
  rintro e w3 ⟨rfl, d3⟩
  have hH3 := hH2.below d3 hH2.lt
  have b3 := b2.trans (d3.mono b2.size)
  obtain ⟨q0, q1, q2⟩ := hH3.cells
  clear hH2 b2 d3 b1
  go_wp2_with fail
  refine (CS.out _).mono ?_
  rintro e w4 ⟨rfl, d4⟩
  have hH4 := hH3.below d4 hH3.lt
  have b4 := b3.trans (d4.mono b3.size)
  clear hH3 b3 d4 q0 q1 q2
  obtain ⟨q0, q1, q2⟩ := hH4.cells
  by_cases hk : k = 1
  · subst hk
    go_wp2_with fail
    refine (CO.out _).mono ?_
    rintro e w5 ⟨rfl, d5⟩
    have hH5 := hH4.below d5 hH4.lt
    have b5 := b4.trans (d5.mono b4.size)
    clear hH4 b4 d5 q0 q1 q2
    obtain ⟨q0, q1, q2⟩ := hH5.cells
    cases hok : okH 1 n a with
    | false =>
      go_wp2_with fail
      refine (CS.out _).mono ?_
      rintro e w6 ⟨rfl, d6⟩
      have b6 := b5.trans (d6.mono b5.size)
      go_wp2
      go_ret
      exact ⟨rfl, b6⟩
    | true =>
      obtain ⟨rfl, hnm, hen⟩ := ok_named hok
      obtain ⟨t, htt⟩ : ∃ t, t = siteL n.data.toList := ⟨_, rfl⟩
      have hS : S = mk t := by rw [HTT.out, site_named (by rw [named_is, hnm, hen]; rfl), htt]
      obtain ⟨⟨n1, n2, n3⟩, t60, t1, tc⟩ := site_facts _ hnm hen
      rw [← htt] at n1 n2 n3 t60 t1 tc
      obtain ⟨ga, go⟩ := get_name t n1 n2
      have hsz : S.size = t.length := by rw [hS, mk_size]
      have hsl : S.data.toList = t := by rw [hS, mk_data]
      obtain ⟨f1, f2, f3⟩ := full_text S (by omega)
      have CG : Hid (∀ W, Below w.heap.size w W → Calls Tryd.prog 8 #[.string S] W fun e w' => e = .returned (.tuple #[.agg #[.int .i64 1, .string S, .int .i64 0], .bool true]) ∧ Below W.heap.size W w') := by
        intro W hW
        have := GI.out S W hW (by omega)
        rw [hsl, ga, go, ← hS] at this; exact this
      have CX : Hid (∀ W, Below w.heap.size w W → Calls Tryd.prog 5 #[.agg #[.int .i64 1, .string S, .int .i64 0]] W fun e w' => e = .returned (.string S) ∧ Below W.heap.size W w') := by
        intro W hW
        have := SI.out 1 S 0 W hW (by omega)
        rw [hS, htt, site_site _ hnm hen, ← htt, ← hS] at this; exact this
      obtain ⟨ky, ny, ay, hgy, hny⟩ := getAgg_small ([119, 119, 119, 46] ++ t)
      obtain ⟨fine, hfine⟩ : ∃ fine, fine = getOk ([119, 119, 119, 46] ++ t) := ⟨_, rfl⟩
      have hmk : (⟨#[119, 119, 119, 46]⟩ : ByteArray) ++ S = mk ([119, 119, 119, 46] ++ t) := by rw [mk_app, ← hS]; rfl
      have CW : Hid (∀ W, Below w.heap.size w W → Calls Tryd.prog 8 #[.string (⟨#[119, 119, 119, 46]⟩ ++ S)] W fun e w' => e = .returned (.tuple #[.agg #[.int .i64 ky, .string ny, .int .i64 ay], .bool fine]) ∧ Below W.heap.size W w') := by
        intro W hW
        have := GI.out (mk ([119, 119, 119, 46] ++ t)) W hW (by rw [mk_size]; simp; omega)
        rw [mk_data, hgy, ← hfine, ← hmk] at this; exact this
      have CY : Hid (fine = true → t.count 46 ≠ 0 → ∀ W, Below w.heap.size w W → Calls Tryd.prog 5 #[.agg #[.int .i64 ky, .string ny, .int .i64 ay]] W fun e w' => e = .returned (.string S) ∧ Below W.heap.size W w') := by
        intro hf hc W hW
        rw [hfine, htt] at hf
        rw [htt] at hc
        obtain ⟨g1, g2⟩ := get_www n.data.toList hnm hen hc hf
        rw [← htt] at g1 g2
        rw [hgy] at g1
        have := SI.out ky ny ay W hW (by omega)
        injection g1 with g1
        injection g1 with g1
        simp only [List.cons.injEq, Value.int.injEq, Value.string.injEq, true_and, and_true] at g1
        obtain ⟨rfl, rfl, rfl⟩ := g1
        rw [g2, ← hS] at this; exact this
      have hc1 : t.count 46 ≤ 1 := by rcases tc with h | ⟨h, _⟩ <;> omega
      have hS4 : (S.size : Int) ≤ 60 := by omega
      have HSL : Hid (S.data.toList = t) := hsl
      have HSZ : Hid (S.size = t.length) := hsz
      clear hfine hgy hmk ga go n1 n2 n3 tc hok CO CI CS SI GI HTT htt hS hsl hsz f3
      go_wp2_with fail
      refine (CG.out _ b5).mono ?_
      rintro e w6 ⟨rfl, d6⟩
      have b6 := b5.trans (d6.mono b5.size)
      have hX7 : HostB w6.heap.size 1 S 0 (w6.alloc (Obj.cells #[Value.int IntKind.i64 1, Value.string S, Value.int IntKind.i64 0] 24)) := heap_alloc_new w6 _
      have b7 : Below w.heap.size w (w6.alloc (Obj.cells #[Value.int IntKind.i64 1, Value.string S, Value.int IntKind.i64 0] 24)) := b6.alloc b6.size _
      clear b5 b6 d6 hH5 q0 q1 q2
      go_wp2_with fail
      refine (CW.out _ b7).mono ?_
      rintro e w8 ⟨rfl, d8⟩
      have hX8 := hX7.below d8 hX7.lt
      have b8 := b7.trans (d8.mono b7.size)
      have hY9 : HostB w8.heap.size ky ny ay (w8.alloc (Obj.cells #[Value.int IntKind.i64 ky, Value.string ny, Value.int IntKind.i64 ay] 24)) := heap_alloc_new w8 _
      have hX9 : HostB w6.heap.size 1 S 0 (w8.alloc (Obj.cells #[Value.int IntKind.i64 ky, Value.string ny, Value.int IntKind.i64 ay] 24)) := (Lib.alloc_old w8 _ w6.heap.size hX8.lt).trans hX8
      have b9 : Below w.heap.size w (w8.alloc (Obj.cells #[Value.int IntKind.i64 ky, Value.string ny, Value.int IntKind.i64 ay] 24)) := b8.alloc b8.size _
      clear b7 b8 d8 hX7 hX8
      go_wp2
      generalize w8.alloc (Obj.cells #[Value.int IntKind.i64 ky, Value.string ny, Value.int IntKind.i64 ay] 24) = W9 at *
      go_loopw [9, 10] (fun d i wr => ∃ k : Nat, k ≤ t.length ∧ i = .int .i64 k ∧ d = .int .i64 ((t.take k).count 46) ∧ wr = W9) (fun d i wr => t.length - (intOf i).toNat)
      case atStart => exact ⟨0, Nat.zero_le _, rfl, rfl, rfl⟩
      case round =>
        obtain ⟨k, hk, rfl, rfl, rfl⟩ := hrel
        have hcl : (t.take k).count 46 ≤ 1 := Nat.le_trans (List.Sublist.count_le _ (List.take_sublist k t)) hc1
        have hcl' : (((t.take k).count 46 : Nat) : Int) ≤ 1 := by omega
        by_cases hp : k < t.length
        · have hki : (k : Int) < (S.size : Int) := by have := HSZ.out; omega
          have hks : k < S.size := by have := HSZ.out; omega
          have hSk : S[k] = t[k] := by
            have h := HSL.out
            subst h
            rfl
          by_cases hx : S[k] = 46
          · have hcc : ((S[k].toNat : Int) == 46) = true := by rw [hx]; rfl
            have HC : Hid ((t.take (k + 1)).count 46 = (t.take k).count 46 + 1) := by
              show _ = _
              rw [List.take_succ_eq_append_getElem hp, List.count_append, ← hSk, hx]; rfl
            clear hSk hx
            go_wp2
            go_roundw
            case rel => exact ⟨k + 1, by omega, by go_num, by rw [HC.out]; go_num, by trivial⟩
            case measure => simp [intOf]; omega
          · have hcc : ((S[k].toNat : Int) == 46) = false := u8_bne S[k] 46 (by decide) hx
            have HC : Hid ((t.take (k + 1)).count 46 = (t.take k).count 46) := by
              show _ = _
              rw [List.take_succ_eq_append_getElem hp, List.count_append, ← hSk, List.count_singleton]
              rw [if_neg (by simpa using hx)]; rfl
            clear hSk hx
            go_wp2
            go_roundw
            case rel => exact ⟨k + 1, by omega, by go_num, by rw [HC.out], by trivial⟩
            case measure => simp [intOf]; omega
        · have hkk : k = t.length := by omega
          have hkn : ¬ ((k : Int) < (S.size : Int)) := by have := HSZ.out; omega
          subst hkk
          rw [List.take_length]
          clear hcl hcl' hp hk
          obtain ⟨m, hm⟩ : ∃ m, m = t.count 46 := ⟨_, rfl⟩
          rw [← hm] at CY hc1 ⊢
          obtain ⟨q0, q1, q2⟩ := hX9.cells
          clear hm
          go_wp2_with fail
          refine (CX.out _ b9).mono ?_
          rintro e w10 ⟨rfl, d10⟩
          have hY10 := hY9.below d10 hY9.lt
          have b10 := b9.trans (d10.mono b9.size)
          clear q0 q1 q2 hX9 hY9 b9 d10
          obtain ⟨q0, q1, q2⟩ := hY10.cells
          cases fine with
          | false =>
            rcases (show m = 0 ∨ m = 1 by omega) with rfl | rfl
            all_goals
              go_wp2
              go_ret
              exact ⟨rfl, b10⟩
          | true =>
            rcases (show m = 0 ∨ m = 1 by omega) with rfl | rfl
            · go_wp2
              go_ret
              exact ⟨rfl, b10⟩
            · have CY2 : Hid (∀ W, Below w.heap.size w W → Calls Tryd.prog 5 #[.agg #[.int .i64 ky, .string ny, .int .i64 ay]] W fun e w' => e = .returned (.string S) ∧ Below W.heap.size W w') := CY.out rfl (by decide)
              clear CY
              go_wp2_with fail
              refine (CY2.out _ b10).mono ?_
              rintro e w11 ⟨rfl, d11⟩
              have b11 := b10.trans (d11.mono b10.size)
              go_wp2
              go_ret
              exact ⟨rfl, b11⟩
  · have ek : (k == 1) = false := beq_eq_false_iff_ne.2 hk
    go_wp2_with fail
    refine (CS.out _).mono ?_
    rintro e w5 ⟨rfl, d5⟩
    have b5 := b4.trans (d5.mono b4.size)
    go_wp2
    go_ret
    exact ⟨rfl, b5⟩
end Go.Proofs.YtnmbflljldhjmaaDoor

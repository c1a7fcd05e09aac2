/- impl.sureCopy: hosts that share no memory with those handed in. -/
import Derived.Test.YtbogjajfbchdjaaDoorSurQ
set_option linter.unusedVariables false
set_option linter.unusedSimpArgs false
namespace Go.Proofs.YtbogjajfbchdjaaDoor
open Go.RowKit Go.Shelf

set_option maxRecDepth 100000 in
theorem cloneAny (s : ByteArray) (w : World) (hs : s.size ≤ 1048576) : Calls Tryd.prog 22 #[.string s] w fun e w' => e = .returned (.string s) ∧ Below w.heap.size w w' := by
  have CC : Hid (∀ W, Calls Tryd.prog 31 #[.string s] W fun e w' => e = .returned (.string s) ∧ Below W.heap.size W w') := fun W => Tryd.stringslite_Clone s W (by omega)
  go_enter Tryd.func22, Tryd.ntmps22
  go_wp2_with fail
  refine (CC.out _).mono ?_
  rintro e W1 ⟨rfl, b1⟩
  go_wp2
  go_ret
  exact ⟨rfl, b1⟩
set_option maxHeartbeats 4000000 in
set_option maxRecDepth 100000 in
theorem sureCopy (a : Option Addr) (len cap : Nat) (ss : List (List UInt8)) (w : World) (h : StrsOf a len ss w) (hl : ss.length + tot ss ≤ 1048576) :
    Calls Tryd.prog 19 #[.agg #[.slice a len cap]] w fun e w' => ∃ v, e = .returned (.agg #[v]) ∧ OwnS (w.heap.size + 2) v ss w' ∧ Below w.heap.size w w' := by
  have HLEN : Hid (len = ss.length) := h.1
  obtain ⟨V, hV⟩ : ∃ V, V = (w.alloc (.cells #[.slice a len cap] 27)).alloc (.cells #[.slice none 0 0] 27) := ⟨_, rfl⟩
  have HB0 : Hid (Below w.heap.size w V) := by show Below _ _ _; rw [hV]; exact ((Below.refl _ w).alloc (Nat.le_refl _) _).alloc (by simp) _
  have HA : Hid (Blk w.heap.size #[.slice a len cap] 27 V) := by show Blk _ _ _ _; rw [hV]; exact (Blk.new w _ _).alloc _
  have HR : Hid (Blk (w.heap.size + 1) #[.slice none 0 0] 27 V) := by
    show Blk _ _ _ _
    have := Blk.new (w.alloc (.cells #[.slice a len cap] 27)) #[.slice none 0 0] 27
    rw [hV]; simpa using this
  have HZ : Hid (V.heap.size = w.heap.size + 2) := by show _ = _; rw [hV]; simp
  have HS : Hid (∀ W, Below w.heap.size w W → StrsOf a len ss W) := fun W d => h.later d
  clear h
  go_enter Tryd.func19, Tryd.ntmps19
  go_upto_region 1 with fail
  rw [← hV]
  clear hV
  have k0 := HA.out.cell 0
  simp only [List.getElem?_toArray, List.getElem?_cons_zero] at k0
  go_wp2
  go_loopw [3, 9] (fun v i wr => ∃ k : Nat, k ≤ len ∧ i = .int .i64 k ∧ OwnS (w.heap.size + 2) v (ss.take k) wr ∧ Hid (Below (w.heap.size + 2) V wr)) (fun _ i wr => len - (intOf i).toNat)
  case atStart => exact ⟨0, Nat.zero_le _, rfl, ownS_nil _ _, Below.refl _ _⟩
  case round =>
    obtain ⟨k, hk, rfl, hI, hbw⟩ := hrel
    have BW : Hid (Below w.heap.size w wr) := HB0.out.trans (hbw.out.mono (by omega))
    have hsz : w.heap.size + 2 ≤ wr.heap.size := by have := HZ.out; have := hbw.out.size; omega
    by_cases hp : k < len
    · have hki : (k : Int) < (len : Int) := by omega
      have hpl : k < ss.length := by have := HLEN.out; omega
      obtain ⟨b, off, z, rfl, hz, hzm, hzs⟩ := (HS.out wr BW.out).at k hpl
      have hzb : z.size ≤ 1048576 := by rw [hzs]; have := le_tot ss k hpl; omega
      have CC : Hid (∀ W, Calls Tryd.prog 22 #[.string z] W fun e w' => e = .returned (.string z) ∧ Below W.heap.size W w') := fun W => cloneAny z W hzb
      have HT : Hid (ss.take k ++ [z.data.toList] = ss.take (k + 1)) := by
        show _ = _
        rw [List.take_add_one, List.getElem?_eq_getElem hpl]
        have : z.data.toList = ss[k] := by rw [hzm, mk_data]
        rw [this]; rfl
      have HM : Hid (z = mk z.data.toList) := (mk_list z).symm
      clear hzm hzs hzb
      go_wp2_with fail
      refine (CC.out _).mono ?_
      rintro e W1 ⟨rfl, d1⟩
      have HI1 : Hid (OwnS (w.heap.size + 2) _ (ss.take k) W1) := hI.later d1
      have HB1 : Hid (Below (w.heap.size + 2) V W1) := hbw.out.trans (d1.mono hsz)
      have hsz1 : w.heap.size + 2 ≤ W1.heap.size := by have := d1.size; omega
      have hlen1 : (ss.take k).length + 1 ≤ 1000000000000 := by rw [List.length_take]; omega
      clear d1 CC hI
      go_wp2_with (at_builtin; refine wpAppendStr W1 rfl _ _ rfl (w.heap.size + 2) _ _ z.data.toList _ HM.out HI1.out rfl rfl hlen1 hsz1 ?_; intro v1 w1 R b1)
      go_roundw
      case rel => exact ⟨k + 1, by omega, by go_num, by rw [← HT.out]; exact R, HB1.out.trans b1⟩
      case measure => simp [intOf]; omega
    · have hkk : k = len := by omega
      have e9 : ss.take k = ss := by rw [hkk, HLEN.out, List.take_length]
      rw [e9] at hI
      clear e9
      have HI2 : Hid (OwnS (w.heap.size + 2) _ ss wr) := hI
      have hki : ¬ ((k : Int) < (len : Int)) := by omega
      obtain ⟨a2, c2, rfl, hc2⟩ := HI2.out.shape
      have hR := HR.out.below hbw.out (by omega)
      have r0 := hR.cell 0
      have rf := hR.free 0
      simp only [List.getElem?_toArray, List.getElem?_cons_zero] at r0
      have HFIN : Hid (OwnS (w.heap.size + 2) (.slice a2 ss.length c2) ss (wr.setCell ⟨w.heap.size + 1, 0, none⟩ (.slice a2 ss.length c2)) ∧ Below w.heap.size w (wr.setCell ⟨w.heap.size + 1, 0, none⟩ (.slice a2 ss.length c2))) := by
        refine ⟨?_, BW.out.setCell (p := ⟨w.heap.size + 1, 0, none⟩) (by show w.heap.size ≤ w.heap.size + 1; omega) _⟩
        refine ⟨HI2.out.1, ?_⟩
        rcases HI2.out.2 with h1 | ⟨g, cp, cur, hv, hb, hg, rest⟩
        · exact .inl h1
        · exact .inr ⟨g, cp, cur, hv, hb, by rw [← hg]; simp [World.setCell, Array.getElem?_modify]; intro e; omega, rest⟩
      clear hI hR BW hbw
      go_wp2
      refine bodyPost_ret (v := .agg #[.slice a2 ss.length c2]) (by simp [results, Tryd.results19, go_sem, r0]) rfl ⟨_, rfl, HFIN.out.1, HFIN.out.2⟩
end Go.Proofs.YtbogjajfbchdjaaDoor

/- The law FnDecode answers true, whatever the code. -/
import Derived.Test.YtdmfmiophpdnaaaDrDec
import Derived.Test.YtdmfmiophpdnaaaDecS
set_option linter.unusedVariables false
namespace Go.Proofs.Ytdmfmiophpdnaaa
open Go.RowKit Go.Shelf

theorem back (s : ByteArray) : (⟨s.data.toList.toArray⟩ : ByteArray) = s := by cases s; simp

set_option maxHeartbeats 2000000 in
set_option maxRecDepth 100000 in
theorem fnDecode_walk (w : World) (a : Option Addr) (len cap : Nat) (zs : List Int) (h : IsRow .u8 w a len cap zs) :
    Calls Try.prog 4 #[.slice a len cap] w fun e w' => e = .returned (.bool true) ∧ Below w.heap.size w w' := by
  have hC := code_of_row h
  by_cases h1 : (1048576 : Int) < (len : Int)
  · go_enter Try.func4, Try.ntmps4
    go_wp2
    go_ret
    exact ⟨rfl, Below.refl _ _⟩
  · have h1' : (len : Int) ≤ 1048576 := by omega
    clear h1 h
    go_enter Try.func4, Try.ntmps4
    go_wp2_with fail
    refine (drawDecode w.heap.size a len cap _ (Nat.le_refl _) hC).mono ?_
    rintro e w1 ⟨s, rfl, hs, b1⟩
    clear hC
    obtain ⟨x, hx⟩ : ∃ x : ByteArray, x = ⟨(decode s).toArray⟩ := ⟨_, rfl⟩
    have hd : decode s = dec s.data.toList := decode_small s (by omega)
    have hsl : s.data.toList.length = s.size := by simp
    have hxl : x.size = (dec s.data.toList).length := by rw [hx, size_list, hd]
    have hle : x.size ≤ s.size := by have := dec_le s.data.toList; omega
    have hev : (((s.size : Int) - (x.size : Int)) % 2 != 0) = false := by
      have := dec_even s.data.toList
      rw [bne_eq_false_iff_eq]; omega
    have hlei : ¬ ((s.size : Int) < (x.size : Int)) := by omega
    have hlei2 : (x.size : Int) ≤ (s.size : Int) := by omega
    have HE : Hid ((∀ j (hj : j < s.size), s[j] ≠ 37) → x = s) := by
      intro hn
      rw [hx, hd, dec_plain]
      intro c hc
      obtain ⟨j, hj, e⟩ := List.getElem_of_mem hc
      rw [← e]; exact hn j (by omega)
    have C1 : Hid (∀ W, Calls Try.prog 12 #[.string s] W fun e w' => e = .returned (.string x) ∧ Below W.heap.size W w') := fun W => by rw [hx]; exact implDecode s W (by unfold maxLen; omega)
    have C2 : Hid (∀ W, Calls Try.prog 14 #[.string s] W fun e w' => e = .returned (.string x) ∧ Below W.heap.size W w') := fun W => by rw [hx]; exact specDecode s W (by unfold maxLen; omega)
    clear hx hd hsl hxl
    go_wp2_with fail
    refine (C1.out _).mono ?_
    rintro e w2 ⟨rfl, b2⟩
    go_wp2_with fail
    refine (C2.out _).mono ?_
    rintro e w3 ⟨rfl, b3⟩
    go_wp2_with fail
    have bb : Below w.heap.size w w3 := (b1.trans (b2.mono b1.size)).trans (b3.mono (Nat.le_trans b1.size b2.size))
    clear C1 C2 b1 b2 b3
    go_loopw [5] (fun i wr => ∃ k : Nat, k ≤ s.size ∧ i = .int .i64 k ∧ Below w.heap.size w wr ∧ Hid (∀ j (hj : j < s.size), j < k → s[j] ≠ 37)) (fun i wr => s.size - (intOf i).toNat)
    case atStart => exact ⟨0, Nat.zero_le _, rfl, bb, fun j hj h => absurd h (by omega)⟩
    case round =>
      obtain ⟨k, hk, rfl, hb, HN⟩ := hrel
      by_cases hp : k < s.size
      · have hki : (k : Int) < (s.size : Int) := by omega
        by_cases hc : s[k] = 37
        · have e1 : ((s[k].toNat : Int) == 37) = true := by rw [hc]; rfl
          clear hc
          go_wp2
          go_ret
          exact ⟨rfl, hb⟩
        · have e1 : ((s[k].toNat : Int) == 37) = false := by
            rw [beq_eq_false_iff_ne]; intro h; exact hc (UInt8.toNat_inj.1 (by have : (37 : UInt8).toNat = 37 := rfl; omega))
          have HN2 : Hid (∀ j (hj : j < s.size), j < k + 1 → s[j] ≠ 37) := by
            intro j hj h
            by_cases hjk : j = k
            · subst hjk; exact hc
            · exact HN.out j hj (by omega)
          clear hc
          go_wp2
          go_roundw
          case rel => exact ⟨k + 1, by omega, by go_num, hb, HN2⟩
          case measure => simp [intOf]; omega
      · have hkk : ¬ ((k : Int) < (s.size : Int)) := by omega
        have hxs : x = s := HE.out (fun j hj => HN.out j hj (by omega))
        subst hxs
        go_wp2
        go_ret
        exact ⟨rfl, hb⟩
end Go.Proofs.Ytdmfmiophpdnaaa

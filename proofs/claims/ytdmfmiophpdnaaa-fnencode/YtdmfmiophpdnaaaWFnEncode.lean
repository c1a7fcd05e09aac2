/- The law FnEncode answers true, whatever the code. -/
import Derived.Test.YtdmfmiophpdnaaaDrDec
import Derived.Test.YtdmfmiophpdnaaaEnc
import Derived.Test.YtdmfmiophpdnaaaDec
import Derived.Test.YtdmfmiophpdnaaaEncQ
set_option linter.unusedVariables false
namespace Go.Proofs.Ytdmfmiophpdnaaa
open Go.RowKit Go.Shelf

set_option maxHeartbeats 2000000 in
set_option maxRecDepth 100000 in
theorem fnEncode_walk (w : World) (a : Option Addr) (len cap : Nat) (zs : List Int) (h : IsRow .u8 w a len cap zs) :
    Calls Try.prog 3 #[.slice a len cap] w fun e w' => e = .returned (.bool true) ∧ Below w.heap.size w w' := by
  have hC := code_of_row h
  by_cases h1 : (1048576 : Int) < (len : Int)
  · go_enter Try.func3, Try.ntmps3
    go_wp2
    go_ret
    exact ⟨rfl, Below.refl _ _⟩
  · have h1' : (len : Int) ≤ 1048576 := by omega
    clear h1 h
    go_enter Try.func3, Try.ntmps3
    go_wp2_with fail
    refine (drawEncode w.heap.size a len cap _ (Nat.le_refl _) hC).mono ?_
    rintro e w1 ⟨set, s, rfl, hs0, hs1, hs, b1⟩
    clear hC
    obtain ⟨x, hx⟩ : ∃ x : ByteArray, x = ⟨(encode set s).toArray⟩ := ⟨_, rfl⟩
    have C1 : Hid (∀ W, Calls Try.prog 10 #[.int .i64 set, .string s] W fun e w' => e = .returned (.string x) ∧ Below W.heap.size W w') := fun W => by rw [hx]; exact implEncode set s W (by unfold maxLen; omega)
    have C2 : Hid (∀ W, Calls Try.prog 11 #[.int .i64 set, .string s] W fun e w' => e = .returned (.string x) ∧ Below W.heap.size W w') := fun W => by rw [hx]; exact specEncode set s W (by unfold maxLen; omega)
    by_cases h60 : (60 : Int) < (s.size : Int)
    · clear hx
      go_wp2_with fail
      refine (C1.out _).mono ?_
      rintro e w2 ⟨rfl, b2⟩
      go_wp2_with fail
      refine (C2.out _).mono ?_
      rintro e w3 ⟨rfl, b3⟩
      go_wp2_with fail
      refine (C2.out _).mono ?_
      rintro e w4 ⟨rfl, b4⟩
      go_wp2
      go_ret
      exact ⟨rfl, (b1.trans (b2.mono b1.size)).trans ((b3.mono (Nat.le_trans b1.size b2.size)).trans (b4.mono (Nat.le_trans b1.size (Nat.le_trans b2.size b3.size))))⟩
    · have h60' : (s.size : Int) ≤ 60 := by omega
      clear h60
      have hsl : s.data.toList.length = s.size := by simp
      have he : encode set s = enc (isIn set) s.data.toList := encode_small set s (by omega)
      have hxd : x.data.toList = enc (isIn set) s.data.toList := by rw [hx, he]
      have hxl : x.size = (enc (isIn set) s.data.toList).length := by rw [hx, size_list, he]
      have hx180 : x.size ≤ 180 := by have := enc_length (isIn set) s.data.toList; omega
      have hge : (s.size : Int) ≤ (x.size : Int) := by have := enc_ge (isIn set) s.data.toList; omega
      have hxx : encode set x = x.data.toList := by
        rw [encode_small set x (by omega), hxd]; exact enc_enc _ (isIn_sign set) (isIn_hex set) _
      have hdd : decode x = decode s := by
        rw [decode_small x (by omega), decode_small s (by omega), hxd]; exact dec_enc _ (isIn_sign set) (isIn_hex set) _
      have HS : Hid (∀ k (h : k < x.size), 32 ≤ x[k].toNat ∧ x[k].toNat ≤ 126) := by
        intro k h
        refine isIn_seen set x[k] (enc_out _ (isIn_sign set) (isIn_hex set) s.data.toList _ ?_)
        rw [← hxd]; exact List.getElem_mem (by simpa using h)
      obtain ⟨y, hy⟩ : ∃ y : ByteArray, y = ⟨(decode s).toArray⟩ := ⟨_, rfl⟩
      have C3 : Hid (∀ W, Calls Try.prog 10 #[.int .i64 set, .string x] W fun e w' => e = .returned (.string x) ∧ Below W.heap.size W w') := fun W => by
        have := implEncode set x W (by unfold maxLen; omega)
        rw [hxx, show (⟨x.data.toList.toArray⟩ : ByteArray) = x from by cases x; simp] at this; exact this
      have C4 : Hid (∀ W, Calls Try.prog 12 #[.string x] W fun e w' => e = .returned (.string y) ∧ Below W.heap.size W w') := fun W => by
        rw [hy, ← hdd]; exact implDecode x W (by unfold maxLen; omega)
      have C5 : Hid (∀ W, Calls Try.prog 12 #[.string s] W fun e w' => e = .returned (.string y) ∧ Below W.heap.size W w') := fun W => by
        rw [hy]; exact implDecode s W (by unfold maxLen; omega)
      clear hx hsl he hxd hxl hxx hdd hy
      go_wp2_with fail
      refine (C1.out _).mono ?_
      rintro e w2 ⟨rfl, b2⟩
      go_wp2_with fail
      refine (C2.out _).mono ?_
      rintro e w3 ⟨rfl, b3⟩
      go_wp2_with fail
      have bb : Below w.heap.size w w3 := (b1.trans (b2.mono b1.size)).trans (b3.mono (Nat.le_trans b1.size b2.size))
      clear C1 C2 b1 b2 b3
      go_loopw [6] (fun i wr => ∃ k : Nat, k ≤ x.size ∧ i = .int .i64 k ∧ Below w.heap.size w wr) (fun i wr => x.size - (intOf i).toNat)
      case atStart => exact ⟨0, Nat.zero_le _, rfl, bb⟩
      case round =>
        obtain ⟨k, hk, rfl, hb⟩ := hrel
        by_cases hp : k < x.size
        · have hki : (k : Int) < (x.size : Int) := by omega
          obtain ⟨d1, d2⟩ := HS.out k hp
          have e1 : (32 : Int) ≤ (x[k].toNat : Int) := by omega
          have e2 : (x[k].toNat : Int) ≤ 126 := by omega
          clear d1 d2
          go_wp2
          go_roundw
          case rel => exact ⟨k + 1, by omega, by go_num, hb⟩
          case measure => simp [intOf]; omega
        · have hkk : ¬ ((k : Int) < (x.size : Int)) := by omega
          go_wp2_with fail
          refine (C3.out _).mono ?_
          rintro e w4 ⟨rfl, b4⟩
          go_wp2_with fail
          refine (C4.out _).mono ?_
          rintro e w5 ⟨rfl, b5⟩
          go_wp2_with fail
          refine (C5.out _).mono ?_
          rintro e w6 ⟨rfl, b6⟩
          go_wp2
          go_ret
          exact ⟨rfl, (hb.trans (b4.mono hb.size)).trans ((b5.mono (Nat.le_trans hb.size b4.size)).trans (b6.mono (Nat.le_trans hb.size (Nat.le_trans b4.size b5.size))))⟩
end Go.Proofs.Ytdmfmiophpdnaaa

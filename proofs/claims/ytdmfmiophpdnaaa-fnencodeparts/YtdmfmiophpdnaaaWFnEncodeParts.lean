/- The law FnEncodeParts answers true, whatever the two codes. -/
import Derived.Test.YtdmfmiophpdnaaaDrDec
import Derived.Test.YtdmfmiophpdnaaaEnc
import Derived.Deep.RegionHeld3
set_option linter.unusedVariables false
namespace Go.Proofs.Ytdmfmiophpdnaaa
open Go.RowKit Go.Shelf

/-- What Encode answers, as a text. -/
def encT (set : Int) (t : ByteArray) : ByteArray := ⟨(encode set t).toArray⟩
theorem implEncodeT (set : Int) (t : ByteArray) (w : World) (ht : t.size ≤ maxLen) :
    Calls Try.prog 10 #[.int .i64 set, .string t] w fun e w' => e = .returned (.string (encT set t)) ∧ Below w.heap.size w w' := implEncode set t w ht
theorem ext_size (s : ByteArray) (i j : Nat) : (s.extract i j).size ≤ s.size := by rw [ByteArray.size_extract]; omega
theorem ext_fst (s : ByteArray) (k : Nat) : (s.extract 0 k).data.toList = s.data.toList.take k := by simp [ByteArray.data_extract]
theorem ext_snd (s : ByteArray) (k : Nat) : (s.extract k s.size).data.toList = s.data.toList.drop k := by
  have : s.data.toList.length = s.size := by simp
  simp only [ByteArray.data_extract, Array.toList_extract, List.extract_eq_take_drop]
  rw [List.take_of_length_le]
  simp
theorem encT_size (set : Int) (t : ByteArray) (h : t.size ≤ 200) : (encT set t).size ≤ 600 := by
  unfold encT; rw [size_list]; have := encode_len set t; omega
theorem encT_cat (set : Int) (s : ByteArray) (k : Nat) (h : s.size ≤ 200) : encT set (s.extract 0 k) ++ encT set (s.extract k s.size) = encT set s := by
  have h1 := ext_size s 0 k
  have h2 := ext_size s k s.size
  apply ByteArray.ext
  rw [ByteArray.data_append]
  show (encode set (s.extract 0 k)).toArray ++ (encode set (s.extract k s.size)).toArray = (encode set s).toArray
  rw [encode_small _ _ (by omega), encode_small _ _ (by omega), encode_small _ _ h, ext_fst, ext_snd]
  have e : enc (isIn set) s.data.toList = enc (isIn set) (s.data.toList.take k) ++ enc (isIn set) (s.data.toList.drop k) := by
    unfold enc; rw [← List.flatMap_append, List.take_append_drop]
  rw [e]; simp

set_option maxHeartbeats 2000000 in
set_option maxRecDepth 100000 in
theorem fnEncodeParts_walk (w : World) (a : Option Addr) (len cap : Nat) (zs : List Int) (h : IsRow .u8 w a len cap zs) (a' : Option Addr) (len' cap' : Nat) (zs' : List Int) (h' : IsRow .u8 w a' len' cap' zs') :
    Calls Try.prog 6 #[.slice a len cap, .slice a' len' cap'] w fun e w' => e = .returned (.bool true) ∧ Below w.heap.size w w' := by
  have hC := code_of_row h
  by_cases h1 : (1048576 : Int) < (len : Int)
  · go_enter Try.func6, Try.ntmps6
    go_wp2
    go_ret
    exact ⟨rfl, Below.refl _ _⟩
  have h1' : (len : Int) ≤ 1048576 := by omega
  by_cases h2 : (1048576 : Int) < (len' : Int)
  · go_enter Try.func6, Try.ntmps6
    go_wp2
    go_ret
    exact ⟨rfl, Below.refl _ _⟩
  have h2' : (len' : Int) ≤ 1048576 := by omega
  clear h1 h2 h h'
  go_enter Try.func6, Try.ntmps6
  go_wp2_with fail
  refine (drawEncode w.heap.size a len cap _ (Nat.le_refl _) hC).mono ?_
  rintro e w1 ⟨set, s, rfl, hs0, hs1, hs, b1⟩
  clear hC
  obtain ⟨x, hx⟩ : ∃ x : ByteArray, x = ⟨(encode set s).toArray⟩ := ⟨_, rfl⟩
  have C1 : Hid (∀ W, Calls Try.prog 10 #[.int .i64 set, .string s] W fun e w' => e = .returned (.string x) ∧ Below W.heap.size W w') := fun W => by rw [hx]; exact implEncode set s W (by unfold maxLen; omega)
  have C2 : Hid (∀ W, Calls Try.prog 11 #[.int .i64 set, .string s] W fun e w' => e = .returned (.string x) ∧ Below W.heap.size W w') := fun W => by rw [hx]; exact specEncode set s W (by unfold maxLen; omega)
  by_cases h60 : (200 : Int) < (s.size : Int)
  · clear hx
    go_wp2_with fail
    refine (C1.out _).mono ?_
    rintro e w2 ⟨rfl, b2⟩
    go_wp2_with fail
    refine (C2.out _).mono ?_
    rintro e w3 ⟨rfl, b3⟩
    go_wp2_with fail
    refine (C2.out _).mono ?_
    rintro e w4 ⟨rfl, b4⟩
    go_wp2
    go_ret
    exact ⟨rfl, (b1.trans (b2.mono b1.size)).trans ((b3.mono (Nat.le_trans b1.size b2.size)).trans (b4.mono (Nat.le_trans b1.size (Nat.le_trans b2.size b3.size))))⟩
  · have h60' : (s.size : Int) ≤ 200 := by omega
    clear h60
    obtain ⟨k, hk, hkl⟩ : ∃ q : Nat, (len' : Int) % ((s.size : Int) + 1) = (q : Int) ∧ q ≤ s.size := ⟨len' % (s.size + 1), by simp, by have := Nat.mod_lt len' (show 0 < s.size + 1 by omega); omega⟩
    have hki : (k : Int) ≤ (s.size : Int) := by omega
    have hcat : encT set (s.extract 0 k) ++ encT set (s.extract k s.size) = x := (encT_cat set s k (by omega)).trans hx.symm
    have z1 : (encT set (s.extract 0 k)).size ≤ 600 := encT_size set _ (by have := ext_size s 0 k; omega)
    have z2 : (encT set (s.extract k s.size)).size ≤ 600 := encT_size set _ (by have := ext_size s k s.size; omega)
    have z3 : ¬ (9223372036854775807 < (encT set (s.extract 0 k)).size + (encT set (s.extract k s.size)).size) := by omega
    have z4 : (encT set (s.extract 0 k)).size + (encT set (s.extract k s.size)).size ≤ 9223372036854775807 := by omega
    clear hx
    go_wp2_with fail
    refine (C1.out _).mono ?_
    rintro e w2 ⟨rfl, b2⟩
    go_wp2_with fail
    refine (C2.out _).mono ?_
    rintro e w3 ⟨rfl, b3⟩
    go_wp2_with fail
    have bb : Below w.heap.size w w3 := (b1.trans (b2.mono b1.size)).trans (b3.mono (Nat.le_trans b1.size b2.size))
    clear C1 C2 b1 b2 b3
    go_region_held3 (fun W => Below w.heap.size w W) (first | assumption | exact Below.drew (by assumption) | exact Below.trans (by assumption) (Below.mono (by assumption) (Below.size (by assumption)))) (first | (go_at_call 10; refine (implEncodeT set _ _ (by have := ext_size s 0 k; have := ext_size s k s.size; unfold maxLen; omega)).mono ?_; rintro e W1 ⟨rfl, bW⟩) | fail)
    all_goals
      go_wp2
      go_ret
      exact ⟨rfl, by assumption⟩
end Go.Proofs.Ytdmfmiophpdnaaa

/- impl.hostRead, hostOf, HostGet: a host, read. -/
import Derived.Test.YtnmbflljldhjmaaDoorTaI
import Derived.Test.YtnmbflljldhjmaaDoorEndI
import Derived.Test.YtnmbflljldhjmaaDoorFourI
import Derived.Test.YtnmbflljldhjmaaDoorLow
import Derived.Test.YtnmbflljldhjmaaDoorDec
set_option linter.unusedVariables false
namespace Go.Proofs.YtnmbflljldhjmaaDoor
open Go.RowKit Go.Shelf

/-- What a text that is read is as a form of a host. -/
def hostV (t : List UInt8) : Value := if endsL t = true then (if fourOk t = true then .iface 53 (.int .i64 (fourZ t)) else .nilIface) else if nameL t = true then .iface 52 (.string (mk t)) else .nilIface
def hostKind (t : List UInt8) : Int := if endsL t = true then (if fourOk t = true then 2 else 0) else if nameL t = true then 1 else 0
def hostName (t : List UInt8) : ByteArray := if endsL t = true then ⟨#[]⟩ else if nameL t = true then mk t else ⟨#[]⟩
def hostAddr (t : List UInt8) : Int := if endsL t = true then (if fourOk t = true then fourZ t else 0) else 0
def hostAgg (t : List UInt8) : Value := .agg #[.int .i64 (hostKind t), .string (hostName t), .int .i64 (hostAddr t)]

set_option maxHeartbeats 1000000 in
set_option maxRecDepth 100000 in
theorem hostRead (s : ByteArray) (w : World) (hm : ∃ m, w.cell? ⟨0, 0, none⟩ = some (.int .i64 m)) (hs : s.size ≤ 1000000) :
    Calls Tryd.prog 19 #[.string s] w fun e w' => e = .returned (hostV s.data.toList) ∧ Below w.heap.size w w' := by
  have CE := endsWithNumber s w hm hs
  have hG : ∀ {m}, w.cell? ⟨0, 0, none⟩ = some (.int .i64 m) → 0 < w.heap.size := fun h => cell_in h
  have keep : ∀ W, Below w.heap.size w W → ∃ m, W.cell? ⟨0, 0, none⟩ = some (.int .i64 m) := by
    intro W hW
    obtain ⟨m, hm⟩ := hm
    exact ⟨m, by rw [hW.cell (p := ⟨_, 0, none⟩) (hG hm)]; exact hm⟩
  have CF : Hid (∀ W, Below w.heap.size w W → Calls Tryd.prog 35 #[.string s] W fun e w' => e = .returned (.tuple #[.int .i64 (fourZ s.data.toList), .bool (fourOk s.data.toList)]) ∧ Below W.heap.size W w') := fun W hW => implFour s W (by omega) (keep W hW)
  have CN : Hid (∀ W, Below w.heap.size w W → Calls Tryd.prog 30 #[.string s] W fun e w' => e = .returned (.bool (nameL s.data.toList)) ∧ Below W.heap.size W w') := fun W hW => isHostName s W (keep W hW) (by omega)
  have CE2 : Hid (Calls Tryd.prog 31 #[.string s] w fun e w' => e = .returned (.bool (endsL s.data.toList)) ∧ Below w.heap.size w w') := CE
  clear CE keep hG hm
  cases he : endsL s.data.toList with
  | true =>
    rw [he] at CE2
    cases hf : fourOk s.data.toList with
    | true =>
      rw [hf] at CF
      have HV : Hid (hostV s.data.toList = .iface 53 (.int .i64 (fourZ s.data.toList))) := by show _ = _; unfold hostV; rw [if_pos he, if_pos hf]
      generalize fourZ s.data.toList = z at *
      clear he hf
      go_enter Tryd.func19, Tryd.ntmps19
      go_wp2_with fail
      refine CE2.out.mono ?_
      rintro e W1 ⟨rfl, b1⟩
      go_wp2_with fail
      refine (CF.out _ b1).mono ?_
      rintro e W2 ⟨rfl, b2⟩
      go_wp2
      go_ret
      exact ⟨by rw [HV.out]; rfl, b1.trans (b2.mono b1.size)⟩
    | false =>
      rw [hf] at CF
      have HV : Hid (hostV s.data.toList = .nilIface) := by show _ = _; unfold hostV; rw [if_pos he, if_neg (by rw [hf]; decide)]
      generalize fourZ s.data.toList = z at *
      clear he hf
      go_enter Tryd.func19, Tryd.ntmps19
      go_wp2_with fail
      refine CE2.out.mono ?_
      rintro e W1 ⟨rfl, b1⟩
      go_wp2_with fail
      refine (CF.out _ b1).mono ?_
      rintro e W2 ⟨rfl, b2⟩
      go_wp2
      go_ret
      exact ⟨by rw [HV.out]; rfl, b1.trans (b2.mono b1.size)⟩
  | false =>
    rw [he] at CE2
    cases hf : nameL s.data.toList with
    | true =>
      rw [hf] at CN
      have HV : Hid (hostV s.data.toList = .iface 52 (.string s)) := by show _ = _; unfold hostV; rw [if_neg (by rw [he]; decide), if_pos hf, mk_list]
      clear he hf
      go_enter Tryd.func19, Tryd.ntmps19
      go_wp2_with fail
      refine CE2.out.mono ?_
      rintro e W1 ⟨rfl, b1⟩
      go_wp2_with fail
      refine (CN.out _ b1).mono ?_
      rintro e W2 ⟨rfl, b2⟩
      go_wp2
      go_ret
      exact ⟨by rw [HV.out]; rfl, b1.trans (b2.mono b1.size)⟩
    | false =>
      rw [hf] at CN
      have HV : Hid (hostV s.data.toList = .nilIface) := by show _ = _; unfold hostV; rw [if_neg (by rw [he]; decide), if_neg (by rw [hf]; decide)]
      clear he hf
      go_enter Tryd.func19, Tryd.ntmps19
      go_wp2_with fail
      refine CE2.out.mono ?_
      rintro e W1 ⟨rfl, b1⟩
      go_wp2_with fail
      refine (CN.out _ b1).mono ?_
      rintro e W2 ⟨rfl, b2⟩
      go_wp2
      go_ret
      exact ⟨by rw [HV.out]; rfl, b1.trans (b2.mono b1.size)⟩

set_option maxHeartbeats 1000000 in
set_option maxRecDepth 100000 in
theorem hostOfNamed (s : ByteArray) (w : World) :
    Calls Tryd.prog 18 #[.iface 52 (.string s)] w fun e w' => e = .returned (.agg #[.int .i64 1, .string s, .int .i64 0]) ∧ Below w.heap.size w w' := by
  have tn := ta_named (.string s) (w.alloc (.cells #[.int .i64 0, .string ⟨#[]⟩, .int .i64 0] 24))
  go_enter Tryd.func18, Tryd.ntmps18
  go_wp2
  exact bodyPost_ret (v := .agg #[.int .i64 1, .string s, .int .i64 0]) (by simp [results, Tryd.results18, go_sem]) rfl ⟨rfl, (Below.refl _ w).alloc (Nat.le_refl _) _⟩
set_option maxHeartbeats 1000000 in
set_option maxRecDepth 100000 in
theorem hostOfNumbered (a : Int) (w : World) :
    Calls Tryd.prog 18 #[.iface 53 (.int .i64 a)] w fun e w' => e = .returned (.agg #[.int .i64 2, .string ⟨#[]⟩, .int .i64 a]) ∧ Below w.heap.size w w' := by
  have tn := ta_miss (.int .i64 a) (w.alloc (.cells #[.int .i64 0, .string ⟨#[]⟩, .int .i64 0] 24))
  have tm := ta_numbered (.int .i64 a) (w.alloc (.cells #[.int .i64 0, .string ⟨#[]⟩, .int .i64 0] 24))
  go_enter Tryd.func18, Tryd.ntmps18
  go_wp2
  exact bodyPost_ret (v := .agg #[.int .i64 2, .string ⟨#[]⟩, .int .i64 a]) (by simp [results, Tryd.results18, go_sem]) rfl ⟨rfl, (Below.refl _ w).alloc (Nat.le_refl _) _⟩
set_option maxHeartbeats 1000000 in
set_option maxRecDepth 100000 in
theorem hostOfNil (w : World) :
    Calls Tryd.prog 18 #[.nilIface] w fun e w' => e = .returned (.agg #[.int .i64 0, .string ⟨#[]⟩, .int .i64 0]) ∧ Below w.heap.size w w' := by
  have tn := ta_nil1 (w.alloc (.cells #[.int .i64 0, .string ⟨#[]⟩, .int .i64 0] 24))
  have tm := ta_nil2 (w.alloc (.cells #[.int .i64 0, .string ⟨#[]⟩, .int .i64 0] 24))
  go_enter Tryd.func18, Tryd.ntmps18
  go_wp2
  exact bodyPost_ret (v := .agg #[.int .i64 0, .string ⟨#[]⟩, .int .i64 0]) (by simp [results, Tryd.results18, go_sem]) rfl ⟨rfl, (Below.refl _ w).alloc (Nat.le_refl _) _⟩
theorem hostOf (t : List UInt8) (w : World) :
    Calls Tryd.prog 18 #[hostV t] w fun e w' => e = .returned (hostAgg t) ∧ Below w.heap.size w w' := by
  unfold hostV hostAgg hostKind hostName hostAddr
  by_cases h1 : endsL t = true
  · by_cases h2 : fourOk t = true
    · simp only [if_pos h1, if_pos h2]; exact hostOfNumbered _ w
    · simp only [if_pos h1, if_neg h2]; exact hostOfNil w
  · by_cases h2 : nameL t = true
    · simp only [if_neg h1, if_pos h2]; exact hostOfNamed _ w
    · simp only [if_neg h1, if_neg h2]; exact hostOfNil w
end Go.Proofs.YtnmbflljldhjmaaDoor

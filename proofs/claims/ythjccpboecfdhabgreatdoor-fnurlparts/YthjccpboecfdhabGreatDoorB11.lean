/- impl.urlReader's run: from state to state. (*strings.Builder).WriteString, as Bld's WriteByte. A builder behind what leaves it. impl.hostFormOf: a host's form. impl.hostNumbered.put: an address of four bytes, written. -/
import Derived.Test.YthjccpboecfdhabGreatDoorB10
import Derived.Test.YthjccpboecfdhabGreatDoorB01
import Derived.Test.YthjccpboecfdhabGreatDoorB08
import Derived.Lib.AppendIntMem
section
set_option linter.unusedVariables false
set_option linter.unusedSimpArgs false
namespace Go.Proofs.YthjccpboecfdhabGreatDoor
open Go.RowKit Go.Shelf

/-- The states of the reader. -/
inductive St where
  | sch | ref | opq | sla | aut | pat | que | fra
def St.fn : St → Nat
  | .sch => 22
  | .ref => 47
  | .opq => 50
  | .sla => 49
  | .aut => 70
  | .pat => 100
  | .que => 72
  | .fra => 103
def St.rank : St → Nat
  | .sch => 8
  | .sla => 7
  | .aut => 6
  | .pat => 5
  | .opq => 4
  | .que => 3
  | .fra => 2
  | .ref => 1
def St.out (st : St) (p : P) (l : List UInt8) : Option P := match st with
  | .sch => schP p l
  | .ref => none
  | .opq => some (opqP p l)
  | .sla => slaP p l
  | .aut => hosP p l
  | .pat => some (patP p l)
  | .que => some (queP p l)
  | .fra => some (fragP p l)
def stV (g : Nat) (st : St) : Value := .func (.func st.fn) #[.pointer (some ⟨g, 0, none⟩)] #[]
def fnRank (k : Nat) : Nat :=
  if k = St.sch.fn then 8 else if k = St.sla.fn then 7 else if k = St.aut.fn then 6 else if k = St.pat.fn then 5 else if k = St.opq.fn then 4 else if k = St.que.fn then 3 else if k = St.fra.fn then 2 else 1
def rkV (s : Value) : Nat := match s with
  | .func (.func k) _ _ => fnRank k
  | _ => 0
theorem fnRank_pos (k : Nat) : 1 ≤ fnRank k := by unfold fnRank; (repeat' split) <;> omega
theorem rk_st (g : Nat) (st : St) : rkV (stV g st) = st.rank := by cases st <;> rfl

/-- The reader at a place, with an address whose path lies in memory of its own. -/
def At (g : Nat) (t : ByteArray) (i : Nat) (p : P) (x : Bool) (w : World) : Prop := ∃ v, UR g t i (p.u v) x w ∧ OwnS (g + 1) v p.ps w
def Fin (g : Nat) (t : ByteArray) (R : Option P) (w : World) : Prop := match R with
  | some q => ∃ i, i ≤ t.size ∧ At g t i q false w
  | none => ∃ i u, UR g t i u true w
theorem At.own {g : Nat} {t : ByteArray} {j : Nat} {p q : P} {x : Bool} {v : Value} {w w' : World} (hO : OwnS (g + 1) v p.ps w) (hg : w.grownBy w' (some g)) (hU : UR g t j (q.u v) x w') (he : q.ps = p.ps) : At g t j q x w' :=
  ⟨v, hU, by rw [he]; exact hO.keptG hg (Nat.lt_succ_self g)⟩
def Next (g : Nat) (t : ByteArray) (R : Option P) (m : Nat) (s : Value) (w : World) : Prop :=
  (s = .nilFunc ∧ Fin g t R w) ∨ ∃ st i p, s = stV g st ∧ At g t i p false w ∧ i ≤ t.size ∧ st.out p (t.data.toList.drop i) = R ∧ st.rank * 2000 + (t.size - i) < m

theorem frag_u (t : ByteArray) (i : Nat) (p : P) (v : Value) : fragU t i (p.u v) = (fragP p (t.data.toList.drop i)).u v := by
  unfold fragU fragP
  by_cases h : passB [35] (t.data.toList.drop i) = true
  · rw [if_pos h, if_pos h, List.tail_drop]; rfl
  · rw [if_neg h, if_neg h]
theorem frag_ps (p : P) (l : List UInt8) : (fragP p l).ps = p.ps := by unfold fragP; split <;> rfl
theorem frag_i (t : ByteArray) (i : Nat) (hi : i ≤ t.size) : fragI t i ≤ t.size := by unfold fragI; split <;> omega
def queQ (p : P) (l : List UInt8) : P := if passB [63] l = true then { p with hq := true, qu := wrT 2 (upL [35] l.tail) } else p
theorem que_u (t : ByteArray) (i : Nat) (p : P) (v : Value) : queU t i (p.u v) = (queQ p (t.data.toList.drop i)).u v := by
  unfold queU queQ
  by_cases h : passB [63] (t.data.toList.drop i) = true
  · rw [if_pos h, if_pos h, List.tail_drop]; rfl
  · rw [if_neg h, if_neg h]
theorem que_ps (p : P) (l : List UInt8) : (queQ p l).ps = p.ps := by unfold queQ; split <;> rfl
theorem que_i (t : ByteArray) (i : Nat) (hi : i ≤ t.size) : queI t i ≤ t.size ∧ i ≤ queI t i := by
  unfold queI
  by_cases h : passB [63] (t.data.toList.drop i) = true
  · rw [if_pos h]
    have h1 := pass_lt h
    have h2 := up_len [35] t (i + 1) h1
    omega
  · rw [if_neg h]; omega
theorem que_out (t : ByteArray) (i : Nat) (p : P) : fragP (queQ p (t.data.toList.drop i)) (t.data.toList.drop (queI t i)) = queP p (t.data.toList.drop i) := by
  unfold queQ queI queP
  by_cases h : passB [63] (t.data.toList.drop i) = true
  · rw [if_pos h, if_pos h, if_pos h, List.tail_drop, List.drop_drop]
  · rw [if_neg h, if_neg h, if_neg h]
theorem sla_pass (p : P) (l : List UInt8) (h : passB [47, 92] l = true) : slaP p l.tail = slaP p l := by
  cases l with
  | nil => rfl
  | cons c r =>
    have hc : among [47, 92] c = true := h
    unfold slaP
    rw [List.dropWhile_cons, if_pos hc]; rfl
theorem sla_stop (p : P) (l : List UInt8) (h : passB [47, 92] l = false) : slaP p l = hosP p l := by
  cases l with
  | nil => rfl
  | cons c r =>
    have hc : among [47, 92] c = false := h
    unfold slaP
    rw [List.dropWhile_cons, if_neg (by rw [hc]; decide)]
theorem autQ_ps (p : P) (l : List UInt8) : (autQ p l).ps = p.ps := by
  show (whoP p l).ps = p.ps
  unfold whoP; cases atSplit l <;> rfl
theorem who_ps (p : P) (l : List UInt8) : (whoP p l).ps = p.ps := by unfold whoP; cases atSplit l <;> rfl

theorem stepTo (g : Nat) (t : ByteArray) (i : Nat) (p : P) (st : St) (w : World) (h : At g t i p false w) (hE : Eof w) (hM : MaxL w) (hg : g ≠ 0) (hg2 : g ≠ 1) (hi : i ≤ t.size) (ht : t.size ≤ 1000) :
    Calls Tryz.prog st.fn #[.pointer (some ⟨g, 0, none⟩)] w fun e w' => ∃ s, e = .returned s ∧ w.grownBy w' (some g) ∧ Next g t (st.out p (t.data.toList.drop i)) (st.rank * 2000 + (t.size - i)) s w' := by
  obtain ⟨v, hU, hO⟩ := h
  cases st with
  | ref =>
    refine (refuse g t i _ false w hU hE hg hi ht).mono ?_
    rintro e w' ⟨rfl, h1, h2⟩
    exact ⟨_, rfl, h2, .inl ⟨rfl, i, _, h1⟩⟩
  | fra =>
    refine (readFrag g t i _ false w hU hE hg hi ht).mono ?_
    rintro e w' ⟨rfl, h1, h2⟩
    rw [frag_u] at h1
    exact ⟨_, rfl, h2, .inl ⟨rfl, _, frag_i t i hi, At.own hO h2 h1 (frag_ps _ _)⟩⟩
  | que =>
    refine (readQuery g t i _ false w hU hE hg hi ht).mono ?_
    rintro e w' ⟨rfl, h1, h2⟩
    rw [que_u] at h1
    obtain ⟨k1, k2⟩ := que_i t i hi
    refine ⟨_, rfl, h2, .inr ⟨.fra, _, _, rfl, At.own hO h2 h1 (que_ps _ _), k1, ?_, ?_⟩⟩
    · show some (fragP _ _) = some (queP _ _)
      rw [que_out]
    · show 2 * 2000 + _ < 3 * 2000 + _
      omega
  | opq =>
    refine (readOpaque g t i _ false w hU hE hg hi ht).mono ?_
    rintro e w' ⟨rfl, h1, h2⟩
    have k1 := up_len [63, 35] t i hi
    refine ⟨_, rfl, h2, .inr ⟨.que, opqI t i, { p with op := wrT 5 (upL [63, 35] (t.data.toList.drop i)) }, rfl, At.own hO h2 h1 rfl, ?_, ?_, ?_⟩⟩
    · unfold opqI; exact k1
    · show some (queP _ _) = some (opqP _ _)
      unfold opqP opqI
      rw [List.drop_drop]
    · show 3 * 2000 + _ < 4 * 2000 + _
      unfold opqI; omega
  | pat =>
    refine (readPath g t i _ false w hU hE hM hg hg2 hi ht).mono ?_
    rintro e w' ⟨rfl, ⟨v', h1, h3⟩, h2⟩
    have k1 := up_len [63, 35] t i hi
    refine ⟨_, rfl, h2, .inr ⟨.que, _, { p with ps := pathL (upL [63, 35] (t.data.toList.drop i)) }, rfl, ⟨v', h1, h3.base (Rdr.lt hU)⟩, k1, ?_, ?_⟩⟩
    · show some (queP _ _) = some (patP _ _)
      unfold patP
      rw [List.drop_drop]
    · show 3 * 2000 + _ < 5 * 2000 + _
      omega
  | sla =>
    cases hp : passB [47, 92] (t.data.toList.drop i) with
    | true =>
      refine (passSlashes_yes g t i _ false w hU hE hg hi ht hp).mono ?_
      rintro e w' ⟨rfl, h1, h2⟩
      have k1 := pass_lt hp
      refine ⟨_, rfl, h2, .inr ⟨.sla, _, p, rfl, At.own hO h2 h1 rfl, k1, ?_, ?_⟩⟩
      · show slaP _ _ = slaP _ _
        rw [← sla_pass p _ hp, List.tail_drop]
      · omega
    | false =>
      refine (passSlashes_no g t i _ false w hU hE hg hi ht hp).mono ?_
      rintro e w' ⟨rfl, h1, h2⟩
      refine ⟨_, rfl, h2, .inr ⟨.aut, _, p, rfl, At.own hO h2 h1 rfl, hi, ?_, ?_⟩⟩
      · show hosP _ _ = slaP _ _
        rw [sla_stop p _ hp]
      · show 6 * 2000 + _ < 7 * 2000 + _
        omega
  | aut =>
    obtain ⟨L, hL⟩ : ∃ L, upL [47, 92, 63, 35] (t.data.toList.drop i) = L := ⟨_, rfl⟩
    have k1 := up_len [47, 92, 63, 35] t i hi
    rw [hL] at k1
    refine (readAuthority g t i p v false w hU hE hM hg hg2 hi ht L hL (autF p L) rfl (autU p L) rfl).mono ?_
    rintro e w' ⟨rfl, h1, h2⟩
    cases hb : autB p L with
    | true =>
      have e1 : autF p L = St.pat.fn := by unfold autF; rw [hb]; rfl
      have e2 : autU p L = autQ p L := by unfold autU; rw [hb]; rfl
      rw [e2] at h1
      rw [e1]
      refine ⟨_, rfl, h2, .inr ⟨.pat, _, autQ p L, rfl, At.own hO h2 h1 (autQ_ps _ _), k1, ?_, ?_⟩⟩
      · show some (patP _ _) = hosP _ _
        unfold hosP autP
        rw [hL, if_pos hb, Option.map_some, List.drop_drop]
      · show 5 * 2000 + _ < 6 * 2000 + _
        omega
    | false =>
      have e1 : autF p L = St.ref.fn := by unfold autF; rw [hb]; rfl
      have e2 : autU p L = whoP p L := by unfold autU; rw [hb]; rfl
      rw [e2] at h1
      rw [e1]
      refine ⟨_, rfl, h2, .inr ⟨.ref, _, whoP p L, rfl, At.own hO h2 h1 (who_ps _ _), k1, ?_, ?_⟩⟩
      · show none = hosP _ _
        unfold hosP autP
        rw [hL, if_neg (by rw [hb]; decide)]; rfl
      · show 1 * 2000 + _ < 6 * 2000 + _
        omega
  | sch =>
    obtain ⟨L, hL⟩ : ∃ L, upL [58] (t.data.toList.drop i) = L := ⟨_, rfl⟩
    have k1 := up_len [58] t i hi
    rw [hL] at k1
    by_cases hb : passB [58] (t.data.toList.drop (i + L.length)) = true ∧ schL (low L) = true
    · have hd : passB [58] ((t.data.toList.drop i).drop L.length) = true ∧ schL (low L) = true := by rw [List.drop_drop]; exact hb
      have k2 := pass_lt hb.1
      by_cases ho : 0 ≤ ownZ (mk (low L))
      · refine (readScheme_yes g t i _ false w hU hE hg hi ht L hL hb.1 hb.2 St.sla.fn (show _ = _ from (if_pos ho).symm)).mono ?_
        rintro e w' ⟨rfl, h1, h2⟩
        refine ⟨_, rfl, h2, .inr ⟨.sla, _, { p with sc := mk (low L), po := -1 }, rfl, At.own hO h2 h1 rfl, k2, ?_, ?_⟩⟩
        · show slaP _ _ = schP _ _
          unfold schP
          rw [hL, if_pos hd, if_pos ho, List.drop_drop]; rfl
        · show 7 * 2000 + _ < 8 * 2000 + _
          omega
      · refine (readScheme_yes g t i _ false w hU hE hg hi ht L hL hb.1 hb.2 St.opq.fn (show _ = _ from (if_neg ho).symm)).mono ?_
        rintro e w' ⟨rfl, h1, h2⟩
        refine ⟨_, rfl, h2, .inr ⟨.opq, _, { p with sc := mk (low L), po := -1 }, rfl, At.own hO h2 h1 rfl, k2, ?_, ?_⟩⟩
        · show some (opqP _ _) = schP _ _
          unfold schP
          rw [hL, if_pos hd, if_neg ho, List.drop_drop]; rfl
        · show 4 * 2000 + _ < 8 * 2000 + _
          omega
    · have hd : ¬ (passB [58] ((t.data.toList.drop i).drop L.length) = true ∧ schL (low L) = true) := by rw [List.drop_drop]; exact hb
      refine (readScheme_no g t i _ false w hU hE hg hi ht L hL (by
        cases h1 : passB [58] (t.data.toList.drop (i + L.length)) with
        | false => exact .inl rfl
        | true =>
          cases h2 : schL (low L) with
          | false => exact .inr rfl
          | true => exact absurd ⟨h1, h2⟩ hb)).mono ?_
      rintro e w' ⟨rfl, ⟨j, hj, h1⟩, h2⟩
      refine ⟨_, rfl, h2, .inr ⟨.ref, j, p, rfl, At.own hO h2 h1 rfl, hj, ?_, ?_⟩⟩
      · show none = schP _ _
        unfold schP
        rw [hL, if_neg hd]
      · show 1 * 2000 + _ < 8 * 2000 + _
        omega

set_option maxRecDepth 100000 in
theorem neq_func (k : Nat) (a b : Array Value) (W : World) : (binOp .neq 72 (.func (.func k) a b) .nilFunc).run Tryz.prog W = .ok (.bool true) W := rfl
set_option maxRecDepth 100000 in
theorem neq_nil (W : World) : (binOp .neq 72 .nilFunc .nilFunc).run Tryz.prog W = .ok (.bool false) W := rfl
set_option maxHeartbeats 2000000 in
set_option maxRecDepth 100000 in
theorem runFrom (g : Nat) (t : ByteArray) (i : Nat) (p : P) (st : St) (w : World) (h : At g t i p false w) (hE : Eof w) (hM : MaxL w) (hg : g ≠ 0) (hg2 : g ≠ 1) (hi : i ≤ t.size) (ht : t.size ≤ 1000) :
    Calls Tryz.prog 21 #[.pointer (some ⟨g, 0, none⟩), stV g st] w fun e w' => e = .returned (.tuple #[]) ∧ Fin g t (st.out p (t.data.toList.drop i)) w' ∧ w.grownBy w' (some g) := by
  have HE : Hid (∀ W, w.grownBy W (some g) → Eof W) := fun W k => hE.grown k hg
  have HM : Hid (∀ W, w.grownBy W (some g) → MaxL W) := fun W k => hM.grown k hg2
  obtain ⟨R, hR⟩ : ∃ R, st.out p (t.data.toList.drop i) = R := ⟨_, rfl⟩
  have HS : Hid (∀ (i : Nat) (p : P) (st : St) (W : World), At g t i p false W → w.grownBy W (some g) → i ≤ t.size → st.out p (t.data.toList.drop i) = R → Calls Tryz.prog st.fn #[.pointer (some ⟨g, 0, none⟩)] W fun e w' => ∃ s, e = .returned s ∧ W.grownBy w' (some g) ∧ Next g t R (st.rank * 2000 + (t.size - i)) s w') := by
    intro i p st W hA hG hi hR
    rw [← hR]
    exact stepTo g t i p st W hA (HE.out W hG) (HM.out W hG) hg hg2 hi ht
  have H0 : Hid (∃ (i : Nat) (p : P) (st' : St), stV g st = stV g st' ∧ At g t i p false w ∧ i ≤ t.size ∧ st'.out p (t.data.toList.drop i) = R) := ⟨i, p, st, rfl, h, hi, hR⟩
  rw [hR]
  clear h hE hM HE HM hR hi
  unfold stV at H0 ⊢
  generalize st.fn = k0 at *
  go_enter Tryz.func21, Tryz.ntmps21
  go_wp2
  go_loopw [1] (fun s wr => Hid (w.grownBy wr (some g)) ∧ ((s = .nilFunc ∧ Hid (Fin g t R wr)) ∨ ∃ k, s = .func (.func k) #[.pointer (some ⟨g, 0, none⟩)] #[] ∧ Hid (∃ (i : Nat) (p : P) (st' : St), k = St.fn st' ∧ At g t i p false wr ∧ i ≤ t.size ∧ st'.out p (t.data.toList.drop i) = R))) (fun s wr => rkV s * 2000 + (t.size - placeOf g wr))
  case atStart =>
    obtain ⟨i, p, st', e, hA, hi, hR⟩ := H0.out
    exact ⟨World.grownBy.refl w _, .inr ⟨k0, rfl, i, p, st', by simpa using e, hA, hi, hR⟩⟩
  case round =>
    obtain ⟨HG, hh⟩ := hrel
    rcases hh with ⟨rfl, HF⟩ | ⟨k, rfl, HK⟩
    · have hq := neq_nil wr
      go_wp2
      go_end0
      exact ⟨rfl, HF.out, HG.out⟩
    · obtain ⟨i1, p1, st1, hk, hA, hi1, hR1⟩ := HK.out
      have CS : Hid (Calls Tryz.prog k #[.pointer (some ⟨g, 0, none⟩)] wr fun e w' => ∃ s, e = .returned s ∧ wr.grownBy w' (some g) ∧ Next g t R (fnRank k * 2000 + (t.size - placeOf g wr)) s w') := by
        have hrk : fnRank k = st1.rank := by rw [hk]; exact rk_st g st1
        obtain ⟨v1, hU1, hO1⟩ := hA
        rw [hrk, Rdr.place hU1, hk]
        exact HS.out i1 p1 st1 wr ⟨v1, hU1, hO1⟩ HG.out hi1 hR1
      subst hk
      clear hA hi1 hR1 HK
      have hq := neq_func (St.fn st1) #[.pointer (some ⟨g, 0, none⟩)] #[] wr
      obtain ⟨mz, hmz⟩ : ∃ mz, mz = fnRank (St.fn st1) * 2000 + (t.size - placeOf g wr) := ⟨_, rfl⟩
      have HMZ : Hid (mz = rkV (.func (.func (St.fn st1)) #[.pointer (some ⟨g, 0, none⟩)] #[]) * 2000 + (t.size - placeOf g wr)) := hmz
      have HMP : Hid (t.size < mz) := by
        show _ < _
        have := fnRank_pos (St.fn st1)
        omega
      rw [← hmz] at CS
      clear hmz
      cases st1
      all_goals
        dsimp only [St.fn] at CS hq HMZ ⊢
        go_wp2_with fail
        refine CS.out.mono ?_
        rintro e W1 ⟨s1, rfl, hG1, hN⟩
        have HG1 : Hid (w.grownBy W1 (some g)) := grown_then HG.out hG1
        have HN : Hid (Next g t R mz s1 W1) := hN
        clear hG1 hN
        go_wp2
        go_roundw
        case rel =>
          refine ⟨HG1, ?_⟩
          rcases HN.out with ⟨h1, h2⟩ | ⟨st2, i2, p2, h1, h2, h3, h4, h5⟩
          · exact .inl ⟨h1, h2⟩
          · exact .inr ⟨st2.fn, h1, i2, p2, st2, rfl, h2, h3, h4⟩
        case measure =>
          rcases HN.out with ⟨h1, h2⟩ | ⟨st2, i2, p2, h1, h2, h3, h4, h5⟩
          · rw [h1, ← HMZ.out]
            have h2 := HMP.out
            show 0 * 2000 + _ < _
            omega
          · obtain ⟨v2, hU2, _⟩ := h2
            rw [h1, rk_st, Rdr.place hU2, ← HMZ.out]
            exact h5
end Go.Proofs.YthjccpboecfdhabGreatDoor
end

section
set_option linter.unusedVariables false
namespace Go.Proofs.YthjccpboecfdhabGreatDoor
open Go.RowKit Go.Shelf

set_option maxHeartbeats 2000000 in
set_option maxRecDepth 100000 in
theorem writeString_k (B b : Nat) (bs : List Value) (s : ByteArray) (w : World) (h : Lib.IsBuilderF 61 5 B b bs w) (hlen : bs.length + s.size ≤ 140737488355328) (hBw : B ≤ w.heap.size) :
    Calls Tryz.prog 30 #[.pointer (some ⟨b, 0, none⟩), .string s] w fun e w' => e = .returned (.tuple #[.int .i64 s.size, .nilIface]) ∧ Lib.BuilderAtF 61 5 B b (.pointer (some ⟨b, 0, none⟩)) (bs ++ Lib.strCells s) w' ∧ Below B w w' ∧ Lib.OthersKept 5 (some b) w w' := by
  obtain ⟨i0, hi, hz0, hz1, hz2⟩ := info_parts infoByte
  go_enter Tryz.func30, Tryz.ntmps30
  go_wp2_with (go_at_call 55; refine (copyCheck_k B b bs _ h).mono ?_)
  rintro e w1 ⟨rfl, h1, hb1, hk1⟩
  obtain ⟨hB, v, hbk, hown, hne⟩ := h1
  have c0 : w1.cell? ⟨b, 0, none⟩ = some (.pointer (some ⟨b, 0, none⟩)) := by rw [Lib.cell_of_heap hbk]; rfl
  have c1 : w1.cell? ⟨b, 1, none⟩ = some v := by rw [Lib.cell_of_heap hbk]; rfl
  go_wp2_with (at_builtin; refine Lib.wpList_append_own_stringF _ rfl _ _ 22 9 rfl B 5 i0 Tryz.underlying22 Tryz.underlying9 hi hz0 hz1 hz2 _ _ _ rfl hown s rfl ?c3 ?c4 ?c5 ?_)
  case c3 => unfold maxLen; omega
  case c4 => omega
  case c5 => have := hb1.size; omega
  intro v' w2 hown' hgrow _
  have hlt : b < w1.heap.size := by
    rcases Nat.lt_or_ge b w1.heap.size with h' | h'
    · exact h'
    · simp [Array.getElem?_eq_none h'] at hbk
  have hb2 : w2.heap[b]? = some (.cells #[.pointer (some ⟨b, 0, none⟩), v] 61 (0, 0)) := by
    rw [hgrow.block b hlt (fun e => hne e.symm)]
    exact hbk
  have d0 : w2.cell? ⟨b, 0, none⟩ = some (.pointer (some ⟨b, 0, none⟩)) := by rw [Lib.cell_of_heap hb2]; rfl
  have d1 : w2.cell? ⟨b, 1, none⟩ = some v := by rw [Lib.cell_of_heap hb2]; rfl
  have f1 : w2.frozen? ⟨b, 1, none⟩ = false := Lib.frozen_of_heap hb2 1
  obtain ⟨ao, n', cap, rfl⟩ : ∃ ao n' cap, v' = .slice ao n' cap := by
    rcases hown'.2 with ⟨hv, _⟩ | ⟨g, cap, cur, fz, hv, _⟩
    · exact ⟨_, _, _, hv⟩
    · exact ⟨_, _, _, hv⟩
  go_wp2
  go_ret2
  refine ⟨rfl, ?_, ?_, (hk1.grown hgrow (Lib.ownsRowF_kind hown)).setCell ⟨b, 1, none⟩ rfl _⟩
  · exact Lib.BuilderAtF.put (T := 61) (e := 5) hB hb2 (bs' := bs ++ Lib.strCells s) (by simpa [Lib.strCells_length] using hown') (by decide)
  · exact (hb1.grown hgrow (by have := hb1.size; omega) (fun k hk => (hown.lt k hk).1)).setCell (p := ⟨b, 1, none⟩) hB _
end Go.Proofs.YthjccpboecfdhabGreatDoor
end

section
set_option linter.unusedVariables false
namespace Go.Proofs.YthjccpboecfdhabGreatDoor
open Go.RowKit Go.Shelf

theorem builder_below {B b : Nat} {bs : List Value} {w w' : World} (h : Lib.IsBuilderF 61 5 B b bs w) (k : Below w.heap.size w w') : Lib.IsBuilderF 61 5 B b bs w' := by
  have one : ∀ p, Lib.BuilderAtF 61 5 B b p bs w → Lib.BuilderAtF 61 5 B b p bs w' := by
    intro p hp
    have hlt := hp.lt
    obtain ⟨hB, v, hb, hown, hne⟩ := hp
    have hg : w.grownBy w' none := ⟨k.os, k.tape, k.output, k.size, fun j hj _ => k.block j hj⟩
    refine ⟨hB, v, (k.block b hlt).trans hb, hown.kept hg ?_, hne⟩
    cases h : v.ownBlock with
    | none => exact .inl rfl
    | some x => exact .inr (by simp)
  rcases h with h | h
  · exact .inl (one _ h)
  · exact .inr (one _ h)
end Go.Proofs.YthjccpboecfdhabGreatDoor
end

section
set_option linter.unusedVariables false
namespace Go.Proofs.YthjccpboecfdhabGreatDoor
open Go.RowKit Go.Shelf

def named (k : Int) (s : ByteArray) (a : Int) : Bool := decide (k = 1 ∧ a = 0) && nameL s.data.toList && !endsL s.data.toList
def numbered (k : Int) (s : ByteArray) (a : Int) : Bool := decide (k = 2 ∧ 0 ≤ a ∧ a ≤ 4294967295) && s.data.toList.isEmpty
def formV (k : Int) (s : ByteArray) (a : Int) : Value := if named k s a = true then .iface 112 (.string s) else if numbered k s a = true then .iface 113 (.int .i64 a) else .nilIface

theorem form_named {k : Int} {s : ByteArray} {a : Int} (h : named k s a = true) : formV k s a = .iface 112 (.string s) := by unfold formV; rw [if_pos h]
theorem form_numbered {k : Int} {s : ByteArray} {a : Int} (h1 : named k s a = false) (h : numbered k s a = true) : formV k s a = .iface 113 (.int .i64 a) := by
  unfold formV; rw [if_neg (by rw [h1]; simp), if_pos h]
theorem form_none {k : Int} {s : ByteArray} {a : Int} (h1 : named k s a = false) (h : numbered k s a = false) : formV k s a = .nilIface := by
  unfold formV; rw [if_neg (by rw [h1]; simp), if_neg (by rw [h]; simp)]
theorem named_no {k : Int} {s : ByteArray} {a : Int} (h : ¬ (k = 1 ∧ a = 0)) : named k s a = false := by unfold named; rw [decide_eq_false h]; rfl
theorem numbered_no {k : Int} {s : ByteArray} {a : Int} (h : ¬ (k = 2 ∧ 0 ≤ a ∧ a ≤ 4294967295)) : numbered k s a = false := by unfold numbered; rw [decide_eq_false h]; rfl
theorem named_is {s : ByteArray} : named 1 s 0 = (nameL s.data.toList && !endsL s.data.toList) := by unfold named; rw [decide_eq_true ⟨rfl, rfl⟩]; rfl
theorem numbered_is {s : ByteArray} {a : Int} (h : 0 ≤ a ∧ a ≤ 4294967295) : numbered 2 s a = s.data.toList.isEmpty := by unfold numbered; rw [decide_eq_true ⟨rfl, h⟩]; rfl

theorem box_cell {w W1 : World} {A : Array Value} {t : TypeId} (b : Below (w.alloc (.cells A t)).heap.size (w.alloc (.cells A t)) W1) (j : Nat) : W1.cell? ⟨w.heap.size, j, none⟩ = A[j]? := by
  have hh := heap_alloc_new w (.cells A t)
  rw [b.cell (p := ⟨w.heap.size, j, none⟩) (Array.getElem?_eq_some_iff.1 hh).1, Lib.cell_of_heap hh]
theorem cell_lt {w : World} {g j : Nat} {v : Value} (h : w.cell? ⟨g, j, none⟩ = some v) : (⟨g, j, none⟩ : Addr).block < w.heap.size := by
  rcases Nat.lt_or_ge (⟨g, j, none⟩ : Addr).block w.heap.size with h' | h'
  · exact h'
  · simp [World.cell?, Array.getElem?_eq_none h'] at h
theorem box_below {w W1 : World} {o : Obj} (b : Below (w.alloc o).heap.size (w.alloc o) W1) : Below w.heap.size w W1 :=
  ((Below.refl _ w).alloc (Nat.le_refl _) o).trans (b.mono ((Below.refl _ w).alloc (Nat.le_refl _) o).size)

set_option maxHeartbeats 4000000 in
set_option maxRecDepth 100000 in
theorem hostFormOf (k : Int) (s : ByteArray) (a : Int) (w : World) (hm : ∃ m, w.cell? ⟨1, 0, none⟩ = some (.int .i64 m)) (hs : s.size ≤ 1048576) :
    Calls Tryz.prog 83 #[.agg #[.int .i64 k, .string s, .int .i64 a]] w fun e w' => e = .returned (formV k s a) ∧ Below w.heap.size w w' := by
  have hlt : 1 < w.heap.size := by
    obtain ⟨m, hm⟩ := hm
    have : (⟨1, 0, none⟩ : Addr).block < w.heap.size := by
      rcases Nat.lt_or_ge (⟨1, 0, none⟩ : Addr).block w.heap.size with h' | h'
      · exact h'
      · simp [World.cell?, Array.getElem?_eq_none h'] at hm
    exact this
  have HM : Hid (∀ W, Below w.heap.size w W → ∃ m, W.cell? ⟨1, 0, none⟩ = some (.int .i64 m)) := by
    obtain ⟨m, hm⟩ := hm
    intro W b
    exact ⟨m, (b.cell (p := ⟨1, 0, none⟩) hlt).trans hm⟩
  clear hm
  by_cases hk1 : k = 1
  · subst hk1
    have HN : Hid (numbered 1 s a = false) := numbered_no (by omega)
    by_cases ha : a = 0
    · subst ha
      have HI : Hid (named 1 s 0 = (nameL s.data.toList && !endsL s.data.toList)) := named_is
      go_enter Tryz.func83, Tryz.ntmps83
      go_wp2_with fail
      refine (isHostName s _ (HM.out _ ((Below.refl _ w).alloc (Nat.le_refl _) _)) hs).mono ?_
      rintro e W1 ⟨rfl, b1⟩
      have B1 : Hid (Below w.heap.size w W1) := box_below b1
      have hc1 : W1.cell? ⟨w.heap.size, 1, none⟩ = some (.string s) := box_cell b1 1
      have hsz1 : W1.heap.size ≥ w.heap.size := B1.out.size
      clear b1
      cases hn : nameL s.data.toList with
      | false =>
        have HF : Hid (formV 1 s 0 = .nilIface) := form_none (by rw [HI.out, hn]; rfl) HN.out
        go_wp2
        go_ret
        exact ⟨by rw [HF.out]; rfl, B1.out⟩
      | true =>
        have hl : s.data.toList.length = s.size := by simp
        have h60 := nameL_le _ hn
        have h60' : s.size ≤ 60 := by omega
        have h60i : (s.size : Int) ≤ 60 := by omega
        clear h60 hl
        go_wp2_with fail
        refine (endsWithNumber s _ (HM.out _ B1.out) (by omega)).mono ?_
        rintro e W2 ⟨rfl, b2⟩
        have hc2 : W2.cell? ⟨w.heap.size, 1, none⟩ = some (.string s) := (b2.cell (p := ⟨w.heap.size, 1, none⟩) (cell_lt hc1)).trans hc1
        have B2 : Hid (Below w.heap.size w W2) := B1.out.trans (b2.mono hsz1)
        clear b2 hc1
        cases he : endsL s.data.toList with
        | true =>
          have HF : Hid (formV 1 s 0 = .nilIface) := form_none (by rw [HI.out, hn, he]; rfl) HN.out
          go_wp2
          go_ret
          exact ⟨by rw [HF.out]; rfl, B2.out⟩
        | false =>
          have HF : Hid (formV 1 s 0 = .iface 112 (.string s)) := form_named (by rw [HI.out, hn, he]; rfl)
          go_wp2
          go_ret
          exact ⟨by rw [HF.out]; rfl, B2.out⟩
    · have HF : Hid (formV 1 s a = .nilIface) := form_none (named_no (by omega)) HN.out
      have e0 : (a == 0) = false := beq_eq_false_iff_ne.2 ha
      go_enter Tryz.func83, Tryz.ntmps83
      go_wp2
      go_ret
      exact ⟨by rw [HF.out]; rfl, (Below.refl _ w).alloc (Nat.le_refl _) _⟩
  · have HN : Hid (named k s a = false) := named_no (by omega)
    have e1 : (k == 1) = false := beq_eq_false_iff_ne.2 hk1
    by_cases hk2 : k = 2
    · subst hk2
      by_cases hz : s.size = 0
      · have he : s = ⟨#[]⟩ := by
          have := mk_list s
          have hl : s.data.toList.length = s.size := by simp
          rw [List.length_eq_zero_iff.1 (show s.data.toList.length = 0 by omega)] at this
          exact this.symm
        subst he
        rcases (show a < 0 ∨ (0 ≤ a ∧ 4294967295 < a) ∨ (0 ≤ a ∧ a ≤ 4294967295) from by omega) with h1 | ⟨h1, h2⟩ | ⟨h1, h2⟩
        · have HF : Hid (formV 2 ⟨#[]⟩ a = .nilIface) := form_none HN.out (numbered_no (by omega))
          go_enter Tryz.func83, Tryz.ntmps83
          go_wp2
          go_ret
          exact ⟨by rw [HF.out]; rfl, (Below.refl _ w).alloc (Nat.le_refl _) _⟩
        · have HF : Hid (formV 2 ⟨#[]⟩ a = .nilIface) := form_none HN.out (numbered_no (by omega))
          go_enter Tryz.func83, Tryz.ntmps83
          go_wp2
          go_ret
          exact ⟨by rw [HF.out]; rfl, (Below.refl _ w).alloc (Nat.le_refl _) _⟩
        · have HF : Hid (formV 2 ⟨#[]⟩ a = .iface 113 (.int .i64 a)) := form_numbered HN.out (by rw [numbered_is ⟨h1, h2⟩]; rfl)
          go_enter Tryz.func83, Tryz.ntmps83
          go_wp2
          go_ret
          exact ⟨by rw [HF.out]; rfl, (Below.refl _ w).alloc (Nat.le_refl _) _⟩
      · have hzn : s.toList ≠ [] := by rw [ByteArray.toList_eq]; exact list_ne s hz
        have hne1 : (s.toList == []) = false := beq_eq_false_iff_ne.2 hzn
        have hne2 : s.toList.isEmpty = false := List.isEmpty_eq_false_iff.2 hzn
        have HF : Hid (formV 2 s a = .nilIface) := form_none HN.out (by unfold numbered; rw [List.isEmpty_eq_false_iff.2 (list_ne s hz)]; simp)
        go_enter Tryz.func83, Tryz.ntmps83
        go_wp2
        go_ret
        exact ⟨by rw [HF.out]; rfl, (Below.refl _ w).alloc (Nat.le_refl _) _⟩
    · have HF : Hid (formV k s a = .nilIface) := form_none HN.out (numbered_no (by omega))
      have e2 : (k == 2) = false := beq_eq_false_iff_ne.2 hk2
      go_enter Tryz.func83, Tryz.ntmps83
      go_wp2
      go_ret
      exact ⟨by rw [HF.out]; rfl, (Below.refl _ w).alloc (Nat.le_refl _) _⟩
end Go.Proofs.YthjccpboecfdhabGreatDoor
end

section
set_option linter.unusedVariables false
namespace Go.Proofs.YthjccpboecfdhabGreatDoor
open Go.RowKit Go.Shelf

theorem tab_below {w w' : World} {B : Nat} (h : Lib.TabIs Tryz.prog w "internal/strconv.uint64pow10" .u64 Lib.pow10Tab) (b : Below B w w') (hB : 4 < B) : Lib.TabIs Tryz.prog w' "internal/strconv.uint64pow10" .u64 Lib.pow10Tab := by
  have hgn : Tryz.prog.globalNamed "internal/strconv.uint64pow10" = some 4 := by kernel_rfl
  unfold Lib.TabIs World.var? at h ⊢
  rw [hgn] at h ⊢
  simp only [Option.bind_some] at h ⊢
  rw [b.block _ hB]; exact h

theorem and255 (n : Int) : bits .and .i64 n 255 = n % 256 := by
  have h255 : (BitVec.ofInt 64 255).toNat = 2 ^ 8 - 1 := by decide
  have key : (BitVec.ofInt 64 n &&& BitVec.ofInt 64 255).toNat = (n % ((2 ^ 64 : Nat) : Int)).toNat % 2 ^ 8 := by
    rw [BitVec.toNat_and, BitVec.toNat_ofInt, h255, Nat.and_two_pow_sub_one_eq_mod]
  show IntKind.i64.wrap ((BitVec.ofInt 64 n &&& BitVec.ofInt 64 255).toNat : Nat) = n % 256
  rw [key, IntKind.wrap_i64]
  omega

/-- A number in decimals. -/
def dg (x : Int) : List UInt8 := Lib.decDigits x.toNat
theorem dg_len (x : Int) (h : x < 256) : (dg x).length ≤ 3 := by
  unfold dg
  obtain ⟨n, hn, hl⟩ : ∃ n, n = x.toNat ∧ n < 256 := ⟨_, rfl, by omega⟩
  rw [← hn]
  rw [Lib.decDigits]
  split
  · simp
  · rw [Lib.decDigits]
    split
    · simp
    · rw [Lib.decDigits]
      split
      · simp
      · omega
theorem itoa_dg (x : Int) (h : 0 ≤ x) : Lib.itoa x = dg x := by unfold Lib.itoa dg; rw [if_neg (by omega)]

def pre1 (a : Int) : List UInt8 := dg (a / 16777216 % 256) ++ [46]
def pre2 (a : Int) : List UInt8 := pre1 a ++ (dg (a / 65536 % 256) ++ [46])
def pre3 (a : Int) : List UInt8 := pre2 a ++ (dg (a / 256 % 256) ++ [46])
/-- An address of four bytes, written. -/
def fourT (a : Int) : List UInt8 := pre3 a ++ dg (a % 256)
/-- The first k of the four parts, written. -/
def preT (a : Int) : Nat → List UInt8
  | 0 => []
  | 1 => pre1 a
  | 2 => pre2 a
  | 3 => pre3 a
  | _ => fourT a
theorem preT_len (a : Int) : ∀ k, (preT a k).length ≤ 15 := by
  have h1 : (pre1 a).length ≤ 4 := by unfold pre1; have := dg_len (a / 16777216 % 256) (by omega); simp; omega
  have h2 : (pre2 a).length ≤ 8 := by unfold pre2; have := dg_len (a / 65536 % 256) (by omega); simp; omega
  have h3 : (pre3 a).length ≤ 12 := by unfold pre3; have := dg_len (a / 256 % 256) (by omega); simp; omega
  have h4 : (fourT a).length ≤ 15 := by unfold fourT; have := dg_len (a % 256) (by omega); simp; omega
  intro k
  match k with
  | 0 => simp [preT]
  | 1 => show (pre1 a).length ≤ 15; omega
  | 2 => show (pre2 a).length ≤ 15; omega
  | 3 => show (pre3 a).length ≤ 15; omega
  | n + 4 => exact h4

theorem itoaAt (x : Int) (h0 : 0 ≤ x) (h1 : x < 256) (W : World) (ht : Lib.TabIs Tryz.prog W "internal/strconv.uint64pow10" .u64 Lib.pow10Tab) :
    Calls Tryz.prog 57 #[.int .i64 x] W fun e w' => e = .returned (.string (mk (dg x))) ∧ Below W.heap.size W w' := by
  refine (Tryz.strconv_Itoa x (by omega) (by omega) W ht).mono ?_
  rintro e w' ⟨rfl, k, os, rfl⟩
  exact ⟨by rw [itoa_dg x h0]; rfl, Lib.below_grow _ _ (Nat.le_refl _) k os⟩

theorem cells_put {b : Nat} {B : Nat} {p : Value} {l d m : List UInt8} {w : World} (h : Lib.BuilderAtF 61 5 B b p ((Lib.byteCells l ++ Lib.strCells (mk d)) ++ [.int .u8 46]) w) (hm : m = l ++ (d ++ [46]) := by rfl) : Lib.BuilderAtF 61 5 B b p (Lib.byteCells m) w := by
  subst hm
  have e : Lib.byteCells (l ++ (d ++ [46])) = (Lib.byteCells l ++ Lib.strCells (mk d)) ++ [.int .u8 46] := by
    rw [Lib.byteCells_append, Lib.byteCells_append, List.append_assoc]; rfl
  rw [e]; exact h
theorem cells_last {b : Nat} {B : Nat} {p : Value} {l d m : List UInt8} {w : World} (h : Lib.BuilderAtF 61 5 B b p (Lib.byteCells l ++ Lib.strCells (mk d)) w) (hm : m = l ++ d := by rfl) : Lib.BuilderAtF 61 5 B b p (Lib.byteCells m) w := by
  subst hm
  rw [Lib.byteCells_append]; exact h

set_option maxHeartbeats 4000000 in
set_option maxRecDepth 100000 in
theorem put (a : Int) (w : World) (h0 : 0 ≤ a) (h1 : a ≤ 4294967295) (hB : 4 < w.heap.size) (ht : Lib.TabIs Tryz.prog w "internal/strconv.uint64pow10" .u64 Lib.pow10Tab) :
    Calls Tryz.prog 188 #[.int .i64 a] w fun e w' => e = .returned (.string (mk (fourT a))) ∧ Below w.heap.size w w' := by
  have HT : Hid (∀ W, Below w.heap.size w W → Lib.TabIs Tryz.prog W "internal/strconv.uint64pow10" .u64 Lib.pow10Tab) := fun W b => tab_below ht b hB
  have HL : Hid (∀ k, (preT a k).length ≤ 15) := preT_len a
  have A0 := and255 (a / 16777216)
  have A1 := and255 (a / 65536)
  have A2 := and255 (a / 256)
  have A3 := and255 a
  have A3' := and255 (a / 1)
  clear ht
  go_enter Tryz.func188, Tryz.ntmps188
  go_wp2
  go_loopw [4] (fun i wr => ∃ k : Nat, k ≤ 4 ∧ i = .int .i64 (24 - 8 * (k : Int)) ∧ Lib.IsBuilderF 61 5 w.heap.size w.heap.size (Lib.byteCells (preT a k)) wr ∧ Below w.heap.size w wr) (fun i wr => (intOf i + 8).toNat)
  case atStart => exact ⟨0, by omega, rfl, Lib.IsBuilderF.of (Lib.fresh_isBuilder _ _ w), (Below.refl _ w).alloc (Nat.le_refl _) _⟩
  case round =>
    obtain ⟨k, hk, rfl, hI, hbw⟩ := hrel
    have hsz : w.heap.size ≤ wr.heap.size := hbw.size
    rcases (show k = 0 ∨ k = 1 ∨ k = 2 ∨ k = 3 ∨ k = 4 from by omega) with rfl | rfl | rfl | rfl | rfl
    · have hl := HL.out 0
      have hd := dg_len (a / 16777216 % 256) (by omega)
      go_wp2_with fail
      refine (itoaAt (a / 16777216 % 256) (by omega) (by omega) _ (HT.out _ hbw)).mono ?_
      rintro e W1 ⟨rfl, b1⟩
      have I1 := builder_below hI b1
      have B1 : Below w.heap.size w W1 := hbw.trans (b1.mono hsz)
      have s1 : w.heap.size ≤ W1.heap.size := B1.size
      go_wp2_with fail
      refine (writeString_k w.heap.size w.heap.size _ _ _ I1 (by rw [Lib.byteCells_length, mk_size]; omega) s1).mono ?_
      rintro e W2 ⟨rfl, g2, b2, _⟩
      have B2 : Below w.heap.size w W2 := B1.trans b2
      have s2 : w.heap.size ≤ W2.heap.size := B2.size
      go_wp2_with fail
      refine (writeByte_k w.heap.size w.heap.size _ 46 _ (Or.inr g2) (by rw [List.length_append, Lib.byteCells_length, Lib.strCells_length, mk_size]; omega) s2).mono ?_
      rintro e W3 ⟨rfl, g3, b3, _⟩
      go_wp2
      go_roundw
      case rel => exact ⟨1, by omega, by go_num, Or.inr (cells_put g3), B2.trans b3⟩
      case measure => simp [intOf]
    · have hl := HL.out 1
      have hd := dg_len (a / 65536 % 256) (by omega)
      go_wp2_with fail
      refine (itoaAt (a / 65536 % 256) (by omega) (by omega) _ (HT.out _ hbw)).mono ?_
      rintro e W1 ⟨rfl, b1⟩
      have I1 := builder_below hI b1
      have B1 : Below w.heap.size w W1 := hbw.trans (b1.mono hsz)
      have s1 : w.heap.size ≤ W1.heap.size := B1.size
      go_wp2_with fail
      refine (writeString_k w.heap.size w.heap.size _ _ _ I1 (by rw [Lib.byteCells_length, mk_size]; omega) s1).mono ?_
      rintro e W2 ⟨rfl, g2, b2, _⟩
      have B2 : Below w.heap.size w W2 := B1.trans b2
      have s2 : w.heap.size ≤ W2.heap.size := B2.size
      go_wp2_with fail
      refine (writeByte_k w.heap.size w.heap.size _ 46 _ (Or.inr g2) (by rw [List.length_append, Lib.byteCells_length, Lib.strCells_length, mk_size]; omega) s2).mono ?_
      rintro e W3 ⟨rfl, g3, b3, _⟩
      go_wp2
      go_roundw
      case rel => exact ⟨2, by omega, by go_num, Or.inr (cells_put g3), B2.trans b3⟩
      case measure => simp [intOf]
    · have hl := HL.out 2
      have hd := dg_len (a / 256 % 256) (by omega)
      go_wp2_with fail
      refine (itoaAt (a / 256 % 256) (by omega) (by omega) _ (HT.out _ hbw)).mono ?_
      rintro e W1 ⟨rfl, b1⟩
      have I1 := builder_below hI b1
      have B1 : Below w.heap.size w W1 := hbw.trans (b1.mono hsz)
      have s1 : w.heap.size ≤ W1.heap.size := B1.size
      go_wp2_with fail
      refine (writeString_k w.heap.size w.heap.size _ _ _ I1 (by rw [Lib.byteCells_length, mk_size]; omega) s1).mono ?_
      rintro e W2 ⟨rfl, g2, b2, _⟩
      have B2 : Below w.heap.size w W2 := B1.trans b2
      have s2 : w.heap.size ≤ W2.heap.size := B2.size
      go_wp2_with fail
      refine (writeByte_k w.heap.size w.heap.size _ 46 _ (Or.inr g2) (by rw [List.length_append, Lib.byteCells_length, Lib.strCells_length, mk_size]; omega) s2).mono ?_
      rintro e W3 ⟨rfl, g3, b3, _⟩
      go_wp2
      go_roundw
      case rel => exact ⟨3, by omega, by go_num, Or.inr (cells_put g3), B2.trans b3⟩
      case measure => simp [intOf]
    · have hl := HL.out 3
      have hd := dg_len (a % 256) (by omega)
      go_wp2_with fail
      refine (itoaAt (a % 256) (by omega) (by omega) _ (HT.out _ hbw)).mono ?_
      rintro e W1 ⟨rfl, b1⟩
      have I1 := builder_below hI b1
      have B1 : Below w.heap.size w W1 := hbw.trans (b1.mono hsz)
      have s1 : w.heap.size ≤ W1.heap.size := B1.size
      go_wp2_with fail
      refine (writeString_k w.heap.size w.heap.size _ _ _ I1 (by rw [Lib.byteCells_length, mk_size]; omega) s1).mono ?_
      rintro e W2 ⟨rfl, g2, b2, _⟩
      have B2 : Below w.heap.size w W2 := B1.trans b2
      have s2 : w.heap.size ≤ W2.heap.size := B2.size
      go_wp2
      go_roundw
      case rel => exact ⟨4, by omega, by go_num, Or.inr (cells_last g2), B2⟩
      case measure => simp [intOf]
    · go_wp2_with (go_at_call 36; refine (Tryz.Builder_String_any_k w.heap.size w.heap.size _ _ hI hsz).mono ?_; rintro e W1 ⟨rfl, _, b1, _⟩)
      go_ret
      exact ⟨rfl, hbw.trans b1⟩
end Go.Proofs.YthjccpboecfdhabGreatDoor
end

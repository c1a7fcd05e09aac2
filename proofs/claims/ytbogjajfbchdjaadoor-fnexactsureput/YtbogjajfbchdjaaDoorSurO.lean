/- slices.Insert of one text into a row that the call owns: the four roads. -/
import Derived.Test.YtbogjajfbchdjaaDoorSurN
import Derived.Deep.Upon
set_option linter.unusedVariables false
set_option linter.unusedSimpArgs false
namespace Go.Proofs.YtbogjajfbchdjaaDoor
open Go.RowKit Go.Shelf

theorem one_at {gx : Nat} {h : List UInt8} {w : World} (hX : Blk gx #[.string (mk h)] 9 w) : ∀ j v, ([Value.string (mk h)] : List Value)[j]? = some v → w.cell? ⟨gx, 0 + j, none⟩ = some v := fun j v hv => by
  rw [Nat.zero_add, hX.cell j]
  rcases j with _ | j
  · simpa using hv
  · simp at hv
theorem one_cell (h : List UInt8) : ∀ v ∈ [Value.string (mk h)], v.oneCell' = true := fun v hv => by
  rw [List.mem_singleton] at hv; rw [hv]; rfl
theorem all_cell (ss : List (List UInt8)) : ∀ v ∈ (ss.map fun p => Value.string (mk p)), v.oneCell' = true := fun v hv => by
  obtain ⟨p, _, rfl⟩ := List.mem_map.1 hv; rfl
theorem row_at {cur : Array Value} {n : Nat} {cs : List Value} (h : cur.toList.take n = cs) (hn : cs.length = n) : ∀ (j : Nat) (v : Value), cs[j]? = some v → cur[j]? = some v := fun j v hv => by
  have hj : j < n := by have := (List.getElem?_eq_some_iff.1 hv).1; omega
  rw [← h, List.getElem?_take_of_lt hj, Array.getElem?_toList] at hv
  exact hv
theorem shape_blk {g : Nat} {A : Array Value} {t : TypeId} {w : World} (h : Blk g A t w) : w.shape? g = some (t, A.size) := by
  unfold Blk at h
  simp [World.shape?, h]
theorem size_setCells (g : Nat) : ∀ (vs : List Value) (o : Nat) (w : World), (w.setCells g o vs).heap.size = w.heap.size
  | [], _, _ => rfl
  | v :: r, o, w => by rw [World.setCells, size_setCells g r]; simp [World.setCell]
theorem insertOwn (B : Nat) (v : Value) (ss : List (List UInt8)) (h : List UInt8) (k gx : Nat) (w : World) (hO : OwnS B v ss w) (hB : B ≤ w.heap.size) (hk : k ≤ ss.length) (hX : Blk gx #[.string (mk h)] 9 w)
    (hgx : ∀ g n c, v = .slice (some ⟨g, 0, none⟩) n c → g ≠ gx) (hl : ss.length ≤ 100) :
    Calls Tryd.prog 21 #[v, .int .i64 k, .slice (some ⟨gx, 0, none⟩) 1 1] w fun e w' => ∃ v', e = .returned v' ∧ OwnS B v' (ss.take k ++ [h] ++ ss.drop k) w' ∧ Below B w w' ∧ ∀ j, j < w.heap.size → (∀ g n c, v = .slice (some ⟨g, 0, none⟩) n c → j ≠ g) → w'.heap[j]? = w.heap[j]? := by
  have hms : (ss.map fun p => Value.string (mk p)).length = ss.length := by simp
  rcases hO.2 with ⟨rfl, h0⟩ | ⟨g, cap, cur, rfl, hBg, hg, hnc, hcm, hsz, htk⟩
  · have hss : ss = [] := List.eq_nil_of_length_eq_zero h0
    subst hss
    have hk0 : k = 0 := by simpa using hk
    subst hk0
    refine (Any2.slices_Insert_string_end_grow shInsert none 0 0 gx 0 1 1 [] [.string (mk h)] w (by decide) (by decide) (by decide) (by decide) rfl rfl (fun _ => rfl) (fun a h => by cases h) (one_at hX) (one_cell h)).mono ?_
    rintro e w' ⟨rfl, rfl⟩
    have hge := grownCap_ge w (0 + 1) 0 9
    refine ⟨_, rfl, owns_mid (ss := []) (k := 0) (B := B) hB (heap_alloc_new w.drew _) ?_ hge (grownCap_le_maxLen w (0 + 1) 0 9 (by unfold maxLen; omega)) (Nat.le_refl _) (fun j hj => ?_), ((Below.refl B w).drew).alloc hB _, fun i hi _ => Lib.alloc_old w.drew _ i hi⟩
    · rw [Array.size_append, size_zeroCells]
      show 1 + _ * 1 = _
      show 1 + (grownCap w (0 + 1) 0 9 - (0 + 1)) * 1 = grownCap w (0 + 1) 0 9
      omega
    · obtain rfl : j = 0 := by simpa using hj
      rw [if_pos rfl, Array.getElem?_append_left (by simp)]
      rfl
  · have hb : Blk g cur 9 w := hg
    rw [Nat.mul_one] at hsz htk
    have hat := row_at htk hms
    by_cases hend : k = ss.length
    · subst hend
      by_cases hroom : ss.length + 1 ≤ cap
      · refine (Any2.slices_Insert_string_end_room shInsert g 0 ss.length cap gx 0 1 1 [.string (mk h)] w (by decide) hroom (by unfold maxLen at hcm; omega) rfl (fun j hj => ?_) (fun j hj => hb.free _) (one_at hX) (one_cell h)).mono ?_
        · rw [hb.cell]; rw [Array.getElem?_eq_getElem (by omega)]; rfl
        rintro e w' ⟨rfl, rfl⟩
        obtain ⟨A', b1, b2, b3⟩ := Blk.sets [.string (mk h)] (0 + ss.length) hb
        refine ⟨_, rfl, owns_mid hBg b1 (by omega) hroom hcm hk (fun j hj => ?_), below_sets hBg _ _ (Below.refl B w), fun i hi hne => World.heap_setCells_other w g _ _ hi (hne _ _ _ rfl)⟩
        rw [b3]
        simp only [List.length_singleton, Nat.zero_add]
        by_cases c : j = ss.length
        · rw [if_pos (by omega), if_pos c, c, Nat.sub_self]; rfl
        · rw [if_neg (by omega), if_neg c, if_pos (by omega)]
          have hjl : j < (ss.map fun p => Value.string (mk p)).length := by omega
          rw [List.getElem?_eq_getElem hjl]
          exact hat j _ (List.getElem?_eq_getElem hjl)
      · have hge := grownCap_ge w (ss.length + 1) cap 9
        refine (Any2.slices_Insert_string_end_grow shInsert (some ⟨g, 0, none⟩) ss.length cap gx 0 1 1 (ss.map fun p => Value.string (mk p)) [.string (mk h)] w (by decide) hnc (by omega) (by omega) hms rfl (fun e => by cases e) (fun a ha j u hu => ?_) (one_at hX) (one_cell h)).mono ?_
        · cases ha
          rw [Addr.add_lit, Nat.zero_add, hb.cell]
          exact hat j u hu
        rintro e w' ⟨rfl, rfl⟩
        refine ⟨_, rfl, owns_mid hB (heap_alloc_new w.drew _) ?_ hge (grownCap_le_maxLen w (ss.length + 1) cap 9 (by unfold maxLen; omega)) hk (fun j hj => ?_), ((Below.refl B w).drew).alloc hB _, fun i hi _ => Lib.alloc_old w.drew _ i hi⟩
        · rw [Array.size_append, size_zeroCells, List.size_toArray, List.length_append, hms]
          show ss.length + 1 + (grownCap w (ss.length + 1) cap 9 - (ss.length + 1)) * 1 = grownCap w (ss.length + 1) cap 9
          omega
        · rw [Array.getElem?_append_left (by rw [List.size_toArray, List.length_append, hms]; simp; omega), List.getElem?_toArray]
          by_cases c : j = ss.length
          · rw [if_pos c, List.getElem?_append_right (by omega), hms, c, Nat.sub_self]; rfl
          · rw [if_neg c, if_pos (by omega), List.getElem?_append_left (by omega)]
    · have hlt : k < ss.length := by omega
      have hdl : ((ss.map fun p => Value.string (mk p)).drop k).length = ss.length - k := by rw [List.length_drop, hms]
      by_cases hroom : ss.length + 1 ≤ cap
      · refine (Any2.slices_Insert_string_shift shInsert g 0 ss.length cap k gx 0 1 1 (ss.map fun p => Value.string (mk p)) [.string (mk h)] w hlt (by decide) hroom (by unfold maxLen at hcm; omega) (fun e => hgx _ _ _ rfl e.symm) hms rfl (fun j u hu => ?_) (fun j hj => ?_) (fun j hj => hb.free _) (one_at hX) (all_cell ss) (one_cell h) 9 9 1 cap (shape_blk hX) (by have := shape_blk hb; rw [hsz] at this; exact this) (by omega) (hX.free _) (hX.free _)).mono ?_
        · rw [Nat.zero_add, hb.cell]; exact hat j u hu
        · rw [hb.cell, Nat.zero_add, Array.getElem?_eq_getElem (by omega)]; rfl
        rintro e w' ⟨rfl, rfl⟩
        obtain ⟨A1, b1, b2, b3⟩ := Blk.sets ((ss.map fun p => Value.string (mk p)).drop k) (0 + (k + 1)) hb.drew
        obtain ⟨A2, c1, c2, c3⟩ := Blk.sets [.string (mk h)] (0 + k) b1
        refine ⟨_, rfl, owns_mid hBg c1 (by omega) hroom hcm hk (fun j hj => ?_), below_sets hBg _ _ (below_sets hBg _ _ ((Below.refl B w).drew)), fun i hi hne => (World.heap_setCells_other _ g _ _ (by rw [size_setCells]; exact hi) (hne _ _ _ rfl)).trans (World.heap_setCells_other w.drew g _ _ hi (hne _ _ _ rfl))⟩
        rw [c3, b3, b2, hdl]
        simp only [List.length_singleton, Nat.zero_add]
        rcases Nat.lt_trichotomy j k with d | d | d
        · rw [if_neg (by omega), if_neg (by omega), if_neg (by omega), if_pos d]
          have hjl : j < (ss.map fun p => Value.string (mk p)).length := by omega
          rw [List.getElem?_eq_getElem hjl]
          exact hat j _ (List.getElem?_eq_getElem hjl)
        · rw [if_pos (by omega), if_pos d, d, Nat.sub_self]; rfl
        · rw [if_neg (by omega), if_pos (by omega), if_neg (by omega), if_neg (by omega), List.getElem?_drop]
          congr 1; omega
      · have hge := grownCap_ge w (ss.length + 1) cap 9
        refine (Any2.slices_Insert_string_grow shInsert g 0 ss.length cap k gx 0 1 1 (ss.map fun p => Value.string (mk p)) [.string (mk h)] w hlt (by decide) hnc (by omega) (by omega) hms rfl (fun j u hu => ?_) (one_at hX) (all_cell ss) (one_cell h)).mono ?_
        · rw [Nat.zero_add, hb.cell]; exact hat j u hu
        rintro e w' ⟨rfl, rfl⟩
        have b0 := (Blk.new w ((((ss.map fun p => Value.string (mk p)).take k).toArray ++ Builtin.zeroCells (Value.string ⟨#[]⟩).cells (ss.length + 1 - k) ++ Builtin.zeroCells (Value.string ⟨#[]⟩).cells (grownCap w (ss.length + 1) cap 9 - (ss.length + 1)))) 9).drew
        obtain ⟨A1, b1, b2, b3⟩ := Blk.sets [.string (mk h)] k b0
        obtain ⟨A2, c1, c2, c3⟩ := Blk.sets ((ss.map fun p => Value.string (mk p)).drop k) (k + 1) b1.drew
        have hs0 : (((ss.map fun p => Value.string (mk p)).take k).toArray ++ Builtin.zeroCells (Value.string ⟨#[]⟩).cells (ss.length + 1 - k) ++ Builtin.zeroCells (Value.string ⟨#[]⟩).cells (grownCap w (ss.length + 1) cap 9 - (ss.length + 1))).size = grownCap w (ss.length + 1) cap 9 := by
          rw [Array.size_append, Array.size_append, size_zeroCells, size_zeroCells, List.size_toArray, List.length_take, hms]
          show min k ss.length + (ss.length + 1 - k) * 1 + (grownCap w (ss.length + 1) cap 9 - (ss.length + 1)) * 1 = _
          omega
        refine ⟨_, rfl, owns_mid hB c1 (by rw [c2, b2, hs0]; rfl) hge (grownCap_le_maxLen w (ss.length + 1) cap 9 (by unfold maxLen; omega)) hk (fun j hj => ?_), below_sets hB _ _ (Below.drew (below_sets hB _ _ (Below.drew ((Below.refl B w).alloc hB _)))), fun i hi _ => ?_⟩
        rotate_left
        · rw [World.heap_setCells_other _ _ _ _ (by show i < (World.setCells _ _ _ _).heap.size; rw [size_setCells]; show i < (w.alloc _).heap.size; simp; omega) (by omega)]
          show (World.setCells _ _ _ _).heap[i]? = _
          rw [World.heap_setCells_other _ _ _ _ (by show i < (w.alloc _).heap.size; simp; omega) (by omega)]
          exact Lib.alloc_old w _ i hi
        rw [c3, b3, b2, hs0, hdl]
        simp only [List.length_singleton]
        rcases Nat.lt_trichotomy j k with d | d | d
        · rw [if_neg (by omega), if_neg (by omega), if_neg (by omega), if_pos d, Array.append_assoc, Array.getElem?_append_left (by rw [List.size_toArray, List.length_take]; omega), List.getElem?_toArray, List.getElem?_take_of_lt d]
        · rw [if_neg (by omega), if_pos (by omega), if_pos d, d, Nat.sub_self]; rfl
        · rw [if_pos (by omega), if_neg (by omega), if_neg (by omega), List.getElem?_drop]
          congr 1; omega
end Go.Proofs.YtbogjajfbchdjaaDoor

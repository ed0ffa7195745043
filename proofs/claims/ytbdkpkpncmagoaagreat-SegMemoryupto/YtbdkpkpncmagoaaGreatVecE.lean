import Derived.Test.YtbdkpkpncmagoaaGreatVecD
set_option linter.unusedSimpArgs false
set_option linter.unusedVariables false
namespace Go.Proofs.YtbdkpkpncmagoaaGreat
open Go.RowKit Go.Sort

theorem any_hit {p : Val → Bool} {ys : List Val} {k : Nat} {y : Val} (h : ys[k]? = some y) (hp : p y = true) : ys.any p = true :=
  List.any_eq_true.2 ⟨y, List.mem_of_getElem? h, hp⟩
theorem any_none {p : Val → Bool} {ys : List Val} (h : ∀ i y, i < ys.length → ys[i]? = some y → p y = false) : ys.any p = false := by
  rw [List.any_eq_false]
  intro y hy
  obtain ⟨i, hi⟩ := List.mem_iff_getElem?.1 hy
  rw [h i y (List.getElem?_eq_some_iff.1 hi).1 hi]; simp
theorem none_step {p : Val → Bool} {ys : List Val} {k : Nat} {y : Val} (h : ∀ i y, i < k → ys[i]? = some y → p y = false) (hy : ys[k]? = some y) (hp : p y = false) : ∀ i y, i < k + 1 → ys[i]? = some y → p y = false := by
  intro i z hi hz
  by_cases e : i = k
  · subst e; rw [hy] at hz; cases hz; exact hp
  · exact h i z (by omega) hz

theorem three {w : World} {g t n k : Nat} {F : Nat → Value} (h : w.rowIs g t n F) (hk : k * 3 + 2 < n) :
    w.cell? ⟨g, k * 3, none⟩ = some (F (k * 3)) ∧ w.cell? ⟨g, k * 3 + 1, none⟩ = some (F (k * 3 + 1)) ∧ w.cell? ⟨g, k * 3 + 2, none⟩ = some (F (k * 3 + 2)) ∧
    w.frozen? ⟨g, k * 3, none⟩ = false ∧ w.frozen? ⟨g, k * 3 + 1, none⟩ = false ∧ w.frozen? ⟨g, k * 3 + 2, none⟩ = false :=
  ⟨h.cell (by omega), h.cell (by omega), h.cell (by omega), h.frozen _, h.frozen _, h.frozen _⟩
theorem rowIs_later {w w' : World} {g t n : Nat} {F : Nat → Value} (h : w.rowIs g t n F) (hb : Below w.heap.size w w') : w'.rowIs g t n F := h.of_block (hb.block _ h.lt)
theorem below_one {w w' : World} {o : Obj} (h : Below (w.alloc o).heap.size (w.alloc o) w') : Below w.heap.size w w' := below_step (below_alloc (Below.refl _ _) o) h

def zeroVec : Value := .agg #[.int .i64 0, .slice none 0 0, .slice none 0 0, .slice none 0 0]
/-- The end of a call that refuses. -/
theorem refused {w0 w' : World} {X : Vc × Int} {n : Int} (hX : X = (Vc.zero, n)) (hb : Below w0.heap.size w0 w') :
    ∃ p, Ending.returned (.tuple #[zeroVec, .int .i64 n]) = .returned (.tuple #[vecV X.1 p, .int .i64 X.2]) ∧ VecAt w' X.1 p ∧ Own3 w' w0.heap.size X.1 p ∧ Below w0.heap.size w0 w' := by
  subst hX
  exact ⟨⟨none, 0, none, 0, none, 0⟩, rfl, VecAt.zero _, Own3.zero _ _, hb⟩
theorem box_facts {w : World} {g : Nat} {a b c d : Value} (h : w.rowIs g 49 4 (box4 a b c d)) :
    w.cell? ⟨g, 0, none⟩ = some a ∧ w.cell? ⟨g, 1, none⟩ = some b ∧ w.cell? ⟨g, 2, none⟩ = some c ∧ w.cell? ⟨g, 3, none⟩ = some d ∧
    w.frozen? ⟨g, 0, none⟩ = false ∧ w.frozen? ⟨g, 1, none⟩ = false ∧ w.frozen? ⟨g, 2, none⟩ = false ∧ w.frozen? ⟨g, 3, none⟩ = false :=
  ⟨h.cell (by omega), h.cell (by omega), h.cell (by omega), h.cell (by omega), h.frozen _, h.frozen _, h.frozen _, h.frozen _⟩

set_option maxHeartbeats 4000000 in
theorem from_any (a : Option Addr) (c : Nat) (kind : Int) (xs : List Val) (w : World) (hl : xs.length * 32 ≤ 140737488355328) (ha : RowAt w a xs) :
    Calls Tryz.prog 26 #[.int .i64 kind, .slice a xs.length c] w fun e w' => ∃ p, e = .returned (.tuple #[vecV (fromV kind xs).1 p, .int .i64 (fromV kind xs).2]) ∧ VecAt w' (fromV kind xs).1 p ∧ Own3 w' w.heap.size (fromV kind xs).1 p ∧ Below w.heap.size w w' := by
  obtain ⟨i4, hi4, z40, z41, z42⟩ := info_parts Tryz.info42
  generalize hX : fromV kind xs = X
  have HX := hide hX
  clear hX
  have HA := hide ha
  clear ha
  obtain ⟨ys, hys⟩ : ∃ ys, ys = xs.map cleanV := ⟨_, rfl⟩
  have HY := hide hys
  have hyl : ys.length = xs.length := by rw [hys]; simp
  have HYL := hide hyl
  clear hys hyl
  rcases Bool.eq_false_or_eq_true (kindB kind) with hk | hk
  rotate_left
  · have HE : Hid (X = (Vc.zero, 1)) := by
      show _ = _
      rw [← unhide HX, fromV, if_pos hk]
    go_enter Tryz.func26, Tryz.ntmps26
    go_wp2_with (go_at_call 40; refine (iskind_any _ _).mono ?_; rintro e w1 ⟨rfl, rfl⟩)
    refine bodyPost_ret (v := .tuple #[zeroVec, .int .i64 1]) (by simp [results, Tryz.results26, go_sem, zeroVec, *]) rfl ?_
    exact refused (unhide HE) (by repeat (first | exact Below.refl _ _ | refine Below.alloc ?_ (by simp <;> omega) _ | refine Below.setCell ?_ (by simp <;> omega) _))
  · go_enter Tryz.func26, Tryz.ntmps26
    go_wp2_with (first
      | (go_at_call 40; refine (iskind_any _ _).mono ?_; rintro e w1 ⟨rfl, rfl⟩)
      | (at_make; refine wpList_make_rows _ rfl (.tmp 18) (.tmp 18) 34 rfl 42 i4 _ Tryz.underlying34 hi4 z40 3 z41 .i64 .i64 xs.length rfl rfl (by rw [z42]; omega) (by omega) ?_)
      | fail)
    go_loopw [22] (fun i wr => ∃ k : Nat, k ≤ xs.length ∧ i = .int .i64 k ∧ FInv w wr xs.length k ys) (fun i _ => xs.length - (intOf i).toNat)
    case atStart => exact ⟨0, Nat.zero_le _, rfl, FInv.start _ _ _ _⟩
    case round =>
      obtain ⟨k, hkl, rfl, hI⟩ := hrel
      have HI := hide hI
      obtain ⟨hb, hr, ⟨F, hF, hF'⟩⟩ := hI
      have ha' := (unhide HA).later hb
      have hz := hF.lt
      by_cases h1 : k < xs.length
      · obtain ⟨x, hx'⟩ : ∃ x, xs[k]? = some x := ⟨_, List.getElem?_eq_getElem h1⟩
        rcases ha' with e | ⟨ba, oa, rfl, hca⟩
        · subst e; simp at h1
        obtain ⟨c0, c1, c2⟩ := hca k x hx'
        have HS : Hid (ys[k]? = some (cleanV x)) := by show _ = _; rw [unhide HY]; simp [hx']
        have i1 : (k : Int) < (xs.length : Int) := by omega
        have HF := hide hF
        clear hca hx' hF hF' hr hb
        go_wp2_with (go_at_call 41; refine (clean_any x _).mono ?_; rintro e w1 ⟨rfl, hb1⟩; rw [Val.open_]; have hw1 := below_one hb1; clear hb1; obtain ⟨p0, p1, p2, q0, q1, q2⟩ := three (k := k) (rowIs_later (unhide HF) hw1) (by omega))
        go_roundw
        case rel => exact ⟨k + 1, by omega, by go_num, ((unhide HI).later hw1).step (unhide HS)⟩
        case measure => simp [intOf]; omega
      · have e : k = xs.length := by omega
        have i1 : ¬ (k : Int) < (xs.length : Int) := by omega
        have HI2 : Hid (FInv w wr xs.length xs.length ys) := by have := unhide HI; rw [e] at this; exact this
        clear hr hF hF' hb ha' HI e
        go_wp2
        obtain ⟨W1, rfl⟩ : ∃ W1, W1 = wr := ⟨_, rfl⟩
        clear hkl h1 F hz i1
        go_loopw [35] (fun i wr => ∃ j : Nat, j ≤ xs.length ∧ i = .int .i64 j ∧ Hid (∀ i y, i < j → ys[i]? = some y → badK kind y = false) ∧ Below W1.heap.size W1 wr) (fun i _ => xs.length - (intOf i).toNat)
        case atStart => exact ⟨0, Nat.zero_le _, rfl, fun i y h => by omega, Below.refl _ _⟩
        case round =>
          obtain ⟨j, hjl, rfl, HN, hb⟩ := hrel
          have hI := (unhide HI2).later hb
          have HI := hide hI
          obtain ⟨hb0, hr, ⟨F, hF, hF'⟩⟩ := hI
          obtain ⟨r0, r1, r2, r3, f0, f1, f2, f3⟩ := box_facts hr
          by_cases h1 : j < xs.length
          · obtain ⟨y, hy⟩ : ∃ y, ys[j]? = some y := ⟨_, List.getElem?_eq_getElem (by rw [unhide HYL]; exact h1)⟩
            have ha' := row_of_row hF (unhide HYL) hF'
            rcases ha' with e | ⟨ba, oa, e, hca⟩
            · rw [e] at hy; cases hy
            cases e
            obtain ⟨c0, c1, c2⟩ := hca j y hy
            rw [Nat.zero_add] at c0 c1 c2
            have i1 : (j : Int) < (xs.length : Int) := by omega
            have n1 : w.heap.size < wr.heap.size := hr.lt
            have HS := hide hy
            have HB0 := hide hb0
            clear hca hy hF hF' hr hb0
            rcases Bool.eq_false_or_eq_true (y.k != 0) with e1 | e1
            · rcases Bool.eq_false_or_eq_true (y.k != kind) with e2 | e2
              · have HE : Hid (X = (Vc.zero, 4)) := by
                  show _ = _
                  rw [← unhide HX, fromV, if_neg (by rw [hk]; simp), ← unhide HY, if_pos (any_hit (unhide HS) (by rw [badK, e1, e2]; rfl))]
                go_wp2
                refine bodyPost_ret (v := .tuple #[zeroVec, .int .i64 4]) (by simp [results, Tryz.results26, go_sem, zeroVec, *]) rfl ?_
                exact refused (unhide HE) (below_alloc (below_set4 (unhide HB0) (Nat.le_refl _) _ _ _ _) _)
              · have HP := hide (none_step (unhide HN) (unhide HS) (by rw [badK, e1, e2]; rfl))
                go_wp2
                go_roundw
                case rel => exact ⟨j + 1, by omega, by go_num, HP, below_alloc hb _⟩
                case measure => simp [intOf]; omega
            · have HP := hide (none_step (unhide HN) (unhide HS) (by rw [badK, e1]; rfl))
              go_wp2
              go_roundw
              case rel => exact ⟨j + 1, by omega, by go_num, HP, below_alloc hb _⟩
              case measure => simp [intOf]; omega
          · have e : j = xs.length := by omega
            have i1 : ¬ (j : Int) < (xs.length : Int) := by omega
            have HP : Hid (ys.any (badK kind) = false) := any_none (by rw [unhide HYL, ← e]; exact unhide HN)
            clear e
            go_wp2
            obtain ⟨W2, rfl⟩ : ∃ W2, W2 = wr := ⟨_, rfl⟩
            clear hjl h1 F hF hF' i1 hr hb0 r0 r1 r2 r3 f0 f1 f2 f3 HN HI2 hb
            go_loopw [52] (fun i wr => ∃ j : Nat, j ≤ xs.length ∧ i = .int .i64 j ∧ Hid (∀ i y, i < j → ys[i]? = some y → largeB y.s = false) ∧ Below W2.heap.size W2 wr) (fun i _ => xs.length - (intOf i).toNat)
            case atStart => exact ⟨0, Nat.zero_le _, rfl, fun i y h => by omega, Below.refl _ _⟩
            case round =>
              obtain ⟨j, hjl, rfl, HN, hb⟩ := hrel
              have hI := (unhide HI).later hb
              obtain ⟨hb0, hr, ⟨F, hF, hF'⟩⟩ := hI
              obtain ⟨r0, r1, r2, r3, f0, f1, f2, f3⟩ := box_facts hr
              by_cases h1 : j < xs.length
              · obtain ⟨y, hy⟩ : ∃ y, ys[j]? = some y := ⟨_, List.getElem?_eq_getElem (by rw [unhide HYL]; exact h1)⟩
                have ha' := row_of_row hF (unhide HYL) hF'
                rcases ha' with e | ⟨ba, oa, e, hca⟩
                · rw [e] at hy; cases hy
                cases e
                obtain ⟨c0, c1, c2⟩ := hca j y hy
                rw [Nat.zero_add] at c0 c1 c2
                have i1 : (j : Int) < (xs.length : Int) := by omega
                have n1 : w.heap.size < wr.heap.size := hr.lt
                have HS := hide hy
                have HB0 := hide hb0
                clear hca hy hF hF' hr hb0
                rcases Bool.eq_false_or_eq_true (largeB y.s) with e1 | e1
                · have HE : Hid (X = (Vc.zero, 3)) := by
                    show _ = _
                    rw [← unhide HX, fromV, if_neg (by rw [hk]; simp), ← unhide HY, if_neg (by rw [unhide HP]; simp), if_pos (any_hit (p := fun y => largeB y.s) (unhide HS) e1)]
                  go_wp2_with (go_at_call 42; refine (islarge_any _ _).mono ?_; rintro e w1 ⟨rfl, rfl⟩)
                  refine bodyPost_ret (v := .tuple #[zeroVec, .int .i64 3]) (by simp [results, Tryz.results26, go_sem, zeroVec, *]) rfl ?_
                  exact refused (unhide HE) (below_alloc (below_set4 (unhide HB0) (Nat.le_refl _) _ _ _ _) _)
                · have HQ := hide (none_step (p := fun y => largeB y.s) (unhide HN) (unhide HS) e1)
                  go_wp2_with (go_at_call 42; refine (islarge_any _ _).mono ?_; rintro e w1 ⟨rfl, rfl⟩)
                  go_roundw
                  case rel => exact ⟨j + 1, by omega, by go_num, HQ, below_alloc hb _⟩
                  case measure => simp [intOf]; omega
              · have e : j = xs.length := by omega
                have i1 : ¬ (j : Int) < (xs.length : Int) := by omega
                have HE : Hid (X = (laidV kind ys, 0)) := by
                  show _ = _
                  have hq : ys.any (fun y => largeB y.s) = false := any_none (by rw [unhide HYL, ← e]; exact unhide HN)
                  rw [← unhide HX, fromV, if_neg (by rw [hk]; simp), ← unhide HY, if_neg (by rw [unhide HP]; simp), if_neg (by rw [hq]; simp)]
                have HC : Hid (Calls Tryz.prog 43 #[.int .i64 kind, .slice (some ⟨w.heap.size + 1, 0, none⟩) xs.length xs.length] wr fun e w' => ∃ p, e = .returned (vecV (laidV kind ys) p) ∧ VecAt w' (laidV kind ys) p ∧ Own3 w' wr.heap.size (laidV kind ys) p ∧ Below wr.heap.size wr w') := by
                  have := laid_any (some ⟨w.heap.size + 1, 0, none⟩) xs.length kind ys wr (by rw [unhide HYL]; exact hl) (row_of_row hF (unhide HYL) hF')
                  rw [unhide HYL] at this
                  exact this
                have HB0 := hide hb0
                have HR := hide hr
                have n1 : w.heap.size < wr.heap.size := hr.lt
                clear hF hF' hr hb0 e r0 r1 r2 r3 f0 f1 f2 f3
                go_wp2_with (go_at_call 43; refine (unhide HC).mono ?_; rintro e w1 ⟨p, rfl, hv1, hp1, hb1⟩; rw [vecV_open]; obtain ⟨r0, r1, r2, r3, f0, f1, f2, f3⟩ := box_facts (rowIs_later (unhide HR) hb1))
                refine bodyPost_ret (v := .tuple #[vecV (laidV kind ys) p, .int .i64 0]) (by simp [results, Tryz.results26, go_sem, vecV, *]) rfl ?_
                rw [unhide HE]
                exact ⟨p, rfl, hv1.setO4 hp1.fresh n1 _ _ _ _, (hp1.setO4 n1 _ _ _ _).less (by omega), below_set4 (below_step (unhide HB0) hb1) (Nat.le_refl _) _ _ _ _⟩
end Go.Proofs.YtbdkpkpncmagoaaGreat

import Derived.Test.YtjnggnhgambmkaaGreatVecC
set_option linter.unusedSimpArgs false
set_option linter.unusedVariables false
namespace Go.Proofs.YtjnggnhgambmkaaGreat
open Go.RowKit Go.Sort

theorem wpList_make_rows {P : Program} (w : World) {ops : Array Oper} {rest : List Oper} {o : Oper} {a : Act} {Q : Exit → Act → World → Prop}
    (hg : o.guard = none) (l c : Operand) (t : TypeId) (hop : o.op = Op.makeSlice t l c)
    (e : TypeId) (i : TypeInfo) (z : Value) (ht : P.underlying t = some (.slice e)) (hi : P.info? e = some i) (hz : i.zero = some z) (size : Nat) (hsize : i.size = size)
    (kl kc : IntKind) (n : Nat) (hl : a.eval l = .int kl (n : Int)) (hc : a.eval c = .int kc (n : Int)) (hbytes : i.bytes * n ≤ 281474976710656) (h63 : n ≤ 9223372036854775807)
    (hK : wpList P ops Q rest (a.put o.dst (.slice (some ⟨w.heap.size, 0, none⟩) n n)) (w.alloc (.cells (madeCells z.cells (n * size)) e))) :
    wpList P ops Q (o :: rest) a w := by
  refine wpList_plain hg fun K hK' => ?_
  have hb' : (i.bytes : Int) * (n : Int) ≤ 281474976710656 := by
    have h : ((i.bytes * n : Nat) : Int) ≤ 281474976710656 := by omega
    rwa [Int.natCast_mul] at h
  have hrun := run_make (P := P) w t e i z ht hi hz kl kc n n (by omega) (Int.le_refl _) hb' (by omega)
  simp only [Int.toNat_natCast, hsize] at hrun
  unfold Oper.wp
  simp [execOp, hop, hl, hc, hrun, Result.andThen]
  exact hK' _ _ hK
theorem rowIs_any (w : World) (c : Array Value) (t : TypeId) : ∃ F, (w.alloc (.cells c t)).rowIs w.heap.size t c.size F :=
  ⟨fun i => (c[i]?).getD noS, World.rowIs_alloc w c t _ (fun i hi => by simp [hi])⟩

/-- What a row of values of the call's own holds up to k. -/
def Holds3 (F : Nat → Value) (k : Nat) (ys : List Val) : Prop := ∀ i x, i < k → ys[i]? = some x → F (i * 3) = .int .i64 x.k ∧ F (i * 3 + 1) = .int .i64 x.n ∧ F (i * 3 + 2) = .string x.s
theorem Holds3.zero (F : Nat → Value) (ys : List Val) : Holds3 F 0 ys := fun i x h => by omega
theorem Holds3.step {F : Nat → Value} {k : Nat} {ys : List Val} {y : Val} (h : Holds3 F k ys) (hv : ys[k]? = some y) :
    Holds3 (fun j => if j = k * 3 + 2 then .string y.s else if j = k * 3 + 1 then .int .i64 y.n else if j = k * 3 then .int .i64 y.k else F j) (k + 1) ys := by
  intro i x hi hx
  by_cases e : i = k
  · subst e; rw [hv] at hx; cases hx
    refine ⟨?_, ?_, ?_⟩ <;> simp
  · obtain ⟨h0, h1, h2⟩ := h i x (by omega) hx
    refine ⟨?_, ?_, ?_⟩
    · show (if i * 3 = k * 3 + 2 then _ else if i * 3 = k * 3 + 1 then _ else if i * 3 = k * 3 then _ else _) = _
      rw [if_neg (by omega), if_neg (by omega), if_neg (by omega), h0]
    · show (if i * 3 + 1 = k * 3 + 2 then _ else if i * 3 + 1 = k * 3 + 1 then _ else if i * 3 + 1 = k * 3 then _ else _) = _
      rw [if_neg (by omega), if_neg (by omega), if_neg (by omega), h1]
    · show (if i * 3 + 2 = k * 3 + 2 then _ else if i * 3 + 2 = k * 3 + 1 then _ else if i * 3 + 2 = k * 3 then _ else _) = _
      rw [if_neg (by omega), if_neg (by omega), if_neg (by omega), h2]
theorem row_of_row {w : World} {g t n : Nat} {F : Nat → Value} {ys : List Val} (h : w.rowIs g t (n * 3) F) (hl : ys.length = n) (hh : Holds3 F n ys) : RowAt w (some ⟨g, 0, none⟩) ys := by
  refine .inr ⟨g, 0, rfl, fun i x hx => ?_⟩
  have hi : i < n := by have := (List.getElem?_eq_some_iff.1 hx).1; omega
  obtain ⟨h0, h1, h2⟩ := hh i x hi hx
  simp only [Nat.zero_add]
  refine ⟨?_, ?_, ?_⟩
  · rw [h.cell (by omega), h0]
  · rw [h.cell (by omega), h1]
  · rw [h.cell (by omega), h2]

def badK (kind : Int) (y : Val) : Bool := y.k != 0 && y.k != kind
def fromV (kind : Int) (xs : List Val) : Vc × Int :=
  if kindB kind = false then (.zero, 1) else if (xs.map cleanV).any (badK kind) then (.zero, 4) else if (xs.map cleanV).any (fun y => largeB y.s) then (.zero, 3) else (laidV kind (xs.map cleanV), 0)

/-- What 'From' has cleaned in the first k places. -/
def FInv (w0 w : World) (n k : Nat) (ys : List Val) : Prop :=
  Below w0.heap.size w0 w ∧ w.rowIs w0.heap.size 29 4 (box4 (.int .i64 0) noS noS noS) ∧ (∃ F, w.rowIs (w0.heap.size + 1) 38 (n * 3) F ∧ Holds3 F k ys)
theorem FInv.start (w : World) (n : Nat) (ys : List Val) (z : Array Value) :
    FInv w ((w.alloc (.cells #[.int .i64 0, .slice none 0 0, .slice none 0 0, .slice none 0 0] 29)).alloc (.cells (madeCells z (n * 3)) 38)) n 0 ys := by
  refine ⟨by repeat (first | exact Below.refl _ _ | refine Below.alloc ?_ (by simp <;> omega) _), (World.rowIs_alloc w _ 29 _ (box4_arr _ _ _ _)).alloc _, ?_⟩
  obtain ⟨F, hF⟩ := rowIs_any (w.alloc (.cells #[.int .i64 0, .slice none 0 0, .slice none 0 0, .slice none 0 0] 29)) (madeCells z (n * 3)) 38
  rw [size_madeCells] at hF
  exact ⟨F, by simpa using hF, Holds3.zero _ _⟩
theorem FInv.step {w0 w : World} {n k : Nat} {ys : List Val} {y : Val} (h : FInv w0 w n k ys) (hy : ys[k]? = some y) :
    FInv w0 (((w.setCell ⟨w0.heap.size + 1, k * 3, none⟩ (.int .i64 y.k)).setCell ⟨w0.heap.size + 1, k * 3 + 1, none⟩ (.int .i64 y.n)).setCell ⟨w0.heap.size + 1, k * 3 + 2, none⟩ (.string y.s)) n (k + 1) ys := by
  obtain ⟨hb, hr, ⟨F, hF, hF'⟩⟩ := h
  refine ⟨((hb.setCell (by simp <;> omega) _).setCell (by simp <;> omega) _).setCell (by simp <;> omega) _, ?_, ⟨_, ?_, hF'.step hy⟩⟩
  · exact ((hr.setOther (by simp) _).setOther (by simp) _).setOther (by simp) _
  · exact ((hF.set _ _).set _ _).set _ _
theorem FInv.later {w0 w w' : World} {n k : Nat} {ys : List Val} (h : FInv w0 w n k ys) (hb' : Below w.heap.size w w') : FInv w0 w' n k ys := by
  obtain ⟨hb, hr, ⟨F, hF, hF'⟩⟩ := h
  exact ⟨below_step hb hb', hr.of_block (hb'.block _ hr.lt), F, hF.of_block (hb'.block _ hF.lt), hF'⟩
end Go.Proofs.YtjnggnhgambmkaaGreat
set_option linter.unusedSimpArgs false
set_option linter.unusedVariables false
namespace Go.Proofs.YtjnggnhgambmkaaGreat
open Go.RowKit Go.Sort

theorem any_hit {p : Val → Bool} {ys : List Val} {k : Nat} {y : Val} (h : ys[k]? = some y) (hp : p y = true) : ys.any p = true :=
  List.any_eq_true.2 ⟨y, List.mem_of_getElem? h, hp⟩
theorem any_none {p : Val → Bool} {ys : List Val} (h : ∀ i y, i < ys.length → ys[i]? = some y → p y = false) : ys.any p = false := by
  rw [List.any_eq_false]
  intro y hy
  obtain ⟨i, hi⟩ := List.mem_iff_getElem?.1 hy
  rw [h i y (List.getElem?_eq_some_iff.1 hi).1 hi]; simp
theorem none_step {p : Val → Bool} {ys : List Val} {k : Nat} {y : Val} (h : ∀ i y, i < k → ys[i]? = some y → p y = false) (hy : ys[k]? = some y) (hp : p y = false) : ∀ i y, i < k + 1 → ys[i]? = some y → p y = false := by
  intro i z hi hz
  by_cases e : i = k
  · subst e; rw [hy] at hz; cases hz; exact hp
  · exact h i z (by omega) hz

theorem three {w : World} {g t n k : Nat} {F : Nat → Value} (h : w.rowIs g t n F) (hk : k * 3 + 2 < n) :
    w.cell? ⟨g, k * 3, none⟩ = some (F (k * 3)) ∧ w.cell? ⟨g, k * 3 + 1, none⟩ = some (F (k * 3 + 1)) ∧ w.cell? ⟨g, k * 3 + 2, none⟩ = some (F (k * 3 + 2)) ∧
    w.frozen? ⟨g, k * 3, none⟩ = false ∧ w.frozen? ⟨g, k * 3 + 1, none⟩ = false ∧ w.frozen? ⟨g, k * 3 + 2, none⟩ = false :=
  ⟨h.cell (by omega), h.cell (by omega), h.cell (by omega), h.frozen _, h.frozen _, h.frozen _⟩
theorem rowIs_later {w w' : World} {g t n : Nat} {F : Nat → Value} (h : w.rowIs g t n F) (hb : Below w.heap.size w w') : w'.rowIs g t n F := h.of_block (hb.block _ h.lt)
theorem below_one {w w' : World} {o : Obj} (h : Below (w.alloc o).heap.size (w.alloc o) w') : Below w.heap.size w w' := below_step (below_alloc (Below.refl _ _) o) h

def zeroVec : Value := .agg #[.int .i64 0, .slice none 0 0, .slice none 0 0, .slice none 0 0]
/-- The end of a call that refuses. -/
theorem refused {w0 w' : World} {X : Vc × Int} {n : Int} (hX : X = (Vc.zero, n)) (hb : Below w0.heap.size w0 w') :
    ∃ p, Ending.returned (.tuple #[zeroVec, .int .i64 n]) = .returned (.tuple #[vecV X.1 p, .int .i64 X.2]) ∧ VecAt w' X.1 p ∧ Own3 w' w0.heap.size X.1 p ∧ Below w0.heap.size w0 w' := by
  subst hX
  exact ⟨⟨none, 0, none, 0, none, 0⟩, rfl, VecAt.zero _, Own3.zero _ _, hb⟩
theorem box_facts {w : World} {g : Nat} {a b c d : Value} (h : w.rowIs g 29 4 (box4 a b c d)) :
    w.cell? ⟨g, 0, none⟩ = some a ∧ w.cell? ⟨g, 1, none⟩ = some b ∧ w.cell? ⟨g, 2, none⟩ = some c ∧ w.cell? ⟨g, 3, none⟩ = some d ∧
    w.frozen? ⟨g, 0, none⟩ = false ∧ w.frozen? ⟨g, 1, none⟩ = false ∧ w.frozen? ⟨g, 2, none⟩ = false ∧ w.frozen? ⟨g, 3, none⟩ = false :=
  ⟨h.cell (by omega), h.cell (by omega), h.cell (by omega), h.cell (by omega), h.frozen _, h.frozen _, h.frozen _, h.frozen _⟩

set_option maxHeartbeats 4000000 in
theorem from_any (a : Option Addr) (c : Nat) (kind : Int) (xs : List Val) (w : World) (hl : xs.length * 32 ≤ 140737488355328) (ha : RowAt w a xs) :
    Calls Tryz.prog 5 #[.int .i64 kind, .slice a xs.length c] w fun e w' => ∃ p, e = .returned (.tuple #[vecV (fromV kind xs).1 p, .int .i64 (fromV kind xs).2]) ∧ VecAt w' (fromV kind xs).1 p ∧ Own3 w' w.heap.size (fromV kind xs).1 p ∧ Below w.heap.size w w' := by
  obtain ⟨i4, hi4, z40, z41, z42⟩ := info_parts Tryz.info38
  generalize hX : fromV kind xs = X
  have HX := hide hX
  clear hX
  have HA := hide ha
  clear ha
  obtain ⟨ys, hys⟩ : ∃ ys, ys = xs.map cleanV := ⟨_, rfl⟩
  have HY := hide hys
  have hyl : ys.length = xs.length := by rw [hys]; simp
  have HYL := hide hyl
  clear hys hyl
  rcases Bool.eq_false_or_eq_true (kindB kind) with hk | hk
  rotate_left
  · have HE : Hid (X = (Vc.zero, 1)) := by
      show _ = _
      rw [← unhide HX, fromV, if_pos hk]
    go_enter Tryz.func5, Tryz.ntmps5
    go_wp2_with (go_at_call 23; refine (iskind_any _ _).mono ?_; rintro e w1 ⟨rfl, rfl⟩)
    refine bodyPost_ret (v := .tuple #[zeroVec, .int .i64 1]) (by simp [results, Tryz.results5, go_sem, zeroVec, *]) rfl ?_
    exact refused (unhide HE) (by repeat (first | exact Below.refl _ _ | refine Below.alloc ?_ (by simp <;> omega) _ | refine Below.setCell ?_ (by simp <;> omega) _))
  · go_enter Tryz.func5, Tryz.ntmps5
    go_wp2_with (first
      | (go_at_call 23; refine (iskind_any _ _).mono ?_; rintro e w1 ⟨rfl, rfl⟩)
      | (at_make; refine wpList_make_rows _ rfl (.tmp 18) (.tmp 18) 22 rfl 38 i4 _ Tryz.underlying22 hi4 z40 3 z41 .i64 .i64 xs.length rfl rfl (by rw [z42]; omega) (by omega) ?_)
      | fail)
    go_loopw [22] (fun i wr => ∃ k : Nat, k ≤ xs.length ∧ i = .int .i64 k ∧ FInv w wr xs.length k ys) (fun i _ => xs.length - (intOf i).toNat)
    case atStart => exact ⟨0, Nat.zero_le _, rfl, FInv.start _ _ _ _⟩
    case round =>
      obtain ⟨k, hkl, rfl, hI⟩ := hrel
      have HI := hide hI
      obtain ⟨hb, hr, ⟨F, hF, hF'⟩⟩ := hI
      have ha' := (unhide HA).later hb
      have hz := hF.lt
      by_cases h1 : k < xs.length
      · obtain ⟨x, hx'⟩ : ∃ x, xs[k]? = some x := ⟨_, List.getElem?_eq_getElem h1⟩
        rcases ha' with e | ⟨ba, oa, rfl, hca⟩
        · subst e; simp at h1
        obtain ⟨c0, c1, c2⟩ := hca k x hx'
        have HS : Hid (ys[k]? = some (cleanV x)) := by show _ = _; rw [unhide HY]; simp [hx']
        have i1 : (k : Int) < (xs.length : Int) := by omega
        have HF := hide hF
        clear hca hx' hF hF' hr hb
        go_wp2_with (go_at_call 24; refine (clean_any x _).mono ?_; rintro e w1 ⟨rfl, hb1⟩; rw [Val.open_]; have hw1 := below_one hb1; clear hb1; obtain ⟨p0, p1, p2, q0, q1, q2⟩ := three (k := k) (rowIs_later (unhide HF) hw1) (by omega))
        go_roundw
        case rel => exact ⟨k + 1, by omega, by go_num, ((unhide HI).later hw1).step (unhide HS)⟩
        case measure => simp [intOf]; omega
      · have e : k = xs.length := by omega
        have i1 : ¬ (k : Int) < (xs.length : Int) := by omega
        have HI2 : Hid (FInv w wr xs.length xs.length ys) := by have := unhide HI; rw [e] at this; exact this
        clear hr hF hF' hb ha' HI e
        go_wp2
        obtain ⟨W1, rfl⟩ : ∃ W1, W1 = wr := ⟨_, rfl⟩
        clear hkl h1 F hz i1
        go_loopw [35] (fun i wr => ∃ j : Nat, j ≤ xs.length ∧ i = .int .i64 j ∧ Hid (∀ i y, i < j → ys[i]? = some y → badK kind y = false) ∧ Below W1.heap.size W1 wr) (fun i _ => xs.length - (intOf i).toNat)
        case atStart => exact ⟨0, Nat.zero_le _, rfl, fun i y h => by omega, Below.refl _ _⟩
        case round =>
          obtain ⟨j, hjl, rfl, HN, hb⟩ := hrel
          have hI := (unhide HI2).later hb
          have HI := hide hI
          obtain ⟨hb0, hr, ⟨F, hF, hF'⟩⟩ := hI
          obtain ⟨r0, r1, r2, r3, f0, f1, f2, f3⟩ := box_facts hr
          by_cases h1 : j < xs.length
          · obtain ⟨y, hy⟩ : ∃ y, ys[j]? = some y := ⟨_, List.getElem?_eq_getElem (by rw [unhide HYL]; exact h1)⟩
            have ha' := row_of_row hF (unhide HYL) hF'
            rcases ha' with e | ⟨ba, oa, e, hca⟩
            · rw [e] at hy; cases hy
            cases e
            obtain ⟨c0, c1, c2⟩ := hca j y hy
            rw [Nat.zero_add] at c0 c1 c2
            have i1 : (j : Int) < (xs.length : Int) := by omega
            have n1 : w.heap.size < wr.heap.size := hr.lt
            have HS := hide hy
            have HB0 := hide hb0
            clear hca hy hF hF' hr hb0
            rcases Bool.eq_false_or_eq_true (y.k != 0) with e1 | e1
            · rcases Bool.eq_false_or_eq_true (y.k != kind) with e2 | e2
              · have HE : Hid (X = (Vc.zero, 4)) := by
                  show _ = _
                  rw [← unhide HX, fromV, if_neg (by rw [hk]; simp), ← unhide HY, if_pos (any_hit (unhide HS) (by rw [badK, e1, e2]; rfl))]
                go_wp2
                refine bodyPost_ret (v := .tuple #[zeroVec, .int .i64 4]) (by simp [results, Tryz.results5, go_sem, zeroVec, *]) rfl ?_
                exact refused (unhide HE) (below_alloc (below_set4 (unhide HB0) (Nat.le_refl _) _ _ _ _) _)
              · have HP := hide (none_step (unhide HN) (unhide HS) (by rw [badK, e1, e2]; rfl))
                go_wp2
                go_roundw
                case rel => exact ⟨j + 1, by omega, by go_num, HP, below_alloc hb _⟩
                case measure => simp [intOf]; omega
            · have HP := hide (none_step (unhide HN) (unhide HS) (by rw [badK, e1]; rfl))
              go_wp2
              go_roundw
              case rel => exact ⟨j + 1, by omega, by go_num, HP, below_alloc hb _⟩
              case measure => simp [intOf]; omega
          · have e : j = xs.length := by omega
            have i1 : ¬ (j : Int) < (xs.length : Int) := by omega
            have HP : Hid (ys.any (badK kind) = false) := any_none (by rw [unhide HYL, ← e]; exact unhide HN)
            clear e
            go_wp2
            obtain ⟨W2, rfl⟩ : ∃ W2, W2 = wr := ⟨_, rfl⟩
            clear hjl h1 F hF hF' i1 hr hb0 r0 r1 r2 r3 f0 f1 f2 f3 HN HI2 hb
            go_loopw [52] (fun i wr => ∃ j : Nat, j ≤ xs.length ∧ i = .int .i64 j ∧ Hid (∀ i y, i < j → ys[i]? = some y → largeB y.s = false) ∧ Below W2.heap.size W2 wr) (fun i _ => xs.length - (intOf i).toNat)
            case atStart => exact ⟨0, Nat.zero_le _, rfl, fun i y h => by omega, Below.refl _ _⟩
            case round =>
              obtain ⟨j, hjl, rfl, HN, hb⟩ := hrel
              have hI := (unhide HI).later hb
              obtain ⟨hb0, hr, ⟨F, hF, hF'⟩⟩ := hI
              obtain ⟨r0, r1, r2, r3, f0, f1, f2, f3⟩ := box_facts hr
              by_cases h1 : j < xs.length
              · obtain ⟨y, hy⟩ : ∃ y, ys[j]? = some y := ⟨_, List.getElem?_eq_getElem (by rw [unhide HYL]; exact h1)⟩
                have ha' := row_of_row hF (unhide HYL) hF'
                rcases ha' with e | ⟨ba, oa, e, hca⟩
                · rw [e] at hy; cases hy
                cases e
                obtain ⟨c0, c1, c2⟩ := hca j y hy
                rw [Nat.zero_add] at c0 c1 c2
                have i1 : (j : Int) < (xs.length : Int) := by omega
                have n1 : w.heap.size < wr.heap.size := hr.lt
                have HS := hide hy
                have HB0 := hide hb0
                clear hca hy hF hF' hr hb0
                rcases Bool.eq_false_or_eq_true (largeB y.s) with e1 | e1
                · have HE : Hid (X = (Vc.zero, 3)) := by
                    show _ = _
                    rw [← unhide HX, fromV, if_neg (by rw [hk]; simp), ← unhide HY, if_neg (by rw [unhide HP]; simp), if_pos (any_hit (p := fun y => largeB y.s) (unhide HS) e1)]
                  go_wp2_with (go_at_call 25; refine (islarge_any _ _).mono ?_; rintro e w1 ⟨rfl, rfl⟩)
                  refine bodyPost_ret (v := .tuple #[zeroVec, .int .i64 3]) (by simp [results, Tryz.results5, go_sem, zeroVec, *]) rfl ?_
                  exact refused (unhide HE) (below_alloc (below_set4 (unhide HB0) (Nat.le_refl _) _ _ _ _) _)
                · have HQ := hide (none_step (p := fun y => largeB y.s) (unhide HN) (unhide HS) e1)
                  go_wp2_with (go_at_call 25; refine (islarge_any _ _).mono ?_; rintro e w1 ⟨rfl, rfl⟩)
                  go_roundw
                  case rel => exact ⟨j + 1, by omega, by go_num, HQ, below_alloc hb _⟩
                  case measure => simp [intOf]; omega
              · have e : j = xs.length := by omega
                have i1 : ¬ (j : Int) < (xs.length : Int) := by omega
                have HE : Hid (X = (laidV kind ys, 0)) := by
                  show _ = _
                  have hq : ys.any (fun y => largeB y.s) = false := any_none (by rw [unhide HYL, ← e]; exact unhide HN)
                  rw [← unhide HX, fromV, if_neg (by rw [hk]; simp), ← unhide HY, if_neg (by rw [unhide HP]; simp), if_neg (by rw [hq]; simp)]
                have HC : Hid (Calls Tryz.prog 26 #[.int .i64 kind, .slice (some ⟨w.heap.size + 1, 0, none⟩) xs.length xs.length] wr fun e w' => ∃ p, e = .returned (vecV (laidV kind ys) p) ∧ VecAt w' (laidV kind ys) p ∧ Own3 w' wr.heap.size (laidV kind ys) p ∧ Below wr.heap.size wr w') := by
                  have := laid_any (some ⟨w.heap.size + 1, 0, none⟩) xs.length kind ys wr (by rw [unhide HYL]; exact hl) (row_of_row hF (unhide HYL) hF')
                  rw [unhide HYL] at this
                  exact this
                have HB0 := hide hb0
                have HR := hide hr
                have n1 : w.heap.size < wr.heap.size := hr.lt
                clear hF hF' hr hb0 e r0 r1 r2 r3 f0 f1 f2 f3
                go_wp2_with (go_at_call 26; refine (unhide HC).mono ?_; rintro e w1 ⟨p, rfl, hv1, hp1, hb1⟩; rw [vecV_open]; obtain ⟨r0, r1, r2, r3, f0, f1, f2, f3⟩ := box_facts (rowIs_later (unhide HR) hb1))
                refine bodyPost_ret (v := .tuple #[vecV (laidV kind ys) p, .int .i64 0]) (by simp [results, Tryz.results5, go_sem, vecV, *]) rfl ?_
                rw [unhide HE]
                exact ⟨p, rfl, hv1.setO4 hp1.fresh n1 _ _ _ _, (hp1.setO4 n1 _ _ _ _).less (by omega), below_set4 (below_step (unhide HB0) hb1) (Nat.le_refl _) _ _ _ _⟩
end Go.Proofs.YtjnggnhgambmkaaGreat

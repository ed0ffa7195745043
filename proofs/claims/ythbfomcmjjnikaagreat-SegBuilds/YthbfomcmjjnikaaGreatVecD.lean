import Derived.Test.YthbfomcmjjnikaaGreatVecA
set_option linter.unusedSimpArgs false
set_option linter.unusedVariables false
namespace Go.Proofs.YthbfomcmjjnikaaGreat
open Go.RowKit Go.Sort

theorem wpList_make_rows {P : Program} (w : World) {ops : Array Oper} {rest : List Oper} {o : Oper} {a : Act} {Q : Exit → Act → World → Prop}
    (hg : o.guard = none) (l c : Operand) (t : TypeId) (hop : o.op = Op.makeSlice t l c)
    (e : TypeId) (i : TypeInfo) (z : Value) (ht : P.underlying t = some (.slice e)) (hi : P.info? e = some i) (hz : i.zero = some z) (size : Nat) (hsize : i.size = size)
    (kl kc : IntKind) (n : Nat) (hl : a.eval l = .int kl (n : Int)) (hc : a.eval c = .int kc (n : Int)) (hbytes : i.bytes * n ≤ 281474976710656) (h63 : n ≤ 9223372036854775807)
    (hK : wpList P ops Q rest (a.put o.dst (.slice (some ⟨w.heap.size, 0, none⟩) n n)) (w.alloc (.cells (madeCells z.cells (n * size)) e))) :
    wpList P ops Q (o :: rest) a w := by
  refine wpList_plain hg fun K hK' => ?_
  have hb' : (i.bytes : Int) * (n : Int) ≤ 281474976710656 := by
    have h : ((i.bytes * n : Nat) : Int) ≤ 281474976710656 := by omega
    rwa [Int.natCast_mul] at h
  have hrun := run_make (P := P) w t e i z ht hi hz kl kc n n (by omega) (Int.le_refl _) hb' (by omega)
  simp only [Int.toNat_natCast, hsize] at hrun
  unfold Oper.wp
  simp [execOp, hop, hl, hc, hrun, Result.andThen]
  exact hK' _ _ hK
theorem rowIs_any (w : World) (c : Array Value) (t : TypeId) : ∃ F, (w.alloc (.cells c t)).rowIs w.heap.size t c.size F :=
  ⟨fun i => (c[i]?).getD noS, World.rowIs_alloc w c t _ (fun i hi => by simp [hi])⟩

/-- What a row of values of the call's own holds up to k. -/
def Holds3 (F : Nat → Value) (k : Nat) (ys : List Val) : Prop := ∀ i x, i < k → ys[i]? = some x → F (i * 3) = .int .i64 x.k ∧ F (i * 3 + 1) = .int .i64 x.n ∧ F (i * 3 + 2) = .string x.s
theorem Holds3.zero (F : Nat → Value) (ys : List Val) : Holds3 F 0 ys := fun i x h => by omega
theorem Holds3.step {F : Nat → Value} {k : Nat} {ys : List Val} {y : Val} (h : Holds3 F k ys) (hv : ys[k]? = some y) :
    Holds3 (fun j => if j = k * 3 + 2 then .string y.s else if j = k * 3 + 1 then .int .i64 y.n else if j = k * 3 then .int .i64 y.k else F j) (k + 1) ys := by
  intro i x hi hx
  by_cases e : i = k
  · subst e; rw [hv] at hx; cases hx
    refine ⟨?_, ?_, ?_⟩ <;> simp
  · obtain ⟨h0, h1, h2⟩ := h i x (by omega) hx
    refine ⟨?_, ?_, ?_⟩
    · show (if i * 3 = k * 3 + 2 then _ else if i * 3 = k * 3 + 1 then _ else if i * 3 = k * 3 then _ else _) = _
      rw [if_neg (by omega), if_neg (by omega), if_neg (by omega), h0]
    · show (if i * 3 + 1 = k * 3 + 2 then _ else if i * 3 + 1 = k * 3 + 1 then _ else if i * 3 + 1 = k * 3 then _ else _) = _
      rw [if_neg (by omega), if_neg (by omega), if_neg (by omega), h1]
    · show (if i * 3 + 2 = k * 3 + 2 then _ else if i * 3 + 2 = k * 3 + 1 then _ else if i * 3 + 2 = k * 3 then _ else _) = _
      rw [if_neg (by omega), if_neg (by omega), if_neg (by omega), h2]
theorem row_of_row {w : World} {g t n : Nat} {F : Nat → Value} {ys : List Val} (h : w.rowIs g t (n * 3) F) (hl : ys.length = n) (hh : Holds3 F n ys) : RowAt w (some ⟨g, 0, none⟩) ys := by
  refine .inr ⟨g, 0, rfl, fun i x hx => ?_⟩
  have hi : i < n := by have := (List.getElem?_eq_some_iff.1 hx).1; omega
  obtain ⟨h0, h1, h2⟩ := hh i x hi hx
  simp only [Nat.zero_add]
  refine ⟨?_, ?_, ?_⟩
  · rw [h.cell (by omega), h0]
  · rw [h.cell (by omega), h1]
  · rw [h.cell (by omega), h2]

def badK (kind : Int) (y : Val) : Bool := y.k != 0 && y.k != kind
def fromV (kind : Int) (xs : List Val) : Vc × Int :=
  if kindB kind = false then (.zero, 1) else if (xs.map cleanV).any (badK kind) then (.zero, 4) else if (xs.map cleanV).any (fun y => largeB y.s) then (.zero, 3) else (laidV kind (xs.map cleanV), 0)

/-- What 'From' has cleaned in the first k places. -/
def FInv (w0 w : World) (n k : Nat) (ys : List Val) : Prop :=
  Below w0.heap.size w0 w ∧ w.rowIs w0.heap.size 49 4 (box4 (.int .i64 0) noS noS noS) ∧ (∃ F, w.rowIs (w0.heap.size + 1) 59 (n * 3) F ∧ Holds3 F k ys)
theorem FInv.start (w : World) (n : Nat) (ys : List Val) (z : Array Value) :
    FInv w ((w.alloc (.cells #[.int .i64 0, .slice none 0 0, .slice none 0 0, .slice none 0 0] 49)).alloc (.cells (madeCells z (n * 3)) 59)) n 0 ys := by
  refine ⟨by repeat (first | exact Below.refl _ _ | refine Below.alloc ?_ (by simp <;> omega) _), (World.rowIs_alloc w _ 49 _ (box4_arr _ _ _ _)).alloc _, ?_⟩
  obtain ⟨F, hF⟩ := rowIs_any (w.alloc (.cells #[.int .i64 0, .slice none 0 0, .slice none 0 0, .slice none 0 0] 49)) (madeCells z (n * 3)) 59
  rw [size_madeCells] at hF
  exact ⟨F, by simpa using hF, Holds3.zero _ _⟩
theorem FInv.step {w0 w : World} {n k : Nat} {ys : List Val} {y : Val} (h : FInv w0 w n k ys) (hy : ys[k]? = some y) :
    FInv w0 (((w.setCell ⟨w0.heap.size + 1, k * 3, none⟩ (.int .i64 y.k)).setCell ⟨w0.heap.size + 1, k * 3 + 1, none⟩ (.int .i64 y.n)).setCell ⟨w0.heap.size + 1, k * 3 + 2, none⟩ (.string y.s)) n (k + 1) ys := by
  obtain ⟨hb, hr, ⟨F, hF, hF'⟩⟩ := h
  refine ⟨((hb.setCell (by simp <;> omega) _).setCell (by simp <;> omega) _).setCell (by simp <;> omega) _, ?_, ⟨_, ?_, hF'.step hy⟩⟩
  · exact ((hr.setOther (by simp) _).setOther (by simp) _).setOther (by simp) _
  · exact ((hF.set _ _).set _ _).set _ _
theorem FInv.later {w0 w w' : World} {n k : Nat} {ys : List Val} (h : FInv w0 w n k ys) (hb' : Below w.heap.size w w') : FInv w0 w' n k ys := by
  obtain ⟨hb, hr, ⟨F, hF, hF'⟩⟩ := h
  exact ⟨below_step hb hb', hr.of_block (hb'.block _ hr.lt), F, hF.of_block (hb'.block _ hF.lt), hF'⟩
end Go.Proofs.YthbfomcmjjnikaaGreat
set_option linter.unusedSimpArgs false
set_option linter.unusedVariables false
namespace Go.Proofs.YthbfomcmjjnikaaGreat
open Go.RowKit Go.Sort

theorem any_hit {p : Val → Bool} {ys : List Val} {k : Nat} {y : Val} (h : ys[k]? = some y) (hp : p y = true) : ys.any p = true :=
  List.any_eq_true.2 ⟨y, List.mem_of_getElem? h, hp⟩
theorem any_none {p : Val → Bool} {ys : List Val} (h : ∀ i y, i < ys.length → ys[i]? = some y → p y = false) : ys.any p = false := by
  rw [List.any_eq_false]
  intro y hy
  obtain ⟨i, hi⟩ := List.mem_iff_getElem?.1 hy
  rw [h i y (List.getElem?_eq_some_iff.1 hi).1 hi]; simp
theorem none_step {p : Val → Bool} {ys : List Val} {k : Nat} {y : Val} (h : ∀ i y, i < k → ys[i]? = some y → p y = false) (hy : ys[k]? = some y) (hp : p y = false) : ∀ i y, i < k + 1 → ys[i]? = some y → p y = false := by
  intro i z hi hz
  by_cases e : i = k
  · subst e; rw [hy] at hz; cases hz; exact hp
  · exact h i z (by omega) hz

theorem three {w : World} {g t n k : Nat} {F : Nat → Value} (h : w.rowIs g t n F) (hk : k * 3 + 2 < n) :
    w.cell? ⟨g, k * 3, none⟩ = some (F (k * 3)) ∧ w.cell? ⟨g, k * 3 + 1, none⟩ = some (F (k * 3 + 1)) ∧ w.cell? ⟨g, k * 3 + 2, none⟩ = some (F (k * 3 + 2)) ∧
    w.frozen? ⟨g, k * 3, none⟩ = false ∧ w.frozen? ⟨g, k * 3 + 1, none⟩ = false ∧ w.frozen? ⟨g, k * 3 + 2, none⟩ = false :=
  ⟨h.cell (by omega), h.cell (by omega), h.cell (by omega), h.frozen _, h.frozen _, h.frozen _⟩
theorem rowIs_later {w w' : World} {g t n : Nat} {F : Nat → Value} (h : w.rowIs g t n F) (hb : Below w.heap.size w w') : w'.rowIs g t n F := h.of_block (hb.block _ h.lt)
theorem below_one {w w' : World} {o : Obj} (h : Below (w.alloc o).heap.size (w.alloc o) w') : Below w.heap.size w w' := below_step (below_alloc (Below.refl _ _) o) h

def zeroVec : Value := .agg #[.int .i64 0, .slice none 0 0, .slice none 0 0, .slice none 0 0]
/-- The end of a call that refuses. -/
theorem refused {w0 w' : World} {X : Vc × Int} {n : Int} (hX : X = (Vc.zero, n)) (hb : Below w0.heap.size w0 w') :
    ∃ p, Ending.returned (.tuple #[zeroVec, .int .i64 n]) = .returned (.tuple #[vecV X.1 p, .int .i64 X.2]) ∧ VecAt w' X.1 p ∧ Fresh w0.heap.size p ∧ Below w0.heap.size w0 w' := by
  subst hX
  exact ⟨⟨none, 0, none, 0, none, 0⟩, rfl, VecAt.zero _, ⟨by simp, by simp, by simp⟩, hb⟩
theorem box_facts {w : World} {g : Nat} {a b c d : Value} (h : w.rowIs g 49 4 (box4 a b c d)) :
    w.cell? ⟨g, 0, none⟩ = some a ∧ w.cell? ⟨g, 1, none⟩ = some b ∧ w.cell? ⟨g, 2, none⟩ = some c ∧ w.cell? ⟨g, 3, none⟩ = some d ∧
    w.frozen? ⟨g, 0, none⟩ = false ∧ w.frozen? ⟨g, 1, none⟩ = false ∧ w.frozen? ⟨g, 2, none⟩ = false ∧ w.frozen? ⟨g, 3, none⟩ = false :=
  ⟨h.cell (by omega), h.cell (by omega), h.cell (by omega), h.cell (by omega), h.frozen _, h.frozen _, h.frozen _, h.frozen _⟩

set_option maxHeartbeats 4000000 in
theorem from_any (a : Option Addr) (c : Nat) (kind : Int) (xs : List Val) (w : World) (hl : xs.length * 32 ≤ 140737488355328) (ha : RowAt w a xs) :
    Calls Tryz.prog 27 #[.int .i64 kind, .slice a xs.length c] w fun e w' => ∃ p, e = .returned (.tuple #[vecV (fromV kind xs).1 p, .int .i64 (fromV kind xs).2]) ∧ VecAt w' (fromV kind xs).1 p ∧ Fresh w.heap.size p ∧ Below w.heap.size w w' := by
  obtain ⟨i4, hi4, z40, z41, z42⟩ := info_parts Tryz.info59
  generalize hX : fromV kind xs = X
  have HX := hide hX
  clear hX
  have HA := hide ha
  clear ha
  obtain ⟨ys, hys⟩ : ∃ ys, ys = xs.map cleanV := ⟨_, rfl⟩
  have HY := hide hys
  have hyl : ys.length = xs.length := by rw [hys]; simp
  have HYL := hide hyl
  clear hys hyl
  rcases Bool.eq_false_or_eq_true (kindB kind) with hk | hk
  rotate_left
  · have HE : Hid (X = (Vc.zero, 1)) := by
      show _ = _
      rw [← unhide HX, fromV, if_pos hk]
    go_enter Tryz.func27, Tryz.ntmps27
    go_wp2_with (go_at_call 51; refine (iskind_any _ _).mono ?_; rintro e w1 ⟨rfl, rfl⟩)
    refine bodyPost_ret (v := .tuple #[zeroVec, .int .i64 1]) (by simp [results, Tryz.results27, go_sem, zeroVec, *]) rfl ?_
    exact refused (unhide HE) (by repeat (first | exact Below.refl _ _ | refine Below.alloc ?_ (by simp <;> omega) _ | refine Below.setCell ?_ (by simp <;> omega) _))
  · go_enter Tryz.func27, Tryz.ntmps27
    go_wp2_with (first
      | (go_at_call 51; refine (iskind_any _ _).mono ?_; rintro e w1 ⟨rfl, rfl⟩)
      | (at_make; refine wpList_make_rows _ rfl (.tmp 18) (.tmp 18) 37 rfl 59 i4 _ Tryz.underlying37 hi4 z40 3 z41 .i64 .i64 xs.length rfl rfl (by rw [z42]; omega) (by omega) ?_)
      | fail)
    go_loopw [22] (fun i wr => ∃ k : Nat, k ≤ xs.length ∧ i = .int .i64 k ∧ FInv w wr xs.length k ys) (fun i _ => xs.length - (intOf i).toNat)
    case atStart => exact ⟨0, Nat.zero_le _, rfl, FInv.start _ _ _ _⟩
    case round =>
      obtain ⟨k, hkl, rfl, hI⟩ := hrel
      have HI := hide hI
      obtain ⟨hb, hr, ⟨F, hF, hF'⟩⟩ := hI
      have ha' := (unhide HA).later hb
      have hz := hF.lt
      by_cases h1 : k < xs.length
      · obtain ⟨x, hx'⟩ : ∃ x, xs[k]? = some x := ⟨_, List.getElem?_eq_getElem h1⟩
        rcases ha' with e | ⟨ba, oa, rfl, hca⟩
        · subst e; simp at h1
        obtain ⟨c0, c1, c2⟩ := hca k x hx'
        have HS : Hid (ys[k]? = some (cleanV x)) := by show _ = _; rw [unhide HY]; simp [hx']
        have i1 : (k : Int) < (xs.length : Int) := by omega
        have HF := hide hF
        clear hca hx' hF hF' hr hb
        go_wp2_with (go_at_call 52; refine (clean_any x _).mono ?_; rintro e w1 ⟨rfl, hb1⟩; rw [Val.open_]; have hw1 := below_one hb1; clear hb1; obtain ⟨p0, p1, p2, q0, q1, q2⟩ := three (k := k) (rowIs_later (unhide HF) hw1) (by omega))
        go_roundw
        case rel => exact ⟨k + 1, by omega, by go_num, ((unhide HI).later hw1).step (unhide HS)⟩
        case measure => simp [intOf]; omega
      · have e : k = xs.length := by omega
        have i1 : ¬ (k : Int) < (xs.length : Int) := by omega
        have HI2 : Hid (FInv w wr xs.length xs.length ys) := by have := unhide HI; rw [e] at this; exact this
        clear hr hF hF' hb ha' HI e
        go_wp2
        obtain ⟨W1, rfl⟩ : ∃ W1, W1 = wr := ⟨_, rfl⟩
        clear hkl h1 F hz i1
        go_loopw [35] (fun i wr => ∃ j : Nat, j ≤ xs.length ∧ i = .int .i64 j ∧ Hid (∀ i y, i < j → ys[i]? = some y → badK kind y = false) ∧ Below W1.heap.size W1 wr) (fun i _ => xs.length - (intOf i).toNat)
        case atStart => exact ⟨0, Nat.zero_le _, rfl, fun i y h => by omega, Below.refl _ _⟩
        case round =>
          obtain ⟨j, hjl, rfl, HN, hb⟩ := hrel
          have hI := (unhide HI2).later hb
          have HI := hide hI
          obtain ⟨hb0, hr, ⟨F, hF, hF'⟩⟩ := hI
          obtain ⟨r0, r1, r2, r3, f0, f1, f2, f3⟩ := box_facts hr
          by_cases h1 : j < xs.length
          · obtain ⟨y, hy⟩ : ∃ y, ys[j]? = some y := ⟨_, List.getElem?_eq_getElem (by rw [unhide HYL]; exact h1)⟩
            have ha' := row_of_row hF (unhide HYL) hF'
            rcases ha' with e | ⟨ba, oa, e, hca⟩
            · rw [e] at hy; cases hy
            cases e
            obtain ⟨c0, c1, c2⟩ := hca j y hy
            rw [Nat.zero_add] at c0 c1 c2
            have i1 : (j : Int) < (xs.length : Int) := by omega
            have n1 : w.heap.size < wr.heap.size := hr.lt
            have HS := hide hy
            have HB0 := hide hb0
            clear hca hy hF hF' hr hb0
            rcases Bool.eq_false_or_eq_true (y.k != 0) with e1 | e1
            · rcases Bool.eq_false_or_eq_true (y.k != kind) with e2 | e2
              · have HE : Hid (X = (Vc.zero, 4)) := by
                  show _ = _
                  rw [← unhide HX, fromV, if_neg (by rw [hk]; simp), ← unhide HY, if_pos (any_hit (unhide HS) (by rw [badK, e1, e2]; rfl))]
                go_wp2
                refine bodyPost_ret (v := .tuple #[zeroVec, .int .i64 4]) (by simp [results, Tryz.results27, go_sem, zeroVec, *]) rfl ?_
                exact refused (unhide HE) (below_alloc (below_set4 (unhide HB0) (Nat.le_refl _) _ _ _ _) _)
              · have HP := hide (none_step (unhide HN) (unhide HS) (by rw [badK, e1, e2]; rfl))
                go_wp2
                go_roundw
                case rel => exact ⟨j + 1, by omega, by go_num, HP, below_alloc hb _⟩
                case measure => simp [intOf]; omega
            · have HP := hide (none_step (unhide HN) (unhide HS) (by rw [badK, e1]; rfl))
              go_wp2
              go_roundw
              case rel => exact ⟨j + 1, by omega, by go_num, HP, below_alloc hb _⟩
              case measure => simp [intOf]; omega
          · have e : j = xs.length := by omega
            have i1 : ¬ (j : Int) < (xs.length : Int) := by omega
            have HP : Hid (ys.any (badK kind) = false) := any_none (by rw [unhide HYL, ← e]; exact unhide HN)
            clear e
            go_wp2
            obtain ⟨W2, rfl⟩ : ∃ W2, W2 = wr := ⟨_, rfl⟩
            clear hjl h1 F hF hF' i1 hr hb0 r0 r1 r2 r3 f0 f1 f2 f3 HN HI2 hb
            go_loopw [52] (fun i wr => ∃ j : Nat, j ≤ xs.length ∧ i = .int .i64 j ∧ Hid (∀ i y, i < j → ys[i]? = some y → largeB y.s = false) ∧ Below W2.heap.size W2 wr) (fun i _ => xs.length - (intOf i).toNat)
            case atStart => exact ⟨0, Nat.zero_le _, rfl, fun i y h => by omega, Below.refl _ _⟩
            case round =>
              obtain ⟨j, hjl, rfl, HN, hb⟩ := hrel
              have hI := (unhide HI).later hb
              obtain ⟨hb0, hr, ⟨F, hF, hF'⟩⟩ := hI
              obtain ⟨r0, r1, r2, r3, f0, f1, f2, f3⟩ := box_facts hr
              by_cases h1 : j < xs.length
              · obtain ⟨y, hy⟩ : ∃ y, ys[j]? = some y := ⟨_, List.getElem?_eq_getElem (by rw [unhide HYL]; exact h1)⟩
                have ha' := row_of_row hF (unhide HYL) hF'
                rcases ha' with e | ⟨ba, oa, e, hca⟩
                · rw [e] at hy; cases hy
                cases e
                obtain ⟨c0, c1, c2⟩ := hca j y hy
                rw [Nat.zero_add] at c0 c1 c2
                have i1 : (j : Int) < (xs.length : Int) := by omega
                have n1 : w.heap.size < wr.heap.size := hr.lt
                have HS := hide hy
                have HB0 := hide hb0
                clear hca hy hF hF' hr hb0
                rcases Bool.eq_false_or_eq_true (largeB y.s) with e1 | e1
                · have HE : Hid (X = (Vc.zero, 3)) := by
                    show _ = _
                    rw [← unhide HX, fromV, if_neg (by rw [hk]; simp), ← unhide HY, if_neg (by rw [unhide HP]; simp), if_pos (any_hit (p := fun y => largeB y.s) (unhide HS) e1)]
                  go_wp2_with (go_at_call 53; refine (islarge_any _ _).mono ?_; rintro e w1 ⟨rfl, rfl⟩)
                  refine bodyPost_ret (v := .tuple #[zeroVec, .int .i64 3]) (by simp [results, Tryz.results27, go_sem, zeroVec, *]) rfl ?_
                  exact refused (unhide HE) (below_alloc (below_set4 (unhide HB0) (Nat.le_refl _) _ _ _ _) _)
                · have HQ := hide (none_step (p := fun y => largeB y.s) (unhide HN) (unhide HS) e1)
                  go_wp2_with (go_at_call 53; refine (islarge_any _ _).mono ?_; rintro e w1 ⟨rfl, rfl⟩)
                  go_roundw
                  case rel => exact ⟨j + 1, by omega, by go_num, HQ, below_alloc hb _⟩
                  case measure => simp [intOf]; omega
              · have e : j = xs.length := by omega
                have i1 : ¬ (j : Int) < (xs.length : Int) := by omega
                have HE : Hid (X = (laidV kind ys, 0)) := by
                  show _ = _
                  have hq : ys.any (fun y => largeB y.s) = false := any_none (by rw [unhide HYL, ← e]; exact unhide HN)
                  rw [← unhide HX, fromV, if_neg (by rw [hk]; simp), ← unhide HY, if_neg (by rw [unhide HP]; simp), if_neg (by rw [hq]; simp)]
                have HC : Hid (Calls Tryz.prog 54 #[.int .i64 kind, .slice (some ⟨w.heap.size + 1, 0, none⟩) xs.length xs.length] wr fun e w' => ∃ p, e = .returned (vecV (laidV kind ys) p) ∧ VecAt w' (laidV kind ys) p ∧ Fresh wr.heap.size p ∧ Below wr.heap.size wr w') := by
                  have := laid_any (some ⟨w.heap.size + 1, 0, none⟩) xs.length kind ys wr (by rw [unhide HYL]; exact hl) (row_of_row hF (unhide HYL) hF')
                  rw [unhide HYL] at this
                  exact this
                have HB0 := hide hb0
                have HR := hide hr
                have n1 : w.heap.size < wr.heap.size := hr.lt
                clear hF hF' hr hb0 e r0 r1 r2 r3 f0 f1 f2 f3
                go_wp2_with (go_at_call 54; refine (unhide HC).mono ?_; rintro e w1 ⟨p, rfl, hv1, hp1, hb1⟩; rw [vecV_open]; obtain ⟨r0, r1, r2, r3, f0, f1, f2, f3⟩ := box_facts (rowIs_later (unhide HR) hb1))
                refine bodyPost_ret (v := .tuple #[vecV (laidV kind ys) p, .int .i64 0]) (by simp [results, Tryz.results27, go_sem, vecV, *]) rfl ?_
                rw [unhide HE]
                exact ⟨p, rfl, hv1.setO4 hp1 n1 _ _ _ _, hp1.less (by omega), below_set4 (below_step (unhide HB0) hb1) (Nat.le_refl _) _ _ _ _⟩
end Go.Proofs.YthbfomcmjjnikaaGreat
set_option linter.unusedSimpArgs false
set_option linter.unusedVariables false
namespace Go.Proofs.YthbfomcmjjnikaaGreat
open Go.RowKit Go.Sort

theorem rowIs_grown {w w' : World} {g t n : Nat} {F : Nat → Value} {row : Option Nat} (h : w.rowIs g t n F) (hg : w.grownBy w' row) (hne : some g ≠ row) : w'.rowIs g t n F := h.of_block (hg.block _ h.lt hne)
theorem own_block {w : World} {base e size : Nat} {v : Value} {m : Nat} {xs : List Value} (h : w.ownsRow base e size v m xs) {g : Nat} (hg : v.ownBlock = some g) : ∃ cur, w.heap[g]? = some (.cells cur e (0, 0)) := by
  rcases h.2 with ⟨rfl, _⟩ | ⟨g', cap, cur, rfl, _, hh, _⟩
  · simp [Value.ownBlock] at hg
  · simp [Value.ownBlock] at hg; subst hg; exact ⟨cur, hh⟩
theorem own_ne {w : World} {g t n : Nat} {F : Nat → Value} {base e size : Nat} {v : Value} {m : Nat} {xs : List Value} (h : w.rowIs g t n F) (ho : w.ownsRow base e size v m xs) (hte : t ≠ e) : some g ≠ v.ownBlock := by
  intro hg
  obtain ⟨cur, hc⟩ := own_block ho hg.symm
  obtain ⟨c, hb, _⟩ := h
  rw [hc] at hb
  simp at hb
  exact hte hb.2.symm
theorem own_own {w : World} {base e size base' e' size' : Nat} {v v' : Value} {m m' : Nat} {xs xs' : List Value} (h : w.ownsRow base e size v m xs) (h' : w.ownsRow base' e' size' v' m' xs') (hne : e ≠ e') : v.ownBlock = none ∨ v.ownBlock ≠ v'.ownBlock := by
  cases hv : v.ownBlock with
  | none => exact .inl rfl
  | some g =>
    right
    intro hg
    obtain ⟨c, hc⟩ := own_block h hv
    obtain ⟨c', hc'⟩ := own_block h' hg.symm
    rw [hc] at hc'
    simp at hc'
    exact hne hc'.2
theorem grown_set (w : World) (g j : Nat) (u : Value) : w.grownBy (w.setCell ⟨g, j, none⟩ u) (some g) := by
  have := (Below.refl g w).setCell (p := ⟨g, j, none⟩) (Nat.le_refl _) u
  exact ⟨this.os, this.tape, this.output, this.size, fun k _ hne => Below.heap_setCell w _ u k (fun e => hne (by rw [e]))⟩
theorem own_set {w : World} {g t n j : Nat} {F : Nat → Value} {u : Value} {base e size : Nat} {v : Value} {m : Nat} {xs : List Value} (ho : w.ownsRow base e size v m xs) (h : w.rowIs g t n F) (hte : t ≠ e) : (w.setCell ⟨g, j, none⟩ u).ownsRow base e size v m xs :=
  ho.kept (grown_set w g j u) (by have := own_ne h ho hte; cases hv : v.ownBlock with | none => exact .inl rfl | some k => exact .inr (by rw [hv] at this; exact fun e => this e.symm))
theorem own_later {w w1 : World} {base e size : Nat} {v : Value} {m : Nat} {xs : List Value} (h : w.ownsRow base e size v m xs) (hb : Below w.heap.size w w1) : w1.ownsRow base e size v m xs :=
  h.kept (row := none) ⟨hb.os, hb.tape, hb.output, hb.size, fun k hk _ => hb.block k hk⟩ (by cases v.ownBlock with | none => exact .inl rfl | some g => exact .inr (by simp))
theorem grown_below {w w' : World} {row : Option Nat} (hg : w.grownBy w' row) {B : Nat} (hB : B ≤ w.heap.size) (hr : ∀ g, row = some g → B ≤ g) : Below B w w' :=
  ⟨hg.os, hg.tape, hg.output, hg.size, fun k hk => hg.block k (by omega) (fun e => by have := hr k e.symm; omega)⟩
theorem lis_of_own {w : World} {base e : Nat} {v : Value} {m : Nat} {xs : List Value} (h : w.ownsRow base e 1 v m xs) : ∃ a c, v = .slice a m c ∧ LisAt w a xs ∧ ∀ ad, a = some ad → base ≤ ad.block := by
  have hcell := @World.ownsRow.cells w base e 1 v m xs h
  have hl := h.1
  rcases h.2 with ⟨rfl, h0⟩ | ⟨g, cap, cur, rfl, hb, _⟩
  · subst h0
    have : xs = [] := List.eq_nil_of_length_eq_zero (by omega)
    exact ⟨none, 0, rfl, .inl this, by simp⟩
  · refine ⟨some ⟨g, 0, none⟩, cap, rfl, .inr ⟨g, 0, rfl, fun i x hx => ?_⟩, by intro ad e; cases e; exact hb⟩
    have := hcell (g := g) rfl i x hx
    rw [Addr.add_lit, Nat.zero_add] at this
    rw [Nat.zero_add]; exact this

def box3 (y : Val) : Nat → Value
  | 0 => .int .i64 y.k
  | 1 => .int .i64 y.n
  | _ => .string y.s
theorem box3_arr (y : Val) : ∀ i, i < #[Value.int .i64 y.k, .int .i64 y.n, .string y.s].size → #[Value.int .i64 y.k, .int .i64 y.n, .string y.s][i]? = some (box3 y i) := by
  intro i hi
  match i, hi with
  | 0, _ => rfl
  | 1, _ => rfl
  | 2, _ => rfl
theorem box3_alloc (w : World) (y : Val) : (w.alloc (.cells #[.int .i64 y.k, .int .i64 y.n, .string y.s] 59)).rowIs w.heap.size 59 3 (box3 y) := World.rowIs_alloc w _ 59 _ (box3_arr y)
theorem box3_facts {w : World} {g : Nat} {y : Val} (h : w.rowIs g 59 3 (box3 y)) :
    w.cell? ⟨g, 0, none⟩ = some (.int .i64 y.k) ∧ w.cell? ⟨g, 1, none⟩ = some (.int .i64 y.n) ∧ w.cell? ⟨g, 2, none⟩ = some (.string y.s) ∧
    w.frozen? ⟨g, 0, none⟩ = false ∧ w.frozen? ⟨g, 1, none⟩ = false ∧ w.frozen? ⟨g, 2, none⟩ = false :=
  ⟨h.cell (by omega), h.cell (by omega), h.cell (by omega), h.frozen _, h.frozen _, h.frozen _⟩
theorem box3_set {w : World} {g : Nat} {x y : Val} (h : w.rowIs g 59 3 (box3 x)) : (((w.setCell ⟨g, 0, none⟩ (.int .i64 y.k)).setCell ⟨g, 1, none⟩ (.int .i64 y.n)).setCell ⟨g, 2, none⟩ (.string y.s)).rowIs g 59 3 (box3 y) := by
  refine (((h.set 0 _).set 1 _).set 2 _).congr fun i hi => ?_
  match i, hi with
  | 0, _ => rfl
  | 1, _ => rfl
  | 2, _ => rfl

/-- The world of tallyref.From: its result's box, its column's box, the column's own lists (of the type t the second one). -/
structure TI (w0 w : World) (kind : Int) (s1 s2 s3 so : Value) (t : Nat) (c1 co : List Value) : Prop where
  below : Below w0.heap.size w0 w
  res : w.rowIs w0.heap.size 49 4 (box4 (.int .i64 0) noS noS noS)
  box : w.rowIs (w0.heap.size + 1) 49 4 (box4 (.int .i64 kind) s1 s2 s3)
  own1 : w.ownsRow (w0.heap.size + 1 + 1) 4 1 s1 c1.length c1
  own2 : w.ownsRow (w0.heap.size + 1 + 1) t 1 so co.length co
theorem TI.later {w0 w w' : World} {kind : Int} {s1 s2 s3 so : Value} {t : Nat} {c1 co : List Value} (h : TI w0 w kind s1 s2 s3 so t c1 co) (hb : Below w.heap.size w w') : TI w0 w' kind s1 s2 s3 so t c1 co :=
  ⟨below_step h.below hb, rowIs_later h.res hb, rowIs_later h.box hb, own_later h.own1 hb, own_later h.own2 hb⟩
theorem TI.set3 {w0 w : World} {kind : Int} {s1 s2 s3 so : Value} {t : Nat} {c1 co : List Value} {vb : Nat} {x : Val} (h : TI w0 w kind s1 s2 s3 so t c1 co) (hv : w.rowIs vb 59 3 (box3 x)) (ht : 59 ≠ t) (hl : w0.heap.size + 1 + 1 ≤ vb) (y : Val) :
    TI w0 (((w.setCell ⟨vb, 0, none⟩ (.int .i64 y.k)).setCell ⟨vb, 1, none⟩ (.int .i64 y.n)).setCell ⟨vb, 2, none⟩ (.string y.s)) kind s1 s2 s3 so t c1 co := by
  refine ⟨((h.below.setCell (by simp <;> omega) _).setCell (by simp <;> omega) _).setCell (by simp <;> omega) _, ?_, ?_, ?_, ?_⟩
  · exact ((h.res.setOther (by simp <;> omega) _).setOther (by simp <;> omega) _).setOther (by simp <;> omega) _
  · exact ((h.box.setOther (by simp <;> omega) _).setOther (by simp <;> omega) _).setOther (by simp <;> omega) _
  · exact own_set (own_set (own_set h.own1 hv (by decide)) (hv.set _ _) (by decide)) ((hv.set _ _).set _ _) (by decide)
  · exact own_set (own_set (own_set h.own2 hv ht) (hv.set _ _) ht) ((hv.set _ _).set _ _) ht
/-- Behind an append to the first list. -/
theorem TI.app1 {w0 w w1 : World} {kind : Int} {s1 s2 s3 so : Value} {t : Nat} {c1 co : List Value} {o : Obj} {v' x : Value} {vb : Nat} {y : Val} (h : TI w0 w kind s1 s2 s3 so t c1 co) (hv : w.rowIs vb 59 3 (box3 y)) (ht : t ≠ 4) (ht' : 49 ≠ t)
    (ho : w1.ownsRow (w0.heap.size + 1 + 1) 4 1 v' (c1.length + 1) (c1 ++ [x])) (hg : (w.alloc o).grownBy w1 s1.ownBlock) :
    TI w0 (w1.setCell ⟨w0.heap.size + 1, 1, none⟩ v') kind v' s2 s3 so t (c1 ++ [x]) co ∧ (w1.setCell ⟨w0.heap.size + 1, 1, none⟩ v').rowIs vb 59 3 (box3 y) ∧ (vb ≠ w0.heap.size + 1) := by
  have h' := h.later (below_alloc (Below.refl _ w) o)
  have hv' := hv.alloc o
  have hvb : vb ≠ w0.heap.size + 1 := by
    intro e
    obtain ⟨c, hc, _⟩ := hv
    obtain ⟨c', hc', _⟩ := h.box
    rw [e, hc'] at hc
    simp at hc
  have hb1 : w1.rowIs (w0.heap.size + 1) 49 4 (box4 (.int .i64 kind) s1 s2 s3) := rowIs_grown h'.box hg (own_ne h'.box h'.own1 (by decide))
  refine ⟨⟨?_, ?_, ?_, ?_, ?_⟩, ?_, hvb⟩
  · refine Below.setCell (h'.below.trans (grown_below hg h'.below.size fun g e => ?_)) (by simp) _
    have := h'.own1.lt g e; omega
  · exact (rowIs_grown h'.res hg (own_ne h'.res h'.own1 (by decide))).setOther (by simp) _
  · refine (hb1.set 1 v').congr fun i hi => ?_
    match i, hi with
    | 0, _ => rfl
    | 1, _ => rfl
    | 2, _ => rfl
    | 3, _ => rfl
  · have := own_set (u := v') (j := 1) ho hb1 (by decide)
    simpa using this
  · exact own_set (h'.own2.kept hg (own_own h'.own2 h'.own1 ht)) hb1 ht'
  · exact (rowIs_grown hv' hg (own_ne hv' h'.own1 (by decide))).setOther hvb _
/-- Behind an append to the numbers. -/
theorem TI.app2 {w0 w w1 : World} {kind : Int} {s1 s2 s3 : Value} {c1 co : List Value} {o : Obj} {v' x : Value} (h : TI w0 w kind s1 s2 s3 s2 2 c1 co)
    (ho : w1.ownsRow (w0.heap.size + 1 + 1) 2 1 v' (co.length + 1) (co ++ [x])) (hg : (w.alloc o).grownBy w1 (s2).ownBlock) :
    TI w0 (w1.setCell ⟨w0.heap.size + 1, 2, none⟩ v') kind s1 v' s3 v' 2 c1 (co ++ [x]) := by
  have h' := h.later (below_alloc (Below.refl _ w) o)
  have hb1 : w1.rowIs (w0.heap.size + 1) 49 4 (box4 (.int .i64 kind) s1 s2 s3) := rowIs_grown h'.box hg (own_ne h'.box h'.own2 (by decide))
  refine ⟨?_, ?_, ?_, ?_, ?_⟩
  · refine Below.setCell (h'.below.trans (grown_below hg h'.below.size fun g e => ?_)) (by simp) _
    have := h'.own2.lt g e; omega
  · exact (rowIs_grown h'.res hg (own_ne h'.res h'.own2 (by decide))).setOther (by simp) _
  · refine (hb1.set 2 v').congr fun i hi => ?_
    match i, hi with
    | 0, _ => rfl
    | 1, _ => rfl
    | 2, _ => rfl
    | 3, _ => rfl
  · exact own_set (h'.own1.kept hg (own_own h'.own1 h'.own2 (by decide))) hb1 (by decide)
  · have := own_set (u := v') (j := 2) ho hb1 (by decide)
    simpa using this
/-- Behind an append to the texts. -/
theorem TI.app3 {w0 w w1 : World} {kind : Int} {s1 s2 s3 : Value} {c1 co : List Value} {o : Obj} {v' x : Value} (h : TI w0 w kind s1 s2 s3 s3 9 c1 co)
    (ho : w1.ownsRow (w0.heap.size + 1 + 1) 9 1 v' (co.length + 1) (co ++ [x])) (hg : (w.alloc o).grownBy w1 (s3).ownBlock) :
    TI w0 (w1.setCell ⟨w0.heap.size + 1, 3, none⟩ v') kind s1 s2 v' v' 9 c1 (co ++ [x]) := by
  have h' := h.later (below_alloc (Below.refl _ w) o)
  have hb1 : w1.rowIs (w0.heap.size + 1) 49 4 (box4 (.int .i64 kind) s1 s2 s3) := rowIs_grown h'.box hg (own_ne h'.box h'.own2 (by decide))
  refine ⟨?_, ?_, ?_, ?_, ?_⟩
  · refine Below.setCell (h'.below.trans (grown_below hg h'.below.size fun g e => ?_)) (by simp) _
    have := h'.own2.lt g e; omega
  · exact (rowIs_grown h'.res hg (own_ne h'.res h'.own2 (by decide))).setOther (by simp) _
  · refine (hb1.set 3 v').congr fun i hi => ?_
    match i, hi with
    | 0, _ => rfl
    | 1, _ => rfl
    | 2, _ => rfl
    | 3, _ => rfl
  · exact own_set (h'.own1.kept hg (own_own h'.own1 h'.own2 (by decide))) hb1 (by decide)
  · have := own_set (u := v') (j := 3) ho hb1 (by decide)
    simpa using this
end Go.Proofs.YthbfomcmjjnikaaGreat

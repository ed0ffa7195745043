import Derived.Test.YtcbenpodohjbiaaGreatSpA
import Derived.Test.YtcbenpodohjbiaaGreatAnyG
set_option linter.unusedSimpArgs false
set_option linter.unusedVariables false
set_option maxRecDepth 100000
namespace Go.Proofs.YtcbenpodohjbiaaGreat
open Go.RowKit Go.Sort

set_option maxHeartbeats 2000000 in
/-- hold (157). -/
theorem hold_any {F : Nat → Prop} {b : Nat} {Y : Yv} {op : Option Nat} {w : World} (h : Py w b Y op F) (k : Int) (h0 : 0 ≤ Y.held + k) (h1 : Y.held + k ≤ 1099511627776) :
    Calls Tryz.prog 157 #[.pointer (some ⟨b, 0, none⟩), .int .i64 k] w fun e w' => e = .returned (.tuple #[]) ∧ Py w' b (Y.hold k) op F ∧ Ky (fun k => k = b) w w' := by
  obtain ⟨fb, vO, vR, vT, us, hB, hl⟩ := h
  have c0 := hB.c0
  have c1 := hB.c1
  have f0 := hB.fr 0
  have f1 := hB.fr 1
  have HB := hide hB
  have HL := hide hl
  clear hB hl
  obtain ⟨s, hs⟩ : ∃ s, Y.held + k = s := ⟨_, rfl⟩
  rw [hs] at h0 h1
  have hw : IntKind.i64.wrap (Y.held + k) = s := by rw [hs]; exact IntWalk.i64_in s (by omega)
  have HS := hide hs
  clear hs
  have h2 : ¬ s < 0 := by omega
  by_cases hm : s > Y.most
  · have HM := hide hm
    go_enter Tryz.func157, Tryz.ntmps157
    go_wp2
    go_region
    go_wp2
    go_end0
    have E := (((unhide HB).set_held s).drew.set_most s)
    have K := ((unhide HB).ky_held s).drew.trans (((unhide HB).set_held s).drew.ky_most s) (Nw.refl _ _)
    refine ⟨rfl, Py.upd fb (unhide HB) (unhide HL) K (Y' := Y.hold k) ?_ rfl rfl rfl, K⟩
    have e : Y.hold k = { Y with held := s, most := s } := by unfold Yv.hold; rw [unhide HS, if_pos (unhide HM)]
    rw [e]
    exact E
  · have HM := hide hm
    go_enter Tryz.func157, Tryz.ntmps157
    go_wp2
    go_region
    go_wp2
    go_end0
    have E := ((unhide HB).set_held s)
    have K := ((unhide HB).ky_held s)
    refine ⟨rfl, Py.upd fb (unhide HB) (unhide HL) K.drew (Y' := Y.hold k) ?_ rfl rfl rfl, K.drew⟩
    have e : Y.hold k = { Y with held := s } := by unfold Yv.hold; rw [unhide HS, if_neg (Int.not_lt.2 (unhide HM))]
    rw [e]
    exact E.drew

theorem wpList_make_rows {P : Program} (w : World) {ops : Array Oper} {rest : List Oper} {o : Oper} {a : Act} {Q : Exit → Act → World → Prop}
    (hg : o.guard = none) (l c : Operand) (t : TypeId) (hop : o.op = Op.makeSlice t l c)
    (e : TypeId) (i : TypeInfo) (z : Value) (ht : P.underlying t = some (.slice e)) (hi : P.info? e = some i) (hz : i.zero = some z) (size : Nat) (hsize : i.size = size)
    (kl kc : IntKind) (n : Nat) (hl : a.eval l = .int kl (n : Int)) (hc : a.eval c = .int kc (n : Int)) (hbytes : i.bytes * n ≤ 281474976710656) (h63 : n ≤ 9223372036854775807)
    (hK : wpList P ops Q rest (a.put o.dst (.slice (some ⟨w.heap.size, 0, none⟩) n n)) (w.alloc (.cells (madeCells z.cells (n * size)) e))) :
    wpList P ops Q (o :: rest) a w := by
  refine wpList_plain hg fun K hK' => ?_
  have hb' : (i.bytes : Int) * (n : Int) ≤ 281474976710656 := by
    have h : ((i.bytes * n : Nat) : Int) ≤ 281474976710656 := by omega
    rwa [Int.natCast_mul] at h
  have hrun := run_make (P := P) w t e i z ht hi hz kl kc n n (by omega) (Int.le_refl _) hb' (by omega)
  simp only [Int.toNat_natCast, hsize] at hrun
  unfold Oper.wp
  simp [execOp, hop, hl, hc, hrun, Result.andThen]
  exact hK' _ _ hK
theorem made_null (m : Nat) : (madeCells (Value.cells (.agg #[.int .i64 0, .int .i64 0, .string ⟨#[]⟩])) (m * 3)).toList = (List.replicate m Val.null).flatMap c3 := by
  apply List.ext_getElem?
  intro j
  by_cases hj : j < m * 3
  · have h1 : (List.replicate m Val.null)[j / 3]? = some Val.null := by rw [List.getElem?_replicate, if_pos (by omega)]
    have h2 := flat_at _ (j / 3) (j % 3) Val.null h1 (by omega)
    rw [show j / 3 * 3 + j % 3 = j by omega] at h2
    rw [h2]
    have h3 : j % 3 = 0 ∨ j % 3 = 1 ∨ j % 3 = 2 := by omega
    rcases h3 with h3 | h3 | h3 <;> simp [madeCells, hj, Value.cells, h3, c3, Val.null]
  · rw [List.getElem?_eq_none (by rw [Array.length_toList, size_madeCells]; omega), List.getElem?_eq_none (by rw [flat_len, List.length_replicate]; omega)]
theorem own_made (w : World) (base m : Nat) (hb : base ≤ w.heap.size) (hm : m ≤ 1048576) : OwnV (w.alloc (.cells (madeCells (Value.cells (.agg #[.int .i64 0, .int .i64 0, .string ⟨#[]⟩])) (m * 3)) 73)) base (.slice (some ⟨w.heap.size, 0, none⟩) m m) (List.replicate m Val.null) := by
  have h := World.ownsRow_lit (base := base) (e := 73) (size := 3) w (madeCells (Value.cells (.agg #[.int .i64 0, .int .i64 0, .string ⟨#[]⟩])) (m * 3)) m hb (by unfold maxLen; omega) (size_madeCells _ _)
  rw [made_null] at h
  unfold OwnV
  rw [List.length_replicate]
  exact h
theorem OwnV.three {w : World} {base g N cap k : Nat} {L : List Val} (h : OwnV w base (.slice (some ⟨g, 0, none⟩) N cap) L) (hk : k < N) : ∃ x : Val, w.cell? ⟨g, k * 3, none⟩ = some (.int .i64 x.k) ∧ w.cell? ⟨g, k * 3 + 1, none⟩ = some (.int .i64 x.n) ∧ w.cell? ⟨g, k * 3 + 2, none⟩ = some (.string x.s) ∧ w.frozen? ⟨g, k * 3, none⟩ = false ∧ w.frozen? ⟨g, k * 3 + 1, none⟩ = false ∧ w.frozen? ⟨g, k * 3 + 2, none⟩ = false := by
  have hN := h.len
  subst hN
  obtain ⟨a, c, e, hr⟩ := ownV_row h
  injection e with e1 _ e3
  subst e1
  obtain ⟨x, hx⟩ : ∃ x, L[k]? = some x := ⟨_, List.getElem?_eq_getElem hk⟩
  obtain ⟨b, off, e, h0, h1, h2⟩ := hr.lo hx
  injection e with e
  injection e with e4 e5
  subst e4 e5
  rw [Nat.zero_add] at h0 h1 h2
  exact ⟨x, h0, h1, h2, World.ownsRow.frozenAt h _, World.ownsRow.frozenAt h _, World.ownsRow.frozenAt h _⟩
/-- A row as it is filled: what is done up to k. -/
def Fil (w wr : World) (ys : List Val) (k : Nat) : Prop := ∃ L, L.length = ys.length ∧ OwnV wr w.heap.size (.slice (some ⟨w.heap.size, 0, none⟩) ys.length ys.length) L ∧ L.take k = ys.take k ∧ Below w.heap.size w wr
theorem Fil.start (w : World) (ys : List Val) (hm : ys.length ≤ 1048576) : Fil w (w.alloc (.cells (madeCells (Value.cells (.agg #[.int .i64 0, .int .i64 0, .string ⟨#[]⟩])) (ys.length * 3)) 73)) ys 0 :=
  ⟨_, List.length_replicate, own_made w _ _ (Nat.le_refl _) hm, by simp, below_alloc (Below.refl _ _) _⟩
theorem Fil.later {w wr w' : World} {ys : List Val} {k : Nat} (h : Fil w wr ys k) (hb : Below wr.heap.size wr w') : Fil w w' ys k := by
  obtain ⟨L, h1, h2, h3, h4⟩ := h
  exact ⟨L, h1, h2.later hb, h3, below_step h4 hb⟩
theorem take_set_next {α : Type} {L ys : List α} {k : Nat} {y : α} (h : L.take k = ys.take k) (hl : L.length = ys.length) (hy : ys[k]? = some y) : (L.set k y).take (k + 1) = ys.take (k + 1) := by
  have hk := (List.getElem?_eq_some_iff.1 hy).1
  rw [List.take_add_one, List.take_add_one, List.take_set_of_le (Nat.le_refl _), h, List.getElem?_set, if_pos rfl, if_pos (by omega), hy]
theorem Fil.step {w wr : World} {ys : List Val} {k : Nat} {y : Val} (h : Fil w wr ys k) (hy : ys[k]? = some y) : Fil w (((wr.setCell ⟨w.heap.size, k * 3, none⟩ (.int .i64 y.k)).setCell ⟨w.heap.size, k * 3 + 1, none⟩ (.int .i64 y.n)).setCell ⟨w.heap.size, k * 3 + 2, none⟩ (.string y.s)) ys (k + 1) := by
  obtain ⟨L, h1, h2, h3, h4⟩ := h
  have hk := (List.getElem?_eq_some_iff.1 hy).1
  exact ⟨L.set k y, by rw [List.length_set]; exact h1, h2.put (by omega) y, take_set_next h3 h1 hy, ((h4.setCell (Nat.le_refl _) _).setCell (Nat.le_refl _) _).setCell (Nat.le_refl _) _⟩
theorem Fil.done {w wr : World} {ys : List Val} (h : Fil w wr ys ys.length) : OwnV wr w.heap.size (.slice (some ⟨w.heap.size, 0, none⟩) ys.length ys.length) ys ∧ Below w.heap.size w wr := by
  obtain ⟨L, h1, h2, h3, h4⟩ := h
  rw [List.take_length, ← h1, List.take_length] at h3
  rw [h3] at h2
  exact ⟨h2, h4⟩
theorem ownV_Rw {w : World} {base : Nat} {v : Value} {zs : List Val} (h : OwnV w base v zs) (hl : zs.length ≤ 1048576) : Rw w v zs := by
  obtain ⟨a, c, e, hr⟩ := ownV_rowC h
  exact ⟨a, c, e, hr, hl⟩

set_option maxHeartbeats 2000000 in
/-- copied (159). -/
theorem copied_any (a : Option Addr) (c : Nat) (xs : List Val) (w : World) (hl : xs.length ≤ 1048576) (ha : RowAt w a xs) :
    Calls Tryz.prog 159 #[.slice a xs.length c] w fun e w' => ∃ v, e = .returned v ∧ Rw w' v xs ∧ Below w.heap.size w w' := by
  obtain ⟨i4, hi4, z40, z41, z42⟩ := info_parts info23
  have HA := hide ha
  have H0 := hide (Fil.start w xs hl)
  clear ha
  go_enter Tryz.func159, Tryz.ntmps159
  go_wp2_with (first
    | (at_make; refine wpList_make_rows _ rfl (.tmp 6) (.tmp 6) 70 rfl 73 i4 _ Tryz.underlying70 hi4 z40 3 z41 .i64 .i64 xs.length rfl rfl (by rw [z42]; omega) (by omega) ?_)
    | fail)
  go_loopw [4] (fun i wr => ∃ k : Nat, k ≤ xs.length ∧ i = .int .i64 k ∧ Hid (Fil w wr xs k)) (fun i _ => xs.length - (intOf i).toNat)
  case atStart => exact ⟨0, Nat.zero_le _, rfl, H0⟩
  case round =>
    obtain ⟨k, hk, rfl, HF⟩ := hrel
    by_cases h1 : k < xs.length
    · have i1 : (k : Int) < (xs.length : Int) := by omega
      obtain ⟨x, hx⟩ : ∃ x, xs[k]? = some x := ⟨_, List.getElem?_eq_getElem h1⟩
      obtain ⟨L, _, hO, _, hb⟩ := unhide HF
      obtain ⟨b, off, rfl, d0, d1, d2⟩ := ((unhide HA).later hb).lo hx
      obtain ⟨y, p0, p1, p2, q0, q1, q2⟩ := hO.three h1
      have HX := hide hx
      clear hO hb hx
      go_wp2
      go_roundw
      case rel => exact ⟨k + 1, by omega, by go_num, (unhide HF).step (unhide HX)⟩
      case measure => simp [intOf]; omega
    · have i1 : ¬ (k : Int) < (xs.length : Int) := by omega
      have e : k = xs.length := by omega
      subst e
      go_wp2
      go_ret
      obtain ⟨h2, h3⟩ := (unhide HF).done
      exact ⟨_, rfl, ownV_Rw h2 hl, h3⟩
end Go.Proofs.YtcbenpodohjbiaaGreat
set_option linter.unusedSimpArgs false
set_option linter.unusedVariables false
set_option maxRecDepth 100000
namespace Go.Proofs.YtcbenpodohjbiaaGreat
open Go.RowKit Go.Sort

set_option maxHeartbeats 2000000 in
/-- Let (152). -/
theorem let_any {F : Nat → Prop} {b : Nat} {Y : Yv} {op : Option Nat} {w : World} (h : Py w b Y op F) (k : Int) (hk : 0 < k) (h0 : 0 ≤ Y.held - k) (h1 : Y.held ≤ 1048576) :
    Calls Tryz.prog 152 #[.pointer (some ⟨b, 0, none⟩), .int .i64 k] w fun e w' => e = .returned (.tuple #[]) ∧ Py w' b (Y.hold (-k)) op F ∧ Ky (fun k => k = b) w w' := by
  have HH := hide (hold_any h (-k) (by omega) (by omega))
  have hne : (k == 0) = false := by simp; omega
  have e1 : IntKind.i64.wrap (-k) = -k := IntWalk.i64_in _ (by omega)
  clear h
  go_enter Tryz.func152, Tryz.ntmps152
  go_wp2_with (first | (go_at_call 157; refine (unhide HH).mono ?_; rintro _ w1 ⟨rfl, hP, hK⟩))
  go_end0
  exact ⟨rfl, hP, hK⟩
set_option maxHeartbeats 2000000 in
/-- Take (155), refused. -/
theorem take_hit {F : Nat → Prop} {b : Nat} {Y : Yv} {op : Option Nat} {w : World} (u : Value) (h : Py w b Y op F) (hr : Y.rd = false) (hh : Y.hit = true) (hc : Y.cd ≠ 0) :
    Calls Tryz.prog 155 #[.pointer (some ⟨b, 0, none⟩), u] w fun e w' => e = .returned (.int .i64 Y.cd) ∧ Py w' b Y.tick op F ∧ Ky (fun k => k = b) w w' := by
  have HC := hide (call_any h hr)
  rw [hh] at HC
  have h1 : (Y.cd != 0) = true := by simpa using hc
  clear h hc hr hh
  go_enter Tryz.func155, Tryz.ntmps155
  go_wp2_with (first | (go_at_call 158; refine (unhide HC).mono ?_; rintro _ w1 ⟨rfl, hP, hK⟩))
  go_ret
  exact ⟨rfl, hP, hK⟩
def Yv.push (Y : Yv) (r : List Val) : Yv := { Y with out := Y.out ++ [r] }
/-- What is taken stands behind the others. -/
theorem Py.push {F : Nat → Prop} {b : Nat} {Y : Yv} {op : Option Nat} {w w' : World} {vO vR vT v' : Value} {us : List Value} {r : List Val} (fb : F b) (hB : Bx w b Y vO vR vT) (hl : Ys w Y op F vO vR vT us) (hL : Lst w' v' (Y.out ++ [r])) (hg : Grew w w' vO v') (hK : Ky (fun k => vO.ownBlock = some k) w w') :
    ∃ F', Nw F F' w ∧ (∀ k, F k → F' k) ∧ Py (w'.setCell ⟨b, 3, none⟩ v') b (Y.push r) op F' ∧ Ky F w (w'.setCell ⟨b, 3, none⟩ v') := by
  have hbO : ¬ vO.ownBlock = some b := fun e => (hl.o.tg e).ne hB.tg (by decide) rfl
  have hB' := hB.ky hK hbO
  have hB2 := hB'.set_o v'
  have hK2 : Ky (fun k => k = b) w' (w'.setCell ⟨b, 3, none⟩ v') := hB'.ky_o v'
  have new : ∀ g, v'.ownBlock = some g → vO.ownBlock = some g ∨ w.heap.size ≤ g := fun g e => by
    rcases hg.2 with h | ⟨q, h, hq⟩
    · left; rw [← h]; exact e
    · right; rw [h] at e; injection e with e; omega
  have hbt : ∀ g t, Tg t w' g → t ≠ 44 → ¬ g = b := fun g t ht hn e => by subst e; exact ht.ne hB'.tg hn rfl
  refine ⟨fun k => F k ∨ v'.ownBlock = some k, fun k hk => ?_, fun k hk => .inl hk, ⟨.inl fb, v', vR, vT, us, ?_, ?_⟩, ?_⟩
  · rcases hk with hk | hk
    · exact .inl hk
    · rcases new k hk with h | h
      · exact .inl (hl.fo k h)
      · exact .inr h
  · exact ⟨hB2.tg, hB2.fr, hB2.c0, hB2.c1, hB2.c2, hB2.c3, hB2.c4, hB2.c5, hB2.c6, hB2.c7, hB2.c8, hB2.c9, hB2.c10⟩
  · refine ⟨hL.ky hK2 (fun g hg' => hbt g 70 (hL.tg hg') (by decide)), fun g hg' => .inr hg', ?_, fun g hg' => .inl (hl.fr g hg'), hl.l, ?_, fun g hg' => .inl (hl.ft g hg'), hl.lt, fun i u rs hu hrs => ?_, hl.d⟩
    · have h1 := own_ky hl.r hK (fun g hg' e => (own_tg hl.r hg').ne (hl.o.tg e) (by decide) rfl)
      exact own_ky h1 hK2 (fun g hg' => hbt g 22 (own_tg h1 hg') (by decide))
    · have h1 := own_ky hl.t hK (fun g hg' e => (own_tg hl.t hg').ne (hl.o.tg e) (by decide) rfl)
      exact own_ky h1 hK2 (fun g hg' => hbt g 4 (own_tg h1 hg') (by decide))
    · obtain ⟨h1, h2⟩ := hl.e i u rs hu hrs
      have n1 : ∀ g, u.ownBlock = some g → ¬ vO.ownBlock = some g := fun g hg' => (h2 g hg').2.1
      have t1 : ∀ g, u.ownBlock = some g → Tg 70 w' g := fun g hg' => hK.tg (h2 g hg').2.2 (n1 g hg')
      have n2 : ∀ g, u.ownBlock = some g → ¬ g = b := fun g hg' => hbt g 70 (t1 g hg') (by decide)
      refine ⟨?_, fun g hg' => ⟨.inl (h2 g hg').1, fun e => ?_, hK2.tg (t1 g hg') (n2 g hg')⟩⟩
      · split
        · rename_i e
          rw [if_pos e] at h1
          exact (h1.ky hK n1).ky hK2 n2
        · rename_i e
          rw [if_neg e] at h1
          exact (h1.ky hK n1).ky hK2 n2
      · rcases new g e with q | q
        · exact n1 g hg' q
        · have := (h2 g hg').2.2.lt; omega
  · exact (hK.mono fun k e => hl.fo k e).trans (hK2.mono fun k e => by subst e; exact fb) (Nw.refl _ _)

theorem Bx.later {w w' : World} {b : Nat} {Y : Yv} {vO vR vT : Value} (h : Bx w b Y vO vR vT) (hb : Below w.heap.size w w') : Bx w' b Y vO vR vT := h.ky (F := fun _ => False) (Ky.of_below hb) id
theorem Ys.later {w w' : World} {Y : Yv} {op : Option Nat} {F : Nat → Prop} {vO vR vT : Value} {us : List Value} (h : Ys w Y op F vO vR vT us) (hb : Below w.heap.size w w') : Ys w' Y op F vO vR vT us := h.ky (G := fun _ => False) (Ky.of_below hb) (fun _ => False.elim)
/-- append(l, row), where the row stands in a list of one that was made for it. -/
theorem op_push_lst {o : Oper} {a : Act} {w : World} {K : Act → World → Prop} {Q : Exit → Act → World → Prop} (s x : Operand) (ho : o.op = .call { callee := .builtin .append, args := #[s, x], argTypes := #[22, 22] })
    (v : Value) (rs : List (List Val)) (r : List Val) (hs : a.eval s = v) (hown : Lst w v rs) (t : Nat) (u : Value) (hx : a.eval x = .slice (some ⟨t, 0, none⟩) 1 1) (hy : w.cell? ⟨t, 0, none⟩ = some u) (hrw : Rw w u r) (hl : rs.length + 1 ≤ 4398046511104)
    (h : ∀ v' w', Lst w' v' (rs ++ [r]) → Grew w w' v v' → Ky (fun k => v.ownBlock = some k) w w' → K (a.put o.dst v') w') : o.wp Tryz.prog a w K Q := by
  obtain ⟨i4, hi4, z40, z41, z42⟩ := info_parts info52
  obtain ⟨us, h1, h2, h3⟩ := hown
  obtain ⟨v', w', hr, k1, k2, _, k4⟩ := run_append_own_at (P := Tryz.prog) w 0 22 o.type 70 i4 (.slice none 0 0) 1 24 Tryz.underlying22 hi4 z40 z41 z42 rfl (by decide) v rs.length us h2 ⟨t, 0, none⟩ 1 1 [u] rfl (fun j y hj => by
    match j, hj with
    | 0, hj => simp at hj; subst hj; simpa [Addr.add] using hy
    | j + 1, hj => simp at hj) (fun y hy => by simp at hy; subst hy; exact hrw.one) (by unfold maxLen; omega) (by omega) (Nat.zero_le _)
  unfold Oper.wp execOp
  simp only [ho, resolve, invoke, builtin, Sem.run_bind, Sem.run_pure, Result.andThen_ok, List.map_toArray, List.map_cons, List.map_nil, hs, hx, hr]
  have hky : Ky (fun k => v.ownBlock = some k) w w' := Ky.of_grown k2 (fun g e => e) (fun g t e hc q => (own_tg h2 e).ne q (by rintro rfl; revert hc; decide) rfl)
  refine h v' w' ⟨us ++ [u], by simp [h1], ?_, fun i y q hy hq => ?_⟩ ⟨k2, k4.imp id fun e => ⟨_, e, Nat.le_refl _⟩⟩ hky
  · rw [List.length_append]; exact k1
  · rcases list_app (vs := us) hy with hy | ⟨hi, rfl⟩
    · have hi : i < us.length := (List.getElem?_eq_some_iff.1 hy).1
      rw [List.getElem?_append_left (by omega)] at hq
      exact (h3 i y q hy hq).ky hky
    · rcases list_app (vs := rs) hq with hq | ⟨_, rfl⟩
      · have := (List.getElem?_eq_some_iff.1 hq).1; omega
      · exact hrw.ky hky

set_option maxHeartbeats 4000000 in
/-- Take (155). -/
theorem take_ok {F : Nat → Prop} {b : Nat} {Y : Yv} {op : Option Nat} {w : World} {u : Value} {r : List Val} (h : Py w b Y op F) (hu : Rw w u r) (ho : Y.out.length ≤ 1048576) (hr : Y.rd = false) (hh : Y.hit = false) :
    Calls Tryz.prog 155 #[.pointer (some ⟨b, 0, none⟩), u] w fun e w' => e = .returned (.int .i64 0) ∧ ∃ F', Nw F F' w ∧ (∀ k, F k → F' k) ∧ Py w' b (Y.tick.push r) op F' ∧ Ky F w w' := by
  obtain ⟨au, cu, rfl, hra, hrl⟩ := hu
  have HC := hide (call_any h hr)
  rw [hh] at HC
  have HR := hide hra
  have HFB := hide h.1
  clear h hr hh hra
  go_enter Tryz.func155, Tryz.ntmps155
  go_upto_region 4 with (first | (go_at_call 158; refine (unhide HC).mono ?_; rintro _ w1 ⟨rfl, ⟨fb, vO, vR, vT, us, hB, hl⟩, hK⟩; have c3 := hB.c3; have f3 := hB.fr 3; have HB := hide hB; have HL := hide hl; have HK := hide hK; clear hB hl hK))
  have HCp := hide (fun (w2 : World) (hb : Below w1.heap.size w1 w2) => copied_any au cu r w2 hrl ((unhide HR).ky (unhide HK) |>.at.later hb))
  have HLen : Hid (Y.tick.out.length + 1 ≤ 4398046511104) := by show Y.out.length + 1 ≤ _; omega
  have HS0 : Hid (Below w1.heap.size w1 w1.drew) := (Below.refl _ _).drew
  have HC0 : Hid (w1.drew.cell? ⟨b, 3, none⟩ = some vO) := clater c3 (unhide HS0)
  refine wp_region_noPanic ?_
  refine wp_region_G (S := fun W : World => W.cell? ⟨b, 3, none⟩ = some vO) (k := 11) (by kernel_rfl) ?_
  refine anyG_takel (i := 0) (v := (.pointer (some ⟨b, 0, none⟩))) [9, 10, 11] rfl (by kernel_rfl) (by kernel_rfl) (by kernel_rfl) (by kernel_rfl) (fun _ _ _ h => h) (Or.inl ⟨by rfl, fun w' hSw => ?_⟩) (unhide HC0) ?_
  · go_simp
  try simp only [Act.put, List.setIfInBounds_toArray, List.set_cons_zero, List.set_cons_succ]
  refine anyG_takel (i := 1) (v := (.pointer (some ⟨b, 0, none⟩))) [2, 3, 4, 8, 9, 10, 11] rfl (by kernel_rfl) (by kernel_rfl) (by kernel_rfl) (by kernel_rfl) (fun _ _ _ h => h) (Or.inl ⟨by rfl, fun w' hSw => ?_⟩) (unhide HC0) ?_
  · go_simp
  try simp only [Act.put, List.setIfInBounds_toArray, List.set_cons_zero, List.set_cons_succ]
  refine anyG_takel (i := 2) (v := (.pointer (some ⟨b, 0, none⟩))) [3, 4, 8, 9, 10, 11] rfl (by kernel_rfl) (by kernel_rfl) (by kernel_rfl) (by kernel_rfl) (fun _ _ _ h => h) (Or.inl ⟨by rfl, fun w' hSw => ?_⟩) (unhide HC0) ?_
  · go_simp
  try simp only [Act.put, List.setIfInBounds_toArray, List.set_cons_zero, List.set_cons_succ]
  refine anyG_takel (i := 3) (v := (.pointer (some ⟨b, 3, none⟩))) [4, 8, 9, 10, 11] rfl (by kernel_rfl) (by kernel_rfl) (by kernel_rfl) (by kernel_rfl) (fun _ _ _ h => h) (Or.inl ⟨by rfl, fun w' hSw => ?_⟩) (unhide HC0) ?_
  · go_simp
  try simp only [Act.put, List.setIfInBounds_toArray, List.set_cons_zero, List.set_cons_succ]
  refine anyG_takel (i := 4) (v := (vO)) [8, 9, 10, 11] rfl (by kernel_rfl) (by kernel_rfl) (by kernel_rfl) (by kernel_rfl) (fun _ _ _ h => h) (Or.inl ⟨by rfl, fun w' hSw => ?_⟩) (unhide HC0) ?_
  · go_simp
  try simp only [Act.put, List.setIfInBounds_toArray, List.set_cons_zero, List.set_cons_succ]
  refine anyG_takel (i := 5) (v := (.slice au r.length cu)) [6, 7, 8, 9, 10, 11] rfl (by kernel_rfl) (by kernel_rfl) (by kernel_rfl) (by kernel_rfl) (fun _ _ _ h => h) (Or.inl ⟨by rfl, fun w' hSw => ?_⟩) (unhide HC0) ?_
  · go_simp
  try simp only [Act.put, List.setIfInBounds_toArray, List.set_cons_zero, List.set_cons_succ]
  refine anyG_one (i := 6) (by kernel_rfl) ?_
  refine wpOp_lit rfl (by rfl) fun K' hK' => ?_
  go_simp
  refine (unhide HCp _ (unhide HS0)).mono ?_
  rintro _ w2 ⟨v2, rfl, ⟨a2, c2, rfl, hq2, _⟩, hb2⟩
  go_simp
  have HS2 := hide (below_step (unhide HS0) hb2)
  refine unhide hK' _ _ ⟨fun _ => (clater c3 (unhide HS2)), ?_⟩
  clear hK' K'
  try simp only [Act.put, List.setIfInBounds_toArray, List.set_cons_zero, List.set_cons_succ]
  refine anyG_one (i := 7) (by kernel_rfl) ?_
  refine wpOp_lit rfl (by rfl) fun K' hK' => ?_
  go_simp
  have HS3 := hide (below_alloc (unhide HS2) (.cells #[.slice a2 r.length c2] 70))
  refine unhide hK' _ _ ⟨fun _ => (clater c3 (unhide HS3)), ?_⟩
  clear hK' K'
  try simp only [Act.put, List.setIfInBounds_toArray, List.set_cons_zero, List.set_cons_succ]
  refine anyG_one (i := 8) (by kernel_rfl) ?_
  refine wpOp_lit rfl (by rfl) fun K' hK' => ?_
  refine op_push_lst (.tmp 15) (.tmp 18) rfl vO Y.tick.out r rfl ((unhide HL).o.later (unhide HS3)) w2.heap.size (.slice a2 r.length c2) rfl (by simp [go_sem]) ⟨a2, c2, rfl, hq2.later (below_alloc (Below.refl _ w2) _), hrl⟩ (unhide HLen) ?_
  intro v3 w3 hL3 hg3 hK3
  obtain ⟨a3, k3, e3⟩ := hL3.form
  rw [List.length_append] at e3
  change v3 = .slice a3 (Y.tick.out.length + 1) k3 at e3
  subst e3
  have HP3 := hide (Py.push fb ((unhide HB).later (unhide HS3)) ((unhide HL).later (unhide HS3)) hL3 hg3 hK3)
  have f33 : w3.frozen? ⟨b, 3, none⟩ = false := (((unhide HB).later (unhide HS3)).ky hK3 (fun e => ((unhide HL).o.tg e).ne (unhide HB).tg (by decide) rfl)).fr 3
  have c33 := (((unhide HB).later (unhide HS3)).ky hK3 (fun e => ((unhide HL).o.tg e).ne (unhide HB).tg (by decide) rfl)).c3
  clear hL3 hg3 hK3
  refine unhide hK' _ _ ⟨fun _ => c33, ?_⟩
  clear hK' K'
  try simp only [Act.put, List.setIfInBounds_toArray, List.set_cons_zero, List.set_cons_succ]
  refine anyG_one (i := 9) (by kernel_rfl) ?_
  refine wpOp_lit rfl (by rfl) fun K' hK' => ?_
  go_simp
  refine unhide hK' _ _ ⟨fun _ => c33, ?_⟩
  clear hK' K'
  try simp only [Act.put, List.setIfInBounds_toArray, List.set_cons_zero, List.set_cons_succ]
  refine anyG_one (i := 10) (by kernel_rfl) ?_
  refine wpOp_lit rfl (by rfl) fun K' hK' => ?_
  go_simp
  refine unhide hK' _ _ ⟨fun _ => c33, ?_⟩
  clear hK' K'
  try simp only [Act.put, List.setIfInBounds_toArray, List.set_cons_zero, List.set_cons_succ]
  refine anyG_one (i := 11) (by kernel_rfl) ?_
  refine wpOp_lit rfl (by rfl) fun K' hK' => ?_
  go_simp
  refine unhide hK' _ _ ⟨fun hh => absurd hh (by decide), ?_⟩
  clear hK' K'
  try simp only [Act.put, List.setIfInBounds_toArray, List.set_cons_zero, List.set_cons_succ]
  refine anyG_done (by kernel_rfl) ?_ _
  refine NoPanic.normal ?_
  go_wp2
  go_ret
  obtain ⟨F', h1, h2, h3, h4⟩ := unhide HP3
  exact ⟨rfl, F', fun k hk => (h1 k hk).imp id (fun h => by have := (unhide HK).size; have := (unhide HS3).size; omega), h2, h3, (((unhide HK).mono fun k e => by subst e; exact fb).trans (Ky.of_below (unhide HS3)) (Nw.refl _ _)).trans h4 (Nw.refl _ _)⟩
end Go.Proofs.YtcbenpodohjbiaaGreat
set_option linter.unusedSimpArgs false
set_option linter.unusedVariables false
set_option maxRecDepth 100000
namespace Go.Proofs.YtcbenpodohjbiaaGreat
open Go.RowKit Go.Sort

theorem own_ix {w : World} {base e : Nat} {v : Value} {n i : Nat} {xs : List Value} {u : Value} (h : w.ownsRow base e 1 v n xs) (hu : xs[i]? = some u) : ∃ g c, v = .slice (some ⟨g, 0, none⟩) n c ∧ w.cell? ⟨g, i, none⟩ = some u ∧ w.frozen? ⟨g, i, none⟩ = false ∧ i < n := by
  have hi : i < n := by have := (List.getElem?_eq_some_iff.1 hu).1; have := h.1; omega
  rcases h.2 with ⟨_, h0⟩ | ⟨g, cap, cur, rfl, _⟩
  · omega
  · exact ⟨g, cap, rfl, by rw [World.ownsRow.cellAt h i (by omega)]; exact hu, World.ownsRow.frozenAt h i, hi⟩
/-- The i-th run's slice. -/
theorem Ys.ix {w : World} {Y : Yv} {op : Option Nat} {F : Nat → Prop} {vO vR vT : Value} {us : List Value} (h : Ys w Y op F vO vR vT us) {i : Nat} {rs : List (List Val)} (hr : Y.runs[i]? = some rs) : ∃ u gR cR, us[i]? = some u ∧ vR = .slice (some ⟨gR, 0, none⟩) us.length cR ∧ w.cell? ⟨gR, i, none⟩ = some u ∧ w.frozen? ⟨gR, i, none⟩ = false ∧ i < us.length := by
  have hi : i < us.length := by rw [h.l]; exact (List.getElem?_eq_some_iff.1 hr).1
  have hu : us[i]? = some us[i] := List.getElem?_eq_getElem hi
  obtain ⟨g, c, e, h1, h2, _⟩ := own_ix h.r hu
  exact ⟨_, g, c, hu, e, h1, h2, hi⟩
theorem Ys.tx {w : World} {Y : Yv} {op : Option Nat} {F : Nat → Prop} {vO vR vT : Value} {us : List Value} (h : Ys w Y op F vO vR vT us) {i : Nat} {t : Bool} (hr : Y.there[i]? = some t) : ∃ gT cT, vT = .slice (some ⟨gT, 0, none⟩) Y.there.length cT ∧ w.cell? ⟨gT, i, none⟩ = some (.bool t) ∧ w.frozen? ⟨gT, i, none⟩ = false ∧ i < Y.there.length := by
  have hu : (Y.there.map Value.bool)[i]? = some (.bool t) := by rw [List.getElem?_map, hr]; rfl
  exact own_ix h.t hu

set_option maxHeartbeats 2000000 in
/-- is (156), of a run that is there. -/
theorem is_yes {F : Nat → Prop} {b : Nat} {Y : Yv} {op : Option Nat} {w : World} (h : Py w b Y op F) {i : Nat} (hi : Y.there[i]? = some true) (hn : Y.runs.length ≤ 1048576) :
    Calls Tryz.prog 156 #[.pointer (some ⟨b, 0, none⟩), .int .i64 i] w fun e w' => e = .returned (.bool true) ∧ w' = w := by
  obtain ⟨fb, vO, vR, vT, us, hB, hl⟩ := h
  obtain ⟨gT, cT, rfl, c1, _, ht⟩ := hl.tx hi
  have hlt : i < us.length := by rw [hl.l, ← hl.lt]; exact ht
  obtain ⟨aR, cR, e⟩ : ∃ aR cR, vR = .slice aR us.length cR := by
    rcases hl.r.2 with ⟨e, h0⟩ | ⟨g, cap, cur, e, _⟩
    · omega
    · exact ⟨_, _, e⟩
  subst e
  have c9 := hB.c9
  have c10 := hB.c10
  have i1 : ((us.length : Int) ≤ (i : Int)) = False := by simp; omega
  have i2 : (i : Int) < (Y.there.length : Int) := by omega
  have i3 : ((i : Int) < 0) = False := by simp
  have i4 : (i : Int) < (us.length : Int) := by omega
  clear hB hl
  go_enter Tryz.func156, Tryz.ntmps156
  go_wp2
  go_ret
  exact ⟨rfl, rfl⟩

/-- The i-th run is another one. -/
theorem Ys.put {F : Nat → Prop} {w w1 : World} {b : Nat} {Y : Yv} {op : Option Nat} {vO vT u u' : Value} {us : List Value} {i gR n cR : Nat} {rs' : List (List Val)} (hl : Ys w Y op F vO (.slice (some ⟨gR, 0, none⟩) n cR) vT us) (hn : n = us.length) (hu : us[i]? = some u) (hi : i < Y.runs.length) (hK : Ky (fun k => u.ownBlock = some k) w w1)
    (new : ∀ g, u'.ownBlock = some g → u.ownBlock = some g ∨ w.heap.size ≤ g) (hT : ∀ g, u'.ownBlock = some g → Tg 70 w1 g) (hv : if op = some i then Lst w1 u' rs' else RunV w1 u' rs') :
    ∃ F', Nw F F' w ∧ (∀ k, F k → F' k) ∧ Ys (w1.setCell ⟨gR, i, none⟩ u') { Y with runs := Y.runs.set i rs' } op F' vO (.slice (some ⟨gR, 0, none⟩) n cR) vT (us.set i u') ∧ Ky (fun k => u.ownBlock = some k ∨ k = gR) w (w1.setCell ⟨gR, i, none⟩ u') ∧ F gR ∧ Tg 22 w gR ∧ ∀ g, u.ownBlock = some g → F g ∧ Tg 70 w g := by
  subst hn
  obtain ⟨rs0, hr0⟩ : ∃ rs0, Y.runs[i]? = some rs0 := ⟨_, List.getElem?_eq_getElem hi⟩
  obtain ⟨_, hub⟩ := hl.e i u rs0 hu hr0
  have tR : Tg 22 w gR := own_tg hl.r rfl
  have nR : ¬ u.ownBlock = some gR := fun e => (hub gR e).2.2.ne tR (by decide) rfl
  have tR1 : Tg 22 w1 gR := hK.tg tR nR
  have hR1 := own_ky hl.r hK (fun g e q => by injection e with e; subst e; exact nR q)
  have hS := World.ownsRow.stored hR1 i u'
  have hK2 : Ky (fun k => k = gR) w1 (w1.setCell ⟨gR, i, none⟩ u') := (Ky.refl (fun k => k = gR) w1).set (F := fun k => k = gR) rfl tR1 (by decide) _ _
  have nO : ∀ g, vO.ownBlock = some g → ¬ u.ownBlock = some g := fun g e q => (hub g q).2.1 e
  have oO := hl.o.ky hK nO
  have oT := own_ky hl.t hK (fun g e q => (own_tg hl.t e).ne (hub g q).2.2 (by decide) rfl)
  have t22 : ∀ g t, Tg t w1 g → t ≠ 22 → ¬ g = gR := fun g t ht hn e => by subst e; exact ht.ne tR1 hn rfl
  refine ⟨fun k => F k ∨ u'.ownBlock = some k, fun k hk => ?_, fun k hk => .inl hk, ⟨oO.ky hK2 (fun g e => t22 g 70 (oO.tg e) (by decide)), fun g e => .inl (hl.fo g e), ?_, fun g e => .inl (hl.fr g e), by simp [hl.l], own_ky oT hK2 (fun g e => t22 g 4 (own_tg oT e) (by decide)), fun g e => .inl (hl.ft g e), by simp [hl.lt], ?_, ?_⟩, ?_, hl.fr gR rfl, tR, fun g e => ⟨(hub g e).1, (hub g e).2.2⟩⟩
  · rcases hk with hk | hk
    · exact .inl hk
    · rcases new k hk with q | q
      · exact .inl (hub k q).1
      · exact .inr q
  · have := hS.1
    rw [List.length_set]
    exact this
  · intro j x rs hx hr
    by_cases e : j = i
    · subst e
      rw [List.getElem?_set, if_pos rfl, if_pos (by rw [hl.l]; exact hi)] at hx
      injection hx with hx
      subst hx
      change (Y.runs.set j rs')[j]? = some rs at hr
      rw [List.getElem?_set, if_pos rfl, if_pos hi] at hr
      injection hr with hr
      subst hr
      have q := hT
      refine ⟨?_, fun g e => ⟨.inr e, fun e2 => ?_, hK2.tg (hT g e) (t22 g 70 (hT g e) (by decide))⟩⟩
      · split
        · rename_i e
          rw [if_pos e] at hv
          exact hv.ky hK2 (fun g e => t22 g 70 (hT g e) (by decide))
        · rename_i e
          rw [if_neg e] at hv
          exact hv.ky hK2 (fun g e => t22 g 70 (hT g e) (by decide))
      · rcases new g e with q | q
        · exact nO g e2 q
        · have := (hl.o.tg e2).lt; omega
    · rw [List.getElem?_set, if_neg (Ne.symm e)] at hx
      change (Y.runs.set i rs')[j]? = some rs at hr
      rw [List.getElem?_set, if_neg (Ne.symm e)] at hr
      obtain ⟨h1, h2⟩ := hl.e j x rs hx hr
      have n1 : ∀ g, x.ownBlock = some g → ¬ u.ownBlock = some g := fun g q => hl.d j i x u g e hx hu q
      have t1 : ∀ g, x.ownBlock = some g → Tg 70 w1 g := fun g q => hK.tg (h2 g q).2.2 (n1 g q)
      have n2 : ∀ g, x.ownBlock = some g → ¬ g = gR := fun g q => t22 g 70 (t1 g q) (by decide)
      refine ⟨?_, fun g q => ⟨.inl (h2 g q).1, (h2 g q).2.1, hK2.tg (t1 g q) (n2 g q)⟩⟩
      split
      · rename_i e
        rw [if_pos e] at h1
        exact (h1.ky hK n1).ky hK2 n2
      · rename_i e
        rw [if_neg e] at h1
        exact (h1.ky hK n1).ky hK2 n2
  · intro j k x y g hjk hx hy hg hg'
    by_cases ej : j = i
    · subst ej
      rw [List.getElem?_set, if_pos rfl, if_pos (by rw [hl.l]; exact hi)] at hx
      injection hx with hx
      subst hx
      rw [List.getElem?_set, if_neg hjk] at hy
      have hk : k < Y.runs.length := by rw [← hl.l]; exact (List.getElem?_eq_some_iff.1 hy).1
      rcases new g hg with q | q
      · exact hl.d j k u y g hjk hu hy q hg'
      · have := ((hl.e k y _ hy (List.getElem?_eq_getElem hk)).2 g hg').2.2.lt; omega
    · rw [List.getElem?_set, if_neg (Ne.symm ej)] at hx
      by_cases ek : k = i
      · subst ek
        rw [List.getElem?_set, if_pos rfl, if_pos (by rw [hl.l]; exact hi)] at hy
        injection hy with hy
        subst hy
        have hj : j < Y.runs.length := by rw [← hl.l]; exact (List.getElem?_eq_some_iff.1 hx).1
        rcases new g hg' with q | q
        · exact hl.d j k x u g ej hx hu hg q
        · have := ((hl.e j x _ hx (List.getElem?_eq_getElem hj)).2 g hg).2.2.lt; omega
      · rw [List.getElem?_set, if_neg (Ne.symm ek)] at hy
        exact hl.d j k x y g hjk hx hy hg hg'
  · exact (hK.mono fun k e => .inl e).trans (hK2.mono fun k e => .inr e) (Nw.refl _ _)
end Go.Proofs.YtcbenpodohjbiaaGreat
set_option linter.unusedSimpArgs false
set_option linter.unusedVariables false
set_option maxRecDepth 100000
namespace Go.Proofs.YtcbenpodohjbiaaGreat
open Go.RowKit Go.Sort

def Yv.drop (Y : Yv) (i : Nat) : Yv := { Y with there := Y.there.set i false, runs := Y.runs.set i [] }
theorem Ys.setT {F : Nat → Prop} {w : World} {Y : Yv} {op : Option Nat} {vO vR : Value} {us : List Value} {i gT n cT : Nat} (hl : Ys w Y op F vO vR (.slice (some ⟨gT, 0, none⟩) n cT) us) (hn : n = Y.there.length) (t : Bool) :
    Ys (w.setCell ⟨gT, i, none⟩ (.bool t)) { Y with there := Y.there.set i t } op F vO vR (.slice (some ⟨gT, 0, none⟩) n cT) us ∧ Ky (fun k => k = gT) w (w.setCell ⟨gT, i, none⟩ (.bool t)) ∧ F gT ∧ Tg 4 w gT := by
  subst hn
  have tT : Tg 4 w gT := own_tg hl.t rfl
  have hK : Ky (fun k => k = gT) w (w.setCell ⟨gT, i, none⟩ (.bool t)) := (Ky.refl (fun k => k = gT) w).set (F := fun k => k = gT) rfl tT (by decide) _ _
  have t4 : ∀ g t, Tg t w g → t ≠ 4 → ¬ g = gT := fun g t ht hn e => by subst e; exact ht.ne tT hn rfl
  have hS := World.ownsRow.stored hl.t i (.bool t)
  refine ⟨⟨hl.o.ky hK (fun g e => t4 g 70 (hl.o.tg e) (by decide)), hl.fo, own_ky hl.r hK (fun g e => t4 g 22 (own_tg hl.r e) (by decide)), hl.fr, hl.l, ?_, hl.ft, by simp [hl.lt], fun j x rs hx hr => ?_, hl.d⟩, hK, hl.ft gT rfl, tT⟩
  · have := hS.1
    show World.ownsRow _ 0 4 1 _ (Y.there.set i t).length ((Y.there.set i t).map Value.bool)
    rw [List.length_set, List.map_set]
    exact this
  · obtain ⟨h1, h2⟩ := hl.e j x rs hx hr
    have n1 : ∀ g, x.ownBlock = some g → ¬ g = gT := fun g q => t4 g 70 (h2 g q).2.2 (by decide)
    refine ⟨?_, fun g q => ⟨(h2 g q).1, (h2 g q).2.1, hK.tg (h2 g q).2.2 (n1 g q)⟩⟩
    split
    · rename_i e
      rw [if_pos e] at h1
      exact h1.ky hK n1
    · rename_i e
      rw [if_neg e] at h1
      exact h1.ky hK n1
set_option maxHeartbeats 2000000 in
/-- Drop (151), of a run that is there. -/
theorem drop_any {F : Nat → Prop} {b : Nat} {Y : Yv} {op : Option Nat} {w : World} (h : Py w b Y op F) {i : Nat} (hi : Y.there[i]? = some true) (hn : Y.runs.length ≤ 1048576) :
    Calls Tryz.prog 151 #[.pointer (some ⟨b, 0, none⟩), .int .i64 i] w fun e w' => e = .returned (.int .i64 0) ∧ ∃ F', Nw F F' w ∧ (∀ k, F k → F' k) ∧ Py w' b (Y.drop i) op F' ∧ Ky F w w' := by
  have HI := hide (is_yes h hi hn)
  obtain ⟨fb, vO, vR, vT, us, hB, hl⟩ := h
  obtain ⟨gT, cT, rfl, c1, f1, ht⟩ := hl.tx hi
  have hir : i < Y.runs.length := by rw [← hl.lt]; exact ht
  obtain ⟨u, gR, cR, hu, rfl, d1, g1, hlt⟩ := hl.ix (List.getElem?_eq_getElem hir)
  have c9 := hB.c9
  have c10 := hB.c10
  have i2 : (i : Int) < (Y.there.length : Int) := by omega
  have i4 : (i : Int) < (us.length : Int) := by omega
  have hT := hl.setT (i := i) rfl false
  have n1 : ¬ b = gT := fun e => by subst e; exact hB.tg.ne hT.2.2.2 (by decide) rfl
  have n2 : ¬ gR = gT := fun e => by subst e; exact (own_tg hl.r (g := gR) rfl).ne hT.2.2.2 (by decide) rfl
  have n1' : ¬ gT = b := fun e => n1 e.symm
  have n2' : ¬ gT = gR := fun e => n2 e.symm
  have e9 := hT.2.1.cell c9 n1
  have d2 := hT.2.1.cell d1 n2
  have g2 : (w.setCell ⟨gT, i, none⟩ (.bool false)).frozen? ⟨gR, i, none⟩ = false := (hT.2.1.frozen (World.block_lt_of_cell? _ _ d1) n2).trans g1
  have HPut := hide (Ys.put (b := b) (u' := .slice none 0 0) (rs' := []) hT.1 rfl hu hir (Ky.refl _ _) (fun g e => by cases e) (fun g e => by cases e) (by split; exact Lst.nil _; exact (Lst.nil _).run))
  have HB := hide hB
  have HT := hide hT
  clear hB hT hl d1 g1 c9
  obtain ⟨w1, hw1⟩ : ∃ w1, w.setCell ⟨gT, i, none⟩ (.bool false) = w1 := ⟨_, rfl⟩
  rw [hw1] at e9 d2 g2 HPut HT
  have nbR : ¬ b = gR := fun e => by subst e; exact ((unhide HT).2.1.tg (unhide HB).tg n1).ne (own_tg (unhide HT).1.r (g := b) rfl) (by decide) rfl
  go_enter Tryz.func151, Tryz.ntmps151
  go_wp2_with (first | (go_at_call 156; refine (unhide HI).mono ?_; rintro _ _ ⟨rfl, rfl⟩))
  go_ret
  obtain ⟨F', p1, p2, p3, p4, p5, p6, p7⟩ := unhide HPut
  have fT := (unhide HT).2.2.1
  refine ⟨rfl, F', fun k hk => (p1 k hk).imp id (fun q => by have := (unhide HT).2.1.size; omega), p2, ⟨p2 _ fb, vO, _, _, _, ?_, p3⟩, ?_⟩
  · have q := ((unhide HB).ky (unhide HT).2.1 n1).ky p4 (fun e => by
      rcases e with e | e
      · exact ((unhide HT).2.1.tg (unhide HB).tg n1).ne (p7 _ e).2 (by decide) rfl
      · exact nbR e)
    exact ⟨q.tg, q.fr, q.c0, q.c1, q.c2, q.c3, q.c4, q.c5, q.c6, q.c7, q.c8, q.c9, q.c10⟩
  · exact ((unhide HT).2.1.mono fun k e => by subst e; exact fT).trans (p4.mono fun k e => by rcases e with e | e; exact (p7 _ e).1; subst e; exact p5) (Nw.refl _ _)
end Go.Proofs.YtcbenpodohjbiaaGreat

import Derived.Test.YtfnacpkodfhfoadCellD
set_option linter.unusedSimpArgs false
set_option linter.unusedVariables false
namespace Go.Proofs.Ytfnacpkodfhfoad
open Go.RowKit Go.Sort

theorem rtrue_any (x : Val) (w : World) :
    Calls Try.prog 46 #[x.v] w fun e w' => e = .returned (.bool (trueB x)) ∧ Below w.heap.size w w' := by
  rw [x.open_]
  unfold trueB
  by_cases hk : (x.k == 1) = true
  · go_enter Try.func46, Try.ntmps46
    go_wp2
    go_ret
    exact ⟨by simp [hk], (Below.refl _ _).alloc (Nat.le_refl _) _⟩
  · have hk' : (x.k == 1) = false := by simpa using hk
    clear hk
    go_enter Try.func46, Try.ntmps46
    go_wp2
    go_ret
    exact ⟨by simp [hk'], (Below.refl _ _).alloc (Nat.le_refl _) _⟩

theorem notV_eq (x : Val) (h : (x.k == 1) = true) : notV x = truthV (x.n == 0) := by
  have h' : x.k = 1 := by simpa using h
  have : (!trueB x) = (x.n == 0) := by simp [trueB, h', bne]
  rw [notV, if_pos h', this]


def catV (a b : Val) : Val := if a.k == 2 && b.k == 2 && decide (a.s.size + b.s.size ≤ 1000) then .str (a.s ++ b.s) else .null

set_option maxHeartbeats 1000000 in
theorem cat_any (a b : Val) (w : World) (ha : a.s.size ≤ 140737488355328) (hb : b.s.size ≤ 140737488355328) :
    Calls Try.prog 89 #[a.v, b.v] w fun e w' => e = .returned (catV a b).v ∧ Below w.heap.size w w' := by
  rw [a.open_, b.open_]
  rcases Bool.eq_false_or_eq_true (a.k == 2) with ka | ka
  · have ka2 : (a.k != 2) = false := by simpa using ka
    rcases Bool.eq_false_or_eq_true (b.k == 2) with kb | kb
    · have kb2 : (b.k != 2) = false := by simpa using kb
      by_cases hs : a.s.size + b.s.size ≤ 1000
      · have e : catV a b = .str (a.s ++ b.s) := by simp [catV, ka, kb, hs]
        rw [e]
        have i1 : ¬ (1000 : Int) < (a.s.size : Int) + (b.s.size : Int) := by omega
        go_enter Try.func89, Try.ntmps89
        go_wp2_with (go_at_call 76; refine (text_any _ _).mono ?_; rintro e w2 ⟨rfl, hb2⟩; obtain ⟨hc2, hf2⟩ := bcell hb2; rw [Val.open_]; simp only [Val.str])
        refine bodyPost_ret (v := (Val.str (a.s ++ b.s)).v) (by simp [results, Try.results89, go_sem, Val.v, Val.str, hc2, hf2]) rfl ⟨rfl, ?_⟩
        (repeat (first | exact Below.refl _ _ | refine Below.alloc ?_ (by simp <;> omega) _ | refine Below.drew ?_ | refine Below.setCell ?_ (by simp <;> omega) _ | refine Below.trans ?_ (Below.mono (by assumption) (by first | omega | (simp; omega) | (simp; done)))))
      · have e : catV a b = .null := by simp [catV, ka, kb, hs]
        rw [e]
        have i1 : (1000 : Int) < (a.s.size : Int) + (b.s.size : Int) := by omega
        go_enter Try.func89, Try.ntmps89
        go_wp2
        refine bodyPost_ret (v := Val.null.v) (by simp [results, Try.results89, go_sem, Val.v, Val.null]) rfl ⟨rfl, ?_⟩
        (repeat (first | exact Below.refl _ _ | refine Below.alloc ?_ (by simp <;> omega) _ | refine Below.drew ?_ | refine Below.setCell ?_ (by simp <;> omega) _ | refine Below.trans ?_ (Below.mono (by assumption) (by first | omega | (simp; omega) | (simp; done)))))
    · have kb2 : (b.k != 2) = true := by simpa using kb
      have e : catV a b = .null := by simp [catV, ka, kb]
      rw [e]
      go_enter Try.func89, Try.ntmps89
      go_wp2
      refine bodyPost_ret (v := Val.null.v) (by simp [results, Try.results89, go_sem, Val.v, Val.null]) rfl ⟨rfl, ?_⟩
      (repeat (first | exact Below.refl _ _ | refine Below.alloc ?_ (by simp <;> omega) _ | refine Below.drew ?_ | refine Below.setCell ?_ (by simp <;> omega) _ | refine Below.trans ?_ (Below.mono (by assumption) (by first | omega | (simp; omega) | (simp; done)))))
  · have ka2 : (a.k != 2) = true := by simpa using ka
    have e : catV a b = .null := by simp [catV, ka]
    rw [e]
    go_enter Try.func89, Try.ntmps89
    go_wp2
    refine bodyPost_ret (v := Val.null.v) (by simp [results, Try.results89, go_sem, Val.v, Val.null]) rfl ⟨rfl, ?_⟩
    (repeat (first | exact Below.refl _ _ | refine Below.alloc ?_ (by simp <;> omega) _ | refine Below.drew ?_ | refine Below.setCell ?_ (by simp <;> omega) _ | refine Below.trans ?_ (Below.mono (by assumption) (by first | omega | (simp; omega) | (simp; done)))))

theorem cat_clean (a b : Val) : catV a b = if (cleanV a).k == 2 && (cleanV b).k == 2 && decide ((cleanV a).s.size + (cleanV b).s.size ≤ 1000) then .str ((cleanV a).s ++ (cleanV b).s) else .null := by
  unfold catV cleanV
  rcases Bool.eq_false_or_eq_true (a.k == 1) with a1 | a1 <;> rcases Bool.eq_false_or_eq_true (b.k == 1) with b1 | b1 <;> rcases Bool.eq_false_or_eq_true (a.k == 2) with a2 | a2 <;> rcases Bool.eq_false_or_eq_true (b.k == 2) with b2 | b2 <;> simp [a1, b1, a2, b2, Val.num, Val.str, Val.null]
  all_goals simp at a1 a2 b1 b2
  all_goals omega

theorem clean_size (x : Val) : (cleanV x).s.size ≤ x.s.size := by
  unfold cleanV
  split
  · show (⟨#[]⟩ : ByteArray).size ≤ _; exact Nat.zero_le _
  · split
    · exact Nat.le_refl _
    · show (⟨#[]⟩ : ByteArray).size ≤ _; exact Nat.zero_le _

/-- The box of a result, as an alloc leaves it. -/
def ZeroAt (w : World) (b : Nat) : Prop := w.cell? ⟨b, 0, none⟩ = some (.int .i64 0) ∧ w.cell? ⟨b, 1, none⟩ = some (.int .i64 0) ∧ w.cell? ⟨b, 2, none⟩ = some (.string ⟨#[]⟩) ∧ w.frozen? ⟨b, 0, none⟩ = false ∧ w.frozen? ⟨b, 1, none⟩ = false ∧ w.frozen? ⟨b, 2, none⟩ = false
theorem ZeroAt.later {w w1 : World} {b : Nat} (h : ZeroAt w b) (hb : Below w.heap.size w w1) : ZeroAt w1 b := by
  obtain ⟨h0, h1, h2, f0, f1, f2⟩ := h
  obtain ⟨hc, hf⟩ := bcell hb
  have hl : b < w.heap.size := World.block_lt_of_cell? w _ h0
  unfold ZeroAt
  rw [hc _ _ hl, hc _ _ hl, hc _ _ hl, hf _ _ hl, hf _ _ hl, hf _ _ hl]
  exact ⟨h0, h1, h2, f0, f1, f2⟩
abbrev Zero23 : Obj := .cells #[.int .i64 0, .int .i64 0, .string ⟨#[]⟩] 23
def boxes3 (w : World) (a b : Val) : World := (boxes w a b).alloc Zero23
theorem boxes3_size (w : World) (a b : Val) : (boxes3 w a b).heap.size = w.heap.size + 1 + 1 + 1 := by simp [boxes3, boxes_size]
theorem boxes3_drew (w : World) (a b : Val) : Below (boxes3 w a b).heap.size (boxes3 w a b) (boxes3 w a b).drew := (Below.refl _ _).drew
theorem boxes3_facts {w w' : World} {a b : Val} (h : Below (boxes3 w a b).heap.size (boxes3 w a b) w') :
    BoxAt w' w.heap.size a ∧ BoxAt w' (w.heap.size + 1) b ∧ FreeAt w' w.heap.size ∧ FreeAt w' (w.heap.size + 1) ∧ ZeroAt w' (w.heap.size + 1 + 1) ∧ w.heap.size + 1 + 1 < w'.heap.size := by
  have hs := h.size
  rw [boxes3_size] at hs
  obtain ⟨hc, hf⟩ := bcell h
  refine ⟨⟨?_, ?_, ?_⟩, ⟨?_, ?_, ?_⟩, ⟨?_, ?_, ?_⟩, ⟨?_, ?_, ?_⟩, ⟨?_, ?_, ?_, ?_, ?_, ?_⟩, by omega⟩
  all_goals first | (rw [hc _ _ (by rw [boxes3_size]; omega)]; simp [boxes3, boxes, go_sem]; done) | (rw [hf _ _ (by rw [boxes3_size]; omega)]; simp [boxes3, boxes, go_sem]; done)
theorem boxes3_below {w w' : World} {a b : Val} (h : Below (boxes3 w a b).heap.size (boxes3 w a b) w') : Below w.heap.size w w' :=
  ((((Below.refl _ _).alloc (Nat.le_refl _) _).alloc (by simp) _).alloc (by simp; omega) _).trans (h.mono (by rw [boxes3_size]; omega))
theorem put_two3 {w w2 : World} {a b : Val} (ca cb : Val) (h : Below (boxes3 w a b).heap.size (boxes3 w a b) w2) :
    BoxAt ((((((w2.setCell ⟨w.heap.size, 0, none⟩ (.int .i64 ca.k)).setCell ⟨w.heap.size, 1, none⟩ (.int .i64 ca.n)).setCell ⟨w.heap.size, 2, none⟩ (.string ca.s)).setCell ⟨w.heap.size + 1, 0, none⟩ (.int .i64 cb.k)).setCell ⟨w.heap.size + 1, 1, none⟩ (.int .i64 cb.n)).setCell ⟨w.heap.size + 1, 2, none⟩ (.string cb.s)) w.heap.size ca ∧
    BoxAt ((((((w2.setCell ⟨w.heap.size, 0, none⟩ (.int .i64 ca.k)).setCell ⟨w.heap.size, 1, none⟩ (.int .i64 ca.n)).setCell ⟨w.heap.size, 2, none⟩ (.string ca.s)).setCell ⟨w.heap.size + 1, 0, none⟩ (.int .i64 cb.k)).setCell ⟨w.heap.size + 1, 1, none⟩ (.int .i64 cb.n)).setCell ⟨w.heap.size + 1, 2, none⟩ (.string cb.s)) (w.heap.size + 1) cb ∧
    ZeroAt ((((((w2.setCell ⟨w.heap.size, 0, none⟩ (.int .i64 ca.k)).setCell ⟨w.heap.size, 1, none⟩ (.int .i64 ca.n)).setCell ⟨w.heap.size, 2, none⟩ (.string ca.s)).setCell ⟨w.heap.size + 1, 0, none⟩ (.int .i64 cb.k)).setCell ⟨w.heap.size + 1, 1, none⟩ (.int .i64 cb.n)).setCell ⟨w.heap.size + 1, 2, none⟩ (.string cb.s)) (w.heap.size + 1 + 1) ∧
    Below w.heap.size w ((((((w2.setCell ⟨w.heap.size, 0, none⟩ (.int .i64 ca.k)).setCell ⟨w.heap.size, 1, none⟩ (.int .i64 ca.n)).setCell ⟨w.heap.size, 2, none⟩ (.string ca.s)).setCell ⟨w.heap.size + 1, 0, none⟩ (.int .i64 cb.k)).setCell ⟨w.heap.size + 1, 1, none⟩ (.int .i64 cb.n)).setCell ⟨w.heap.size + 1, 2, none⟩ (.string cb.s)) := by
  obtain ⟨⟨a0, a1, a2⟩, ⟨b0, b1, b2⟩, ⟨f0, f1, f2⟩, ⟨g0, g1, g2⟩, ⟨z0, z1, z2, z3, z4, z5⟩, hz⟩ := boxes3_facts h
  refine ⟨⟨by simp [go_sem, *], by simp [go_sem, *], by simp [go_sem, *]⟩, ⟨by simp [go_sem, *], by simp [go_sem, *], by simp [go_sem, *]⟩, ⟨by simp [go_sem, *], by simp [go_sem, *], by simp [go_sem, *], by simp [go_sem, *], by simp [go_sem, *], by simp [go_sem, *]⟩, ?_⟩
  exact ((((((boxes3_below h).setCell (by simp) _).setCell (by simp) _).setCell (by simp) _).setCell (by simp) _).setCell (by simp) _).setCell (by simp) _

end Go.Proofs.Ytfnacpkodfhfoad

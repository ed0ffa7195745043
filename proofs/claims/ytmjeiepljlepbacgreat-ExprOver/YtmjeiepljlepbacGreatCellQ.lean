import Derived.Test.YtmjeiepljlepbacGreatCellC
set_option linter.unusedSimpArgs false
set_option linter.unusedVariables false
namespace Go.Proofs.YtmjeiepljlepbacGreat
open Go.RowKit Go.Sort

set_option maxHeartbeats 400000 in
theorem rtruth_any (b : Bool) (w : World) :
    Calls Tryz.prog 107 #[.bool b] w fun e w' => e = .returned (truthV b).v ∧ Below w.heap.size w w' := by
  cases b <;>
  · go_enter Tryz.func107, Tryz.ntmps107
    go_wp2_with (go_at_call 105; refine (rnum_any _ _).mono ?_; rintro e w1 ⟨rfl, hb1⟩; obtain ⟨hc1, hf1⟩ := bcell hb1; rw [Val.open_])
    refine bodyPost_ret (v := (truthV _).v) (by simp [results, Tryz.results107, go_sem, truthV, Val.v, Val.num, hc1, hf1]) rfl ⟨rfl, ?_⟩
    exact ((((((Below.refl _ _).alloc (Nat.le_refl _) _).trans (hb1.mono (by simp))).setCell (by simp) _).setCell (by simp) _).setCell (by simp) _)

theorem rtrue_any (x : Val) (w : World) :
    Calls Tryz.prog 111 #[x.v] w fun e w' => e = .returned (.bool (trueB x)) ∧ Below w.heap.size w w' := by
  rw [x.open_]
  unfold trueB
  by_cases hk : (x.k == 1) = true
  · go_enter Tryz.func111, Tryz.ntmps111
    go_wp2
    go_ret
    exact ⟨by simp [hk], (Below.refl _ _).alloc (Nat.le_refl _) _⟩
  · have hk' : (x.k == 1) = false := by simpa using hk
    clear hk
    go_enter Tryz.func111, Tryz.ntmps111
    go_wp2
    go_ret
    exact ⟨by simp [hk'], (Below.refl _ _).alloc (Nat.le_refl _) _⟩

theorem notV_eq (x : Val) (h : (x.k == 1) = true) : notV x = truthV (x.n == 0) := by
  have h' : x.k = 1 := by simpa using h
  have : (!trueB x) = (x.n == 0) := by simp [trueB, h', bne]
  rw [notV, if_pos h', this]


set_option maxHeartbeats 400000 in
theorem rnot_any (x : Val) (w : World) :
    Calls Tryz.prog 106 #[x.v] w fun e w' => e = .returned (notV x).v ∧ Below w.heap.size w w' := by
  rw [x.open_]
  by_cases hk : (x.k == 1) = true
  · have hk2 : (x.k != 1) = false := by simpa using hk
    rw [notV_eq x hk]
    go_enter Tryz.func106, Tryz.ntmps106
    go_wp2_with (go_at_call 107; refine (rtruth_any _ _).mono ?_; rintro e w2 ⟨rfl, hb2⟩; obtain ⟨hc2, hf2⟩ := bcell hb2; rw [Val.open_])
    refine bodyPost_ret (v := (truthV (x.n == 0)).v) (by simp [results, Tryz.results106, go_sem, Val.v, hc2, hf2]) rfl ⟨rfl, ?_⟩
    (repeat (first | exact Below.refl _ _ | refine Below.alloc ?_ (by simp <;> omega) _ | refine Below.drew ?_ | refine Below.setCell ?_ (by simp <;> omega) _ | refine Below.trans ?_ (Below.mono (by assumption) (by first | omega | (simp; omega) | (simp; done)))))
  · have hk' : (x.k == 1) = false := by simpa using hk
    have hk2 : (x.k != 1) = true := by simpa using hk
    have hk3 : notV x = .null := by simp at hk'; simp [notV, hk']
    rw [hk3]
    clear hk3 hk
    go_enter Tryz.func106, Tryz.ntmps106
    go_wp2_with (go_at_call 72; refine (none_any _).mono ?_; rintro e w2 ⟨rfl, hb2⟩; obtain ⟨hc2, hf2⟩ := bcell hb2; rw [Val.open_]; simp only [Val.null])
    refine bodyPost_ret (v := Val.null.v) (by simp [results, Tryz.results106, go_sem, Val.v, Val.null, hc2, hf2]) rfl ⟨rfl, ?_⟩
    (repeat (first | exact Below.refl _ _ | refine Below.alloc ?_ (by simp <;> omega) _ | refine Below.drew ?_ | refine Below.setCell ?_ (by simp <;> omega) _ | refine Below.trans ?_ (Below.mono (by assumption) (by first | omega | (simp; omega) | (simp; done)))))

def catV (a b : Val) : Val := if a.k == 2 && b.k == 2 && decide (a.s.size + b.s.size ≤ 1000) then .str (a.s ++ b.s) else .null

set_option maxHeartbeats 1000000 in
theorem cat_any (a b : Val) (w : World) (ha : a.s.size ≤ 140737488355328) (hb : b.s.size ≤ 140737488355328) :
    Calls Tryz.prog 201 #[a.v, b.v] w fun e w' => e = .returned (catV a b).v ∧ Below w.heap.size w w' := by
  rw [a.open_, b.open_]
  rcases Bool.eq_false_or_eq_true (a.k == 2) with ka | ka
  · have ka2 : (a.k != 2) = false := by simpa using ka
    rcases Bool.eq_false_or_eq_true (b.k == 2) with kb | kb
    · have kb2 : (b.k != 2) = false := by simpa using kb
      by_cases hs : a.s.size + b.s.size ≤ 1000
      · have e : catV a b = .str (a.s ++ b.s) := by simp [catV, ka, kb, hs]
        rw [e]
        have i1 : ¬ (1000 : Int) < (a.s.size : Int) + (b.s.size : Int) := by omega
        go_enter Tryz.func201, Tryz.ntmps201
        go_wp2_with (go_at_call 90; refine (text_any _ _).mono ?_; rintro e w2 ⟨rfl, hb2⟩; obtain ⟨hc2, hf2⟩ := bcell hb2; rw [Val.open_]; simp only [Val.str])
        refine bodyPost_ret (v := (Val.str (a.s ++ b.s)).v) (by simp [results, Tryz.results201, go_sem, Val.v, Val.str, hc2, hf2]) rfl ⟨rfl, ?_⟩
        (repeat (first | exact Below.refl _ _ | refine Below.alloc ?_ (by simp <;> omega) _ | refine Below.drew ?_ | refine Below.setCell ?_ (by simp <;> omega) _ | refine Below.trans ?_ (Below.mono (by assumption) (by first | omega | (simp; omega) | (simp; done)))))
      · have e : catV a b = .null := by simp [catV, ka, kb, hs]
        rw [e]
        have i1 : (1000 : Int) < (a.s.size : Int) + (b.s.size : Int) := by omega
        go_enter Tryz.func201, Tryz.ntmps201
        go_wp2
        refine bodyPost_ret (v := Val.null.v) (by simp [results, Tryz.results201, go_sem, Val.v, Val.null]) rfl ⟨rfl, ?_⟩
        (repeat (first | exact Below.refl _ _ | refine Below.alloc ?_ (by simp <;> omega) _ | refine Below.drew ?_ | refine Below.setCell ?_ (by simp <;> omega) _ | refine Below.trans ?_ (Below.mono (by assumption) (by first | omega | (simp; omega) | (simp; done)))))
    · have kb2 : (b.k != 2) = true := by simpa using kb
      have e : catV a b = .null := by simp [catV, ka, kb]
      rw [e]
      go_enter Tryz.func201, Tryz.ntmps201
      go_wp2
      refine bodyPost_ret (v := Val.null.v) (by simp [results, Tryz.results201, go_sem, Val.v, Val.null]) rfl ⟨rfl, ?_⟩
      (repeat (first | exact Below.refl _ _ | refine Below.alloc ?_ (by simp <;> omega) _ | refine Below.drew ?_ | refine Below.setCell ?_ (by simp <;> omega) _ | refine Below.trans ?_ (Below.mono (by assumption) (by first | omega | (simp; omega) | (simp; done)))))
  · have ka2 : (a.k != 2) = true := by simpa using ka
    have e : catV a b = .null := by simp [catV, ka]
    rw [e]
    go_enter Tryz.func201, Tryz.ntmps201
    go_wp2
    refine bodyPost_ret (v := Val.null.v) (by simp [results, Tryz.results201, go_sem, Val.v, Val.null]) rfl ⟨rfl, ?_⟩
    (repeat (first | exact Below.refl _ _ | refine Below.alloc ?_ (by simp <;> omega) _ | refine Below.drew ?_ | refine Below.setCell ?_ (by simp <;> omega) _ | refine Below.trans ?_ (Below.mono (by assumption) (by first | omega | (simp; omega) | (simp; done)))))

theorem cat_clean (a b : Val) : catV a b = if (cleanV a).k == 2 && (cleanV b).k == 2 && decide ((cleanV a).s.size + (cleanV b).s.size ≤ 1000) then .str ((cleanV a).s ++ (cleanV b).s) else .null := by
  unfold catV cleanV
  rcases Bool.eq_false_or_eq_true (a.k == 1) with a1 | a1 <;> rcases Bool.eq_false_or_eq_true (b.k == 1) with b1 | b1 <;> rcases Bool.eq_false_or_eq_true (a.k == 2) with a2 | a2 <;> rcases Bool.eq_false_or_eq_true (b.k == 2) with b2 | b2 <;> simp [a1, b1, a2, b2, Val.num, Val.str, Val.null]
  all_goals simp at a1 a2 b1 b2
  all_goals omega

theorem clean_size (x : Val) : (cleanV x).s.size ≤ x.s.size := by
  unfold cleanV
  split
  · show (⟨#[]⟩ : ByteArray).size ≤ _; exact Nat.zero_le _
  · split
    · exact Nat.le_refl _
    · show (⟨#[]⟩ : ByteArray).size ≤ _; exact Nat.zero_le _

/-- The box of a result, as an alloc leaves it. -/
def ZeroAt (w : World) (b : Nat) : Prop := w.cell? ⟨b, 0, none⟩ = some (.int .i64 0) ∧ w.cell? ⟨b, 1, none⟩ = some (.int .i64 0) ∧ w.cell? ⟨b, 2, none⟩ = some (.string ⟨#[]⟩) ∧ w.frozen? ⟨b, 0, none⟩ = false ∧ w.frozen? ⟨b, 1, none⟩ = false ∧ w.frozen? ⟨b, 2, none⟩ = false
theorem ZeroAt.later {w w1 : World} {b : Nat} (h : ZeroAt w b) (hb : Below w.heap.size w w1) : ZeroAt w1 b := by
  obtain ⟨h0, h1, h2, f0, f1, f2⟩ := h
  obtain ⟨hc, hf⟩ := bcell hb
  have hl : b < w.heap.size := World.block_lt_of_cell? w _ h0
  unfold ZeroAt
  rw [hc _ _ hl, hc _ _ hl, hc _ _ hl, hf _ _ hl, hf _ _ hl, hf _ _ hl]
  exact ⟨h0, h1, h2, f0, f1, f2⟩
abbrev Zero23 : Obj := .cells #[.int .i64 0, .int .i64 0, .string ⟨#[]⟩] 38
def boxes3 (w : World) (a b : Val) : World := (boxes w a b).alloc Zero23
theorem boxes3_size (w : World) (a b : Val) : (boxes3 w a b).heap.size = w.heap.size + 1 + 1 + 1 := by simp [boxes3, boxes_size]
theorem boxes3_drew (w : World) (a b : Val) : Below (boxes3 w a b).heap.size (boxes3 w a b) (boxes3 w a b).drew := (Below.refl _ _).drew
theorem boxes3_facts {w w' : World} {a b : Val} (h : Below (boxes3 w a b).heap.size (boxes3 w a b) w') :
    BoxAt w' w.heap.size a ∧ BoxAt w' (w.heap.size + 1) b ∧ FreeAt w' w.heap.size ∧ FreeAt w' (w.heap.size + 1) ∧ ZeroAt w' (w.heap.size + 1 + 1) ∧ w.heap.size + 1 + 1 < w'.heap.size := by
  have hs := h.size
  rw [boxes3_size] at hs
  obtain ⟨hc, hf⟩ := bcell h
  refine ⟨⟨?_, ?_, ?_⟩, ⟨?_, ?_, ?_⟩, ⟨?_, ?_, ?_⟩, ⟨?_, ?_, ?_⟩, ⟨?_, ?_, ?_, ?_, ?_, ?_⟩, by omega⟩
  all_goals first | (rw [hc _ _ (by rw [boxes3_size]; omega)]; simp [boxes3, boxes, go_sem]; done) | (rw [hf _ _ (by rw [boxes3_size]; omega)]; simp [boxes3, boxes, go_sem]; done)
theorem boxes3_below {w w' : World} {a b : Val} (h : Below (boxes3 w a b).heap.size (boxes3 w a b) w') : Below w.heap.size w w' :=
  ((((Below.refl _ _).alloc (Nat.le_refl _) _).alloc (by simp) _).alloc (by simp; omega) _).trans (h.mono (by rw [boxes3_size]; omega))
theorem put_two3 {w w2 : World} {a b : Val} (ca cb : Val) (h : Below (boxes3 w a b).heap.size (boxes3 w a b) w2) :
    BoxAt ((((((w2.setCell ⟨w.heap.size, 0, none⟩ (.int .i64 ca.k)).setCell ⟨w.heap.size, 1, none⟩ (.int .i64 ca.n)).setCell ⟨w.heap.size, 2, none⟩ (.string ca.s)).setCell ⟨w.heap.size + 1, 0, none⟩ (.int .i64 cb.k)).setCell ⟨w.heap.size + 1, 1, none⟩ (.int .i64 cb.n)).setCell ⟨w.heap.size + 1, 2, none⟩ (.string cb.s)) w.heap.size ca ∧
    BoxAt ((((((w2.setCell ⟨w.heap.size, 0, none⟩ (.int .i64 ca.k)).setCell ⟨w.heap.size, 1, none⟩ (.int .i64 ca.n)).setCell ⟨w.heap.size, 2, none⟩ (.string ca.s)).setCell ⟨w.heap.size + 1, 0, none⟩ (.int .i64 cb.k)).setCell ⟨w.heap.size + 1, 1, none⟩ (.int .i64 cb.n)).setCell ⟨w.heap.size + 1, 2, none⟩ (.string cb.s)) (w.heap.size + 1) cb ∧
    ZeroAt ((((((w2.setCell ⟨w.heap.size, 0, none⟩ (.int .i64 ca.k)).setCell ⟨w.heap.size, 1, none⟩ (.int .i64 ca.n)).setCell ⟨w.heap.size, 2, none⟩ (.string ca.s)).setCell ⟨w.heap.size + 1, 0, none⟩ (.int .i64 cb.k)).setCell ⟨w.heap.size + 1, 1, none⟩ (.int .i64 cb.n)).setCell ⟨w.heap.size + 1, 2, none⟩ (.string cb.s)) (w.heap.size + 1 + 1) ∧
    Below w.heap.size w ((((((w2.setCell ⟨w.heap.size, 0, none⟩ (.int .i64 ca.k)).setCell ⟨w.heap.size, 1, none⟩ (.int .i64 ca.n)).setCell ⟨w.heap.size, 2, none⟩ (.string ca.s)).setCell ⟨w.heap.size + 1, 0, none⟩ (.int .i64 cb.k)).setCell ⟨w.heap.size + 1, 1, none⟩ (.int .i64 cb.n)).setCell ⟨w.heap.size + 1, 2, none⟩ (.string cb.s)) := by
  obtain ⟨⟨a0, a1, a2⟩, ⟨b0, b1, b2⟩, ⟨f0, f1, f2⟩, ⟨g0, g1, g2⟩, ⟨z0, z1, z2, z3, z4, z5⟩, hz⟩ := boxes3_facts h
  refine ⟨⟨by simp [go_sem, *], by simp [go_sem, *], by simp [go_sem, *]⟩, ⟨by simp [go_sem, *], by simp [go_sem, *], by simp [go_sem, *]⟩, ⟨by simp [go_sem, *], by simp [go_sem, *], by simp [go_sem, *], by simp [go_sem, *], by simp [go_sem, *], by simp [go_sem, *]⟩, ?_⟩
  exact ((((((boxes3_below h).setCell (by simp) _).setCell (by simp) _).setCell (by simp) _).setCell (by simp) _).setCell (by simp) _).setCell (by simp) _

set_option maxHeartbeats 2000000 in
set_option maxRecDepth 100000 in
theorem rcat_any (a b : Val) (w : World) (ha : a.s.size ≤ 140737488355328) (hb : b.s.size ≤ 140737488355328) :
    Calls Tryz.prog 109 #[a.v, b.v] w fun e w' => e = .returned (catV a b).v ∧ Below w.heap.size w w' := by
  rw [a.open_, b.open_, cat_clean]
  have HA := hide (rclean_any a)
  have HB := hide (rclean_any b)
  have la := clean_size a
  have lb := clean_size b
  generalize cleanV a = ca at *
  generalize cleanV b = cb at *
  generalize hr : (if (ca.k == 2 && cb.k == 2 && decide (ca.s.size + cb.s.size ≤ 1000)) = true then Val.str (ca.s ++ cb.s) else Val.null) = r at *
  have HR := hide hr
  clear hr
  go_enter Tryz.func109, Tryz.ntmps109
  go_upto_region 1 with fail
  go_cut [] (fun wx => BoxAt wx w.heap.size ca ∧ BoxAt wx (w.heap.size + 1) cb ∧ ZeroAt wx (w.heap.size + 1 + 1) ∧ Below w.heap.size w wx)
  case first =>
    go_region_with (first
      | (go_at_call_of 97 (Value.agg #[Value.int IntKind.i64 a.k, Value.int IntKind.i64 a.n, Value.string a.s]); refine (unhide HA _).mono ?_; rintro e w1 ⟨rfl, hb1⟩; rw [Val.open_]; have B1 := below_step (boxes3_drew w a b) hb1; obtain ⟨⟨a0, a1, a2⟩, ⟨b0, b1, b2⟩, ⟨f0, f1, f2⟩, ⟨g0, g1, g2⟩, ⟨z0, z1, z2, z3, z4, z5⟩, hz⟩ := boxes3_facts B1)
      | (go_at_call_of 97 (Value.agg #[Value.int IntKind.i64 b.k, Value.int IntKind.i64 b.n, Value.string b.s]); refine (unhide HB _).mono ?_; rintro e w2 ⟨rfl, hb2⟩; rw [Val.open_]; have B2 := below_step B1 hb2; obtain ⟨⟨a0, a1, a2⟩, ⟨b0, b1, b2⟩, ⟨f0, f1, f2⟩, ⟨g0, g1, g2⟩, ⟨z0, z1, z2, z3, z4, z5⟩, hz⟩ := boxes3_facts B2))
    all_goals
      go_wp2_with fail
      go_meet
      exact put_two3 ca cb B2
  case rest =>
    obtain ⟨⟨a0, a1, a2⟩, ⟨b0, b1, b2⟩, hZ, hbel⟩ := hcut
    have hz := hZ
    obtain ⟨z0, z1, z2, z3, z4, z5⟩ := hz
    clear HA HB
    rename World => wa
    have hsz : w.heap.size ≤ wa.heap.size := hbel.size
    have iaa : (ca.s.size : Int) ≤ 140737488355328 := by omega
    have ibb : (cb.s.size : Int) ≤ 140737488355328 := by omega
    by_cases hs : ((ca.k == 2) && (cb.k == 2) && decide (ca.s.size + cb.s.size ≤ 1000)) = true
    · have E : Hid (Val.str (ca.s ++ cb.s) = r) := by have := unhide HR; rw [if_pos hs] at this; exact this
      simp only [Bool.and_eq_true, decide_eq_true_eq] at hs
      obtain ⟨⟨ka, kb⟩, hs⟩ := hs
      have ka2 : (ca.k != 2) = false := by simpa using ka
      have kb2 : (cb.k != 2) = false := by simpa using kb
      have i1 : ¬ (1000 : Int) < (ca.s.size : Int) + (cb.s.size : Int) := by omega
      clear HR
      go_wp2_with (go_at_call 144; refine (rstr_any _ _).mono ?_; rintro e w2 ⟨rfl, hb2⟩; obtain ⟨y0, y1, y2, y3, y4, y5⟩ := hZ.later hb2; rw [Val.open_]; simp only [Val.str])
      refine bodyPost_ret (v := (Val.str (ca.s ++ cb.s)).v) (by simp [results, Tryz.results109, go_sem, Val.v, Val.str, *]) rfl ⟨by rw [unhide E], ?_⟩
      exact ((((below_step hbel hb2).setCell (by simp <;> omega) _).setCell (by simp <;> omega) _).setCell (by simp <;> omega) _)
    · have E : Hid (Val.null = r) := by have := unhide HR; rw [if_neg hs] at this; exact this
      clear HR
      by_cases ka : (ca.k == 2) = true
      · have ka2 : (ca.k != 2) = false := by simpa using ka
        by_cases kb : (cb.k == 2) = true
        · have kb2 : (cb.k != 2) = false := by simpa using kb
          have i1 : (1000 : Int) < (ca.s.size : Int) + (cb.s.size : Int) := by simp [ka, kb] at hs; omega
          clear hs
          go_wp2_with (go_at_call 72; refine (none_any _).mono ?_; rintro e w2 ⟨rfl, hb2⟩; obtain ⟨y0, y1, y2, y3, y4, y5⟩ := hZ.later hb2; rw [Val.open_]; simp only [Val.null])
          refine bodyPost_ret (v := Val.null.v) (by simp [results, Tryz.results109, go_sem, Val.v, Val.null, *]) rfl ⟨by rw [unhide E], ?_⟩
          exact ((((below_step hbel hb2).setCell (by simp <;> omega) _).setCell (by simp <;> omega) _).setCell (by simp <;> omega) _)
        · have kb' : (cb.k == 2) = false := by simpa using kb
          have kb2 : (cb.k != 2) = true := by simpa using kb
          clear hs kb
          go_wp2_with (go_at_call 72; refine (none_any _).mono ?_; rintro e w2 ⟨rfl, hb2⟩; obtain ⟨y0, y1, y2, y3, y4, y5⟩ := hZ.later hb2; rw [Val.open_]; simp only [Val.null])
          refine bodyPost_ret (v := Val.null.v) (by simp [results, Tryz.results109, go_sem, Val.v, Val.null, *]) rfl ⟨by rw [unhide E], ?_⟩
          exact ((((below_step hbel hb2).setCell (by simp <;> omega) _).setCell (by simp <;> omega) _).setCell (by simp <;> omega) _)
      · have ka' : (ca.k == 2) = false := by simpa using ka
        have ka2 : (ca.k != 2) = true := by simpa using ka
        clear hs ka
        go_wp2_with (go_at_call 72; refine (none_any _).mono ?_; rintro e w2 ⟨rfl, hb2⟩; obtain ⟨y0, y1, y2, y3, y4, y5⟩ := hZ.later hb2; rw [Val.open_]; simp only [Val.null])
        refine bodyPost_ret (v := Val.null.v) (by simp [results, Tryz.results109, go_sem, Val.v, Val.null, *]) rfl ⟨by rw [unhide E], ?_⟩
        exact ((((below_step hbel hb2).setCell (by simp <;> omega) _).setCell (by simp <;> omega) _).setCell (by simp <;> omega) _)

end Go.Proofs.YtmjeiepljlepbacGreat

import Derived.Lib.QuietBelow
import Derived.Test.YtcbenpodohjbiaaGreatExA
import Derived.Shelf.SlSortCmp.Whole1
set_option linter.unusedSimpArgs false
set_option linter.unusedVariables false
namespace Go.Proofs.YtcbenpodohjbiaaGreat
open Go.RowKit Go.Sort Go.Shelf Go.Lib

/-- New blocks and draws alone. -/
def Up (w w' : World) : Prop := Below w.heap.size w w' ∧ w.drawn ≤ w'.drawn
theorem Up.grown {w w' : World} (h : Up w w') : ∃ q os', w' = grow (w.drewN q) os' := by
  obtain ⟨p, hp⟩ := regrown_of_below h.1
  have h2 := h.2
  refine ⟨w'.drawn - w.drawn, p.os, ?_⟩
  rw [hp] at h2 ⊢
  simp only [grow, redrawn, World.drewN] at h2 ⊢
  congr 1
  omega
theorem number_up (n : Int) (w : World) :
    Calls Tryz.prog 77 #[.int .i64 n] w fun e w' => e = .returned (Val.num n).v ∧ Up w w' := by
  unfold Val.v Val.num
  go_enter Tryz.func77, Tryz.ntmps77
  go_wp2
  exact bodyPost_ret (v := .agg #[.int .i64 1, .int .i64 n, .string ⟨#[]⟩]) (by simp [results, Tryz.results77, go_sem]) rfl ⟨rfl, (Below.refl _ _).alloc (Nat.le_refl _) _, Nat.le_refl _⟩
theorem text_up (s : ByteArray) (w : World) :
    Calls Tryz.prog 78 #[.string s] w fun e w' => e = .returned (Val.str s).v ∧ Up w w' := by
  unfold Val.v Val.str
  go_enter Tryz.func78, Tryz.ntmps78
  go_wp2
  exact bodyPost_ret (v := .agg #[.int .i64 2, .int .i64 0, .string s]) (by simp [results, Tryz.results78, go_sem]) rfl ⟨rfl, (Below.refl _ _).alloc (Nat.le_refl _) _, Nat.le_refl _⟩
set_option maxHeartbeats 1000000 in
theorem clean_up (x : Val) (w : World) :
    Calls Tryz.prog 52 #[x.v] w fun e w' => e = .returned (cleanV x).v ∧ Up w w' := by
  rw [x.open_]
  rcases Bool.eq_false_or_eq_true (x.k == 1) with k1 | k1
  · have hv : cleanV x = .num x.n := by simp [cleanV, k1]
    rw [hv]
    clear hv
    go_enter Tryz.func52, Tryz.ntmps52
    go_wp2_with (go_at_call 77; refine (number_up _ _).mono ?_; rintro e w1 ⟨rfl, hb1, hd1⟩; obtain ⟨hc1, hf1⟩ := bcell hb1; rw [Val.open_])
    refine bodyPost_ret (v := (Val.num x.n).v) (by simp [results, Tryz.results52, go_sem, Val.v, Val.num, hc1, hf1]) rfl ⟨rfl, ?_, by simpa using hd1⟩
    (repeat (first | exact Below.refl _ _ | refine Below.alloc ?_ (by simp <;> omega) _ | refine Below.setCell ?_ (by simp <;> omega) _ | refine Below.trans ?_ (Below.mono (by assumption) (by first | omega | (simp; omega)))))
  · rcases Bool.eq_false_or_eq_true (x.k == 2) with k2 | k2
    · have hv : cleanV x = .str x.s := by simp [cleanV, k1, k2]
      rw [hv]
      clear hv
      go_enter Tryz.func52, Tryz.ntmps52
      go_wp2_with (go_at_call 78; refine (text_up _ _).mono ?_; rintro e w1 ⟨rfl, hb1, hd1⟩; obtain ⟨hc1, hf1⟩ := bcell hb1; rw [Val.open_])
      refine bodyPost_ret (v := (Val.str x.s).v) (by simp [results, Tryz.results52, go_sem, Val.v, Val.str, hc1, hf1]) rfl ⟨rfl, ?_, by simpa using hd1⟩
      (repeat (first | exact Below.refl _ _ | refine Below.alloc ?_ (by simp <;> omega) _ | refine Below.setCell ?_ (by simp <;> omega) _ | refine Below.trans ?_ (Below.mono (by assumption) (by first | omega | (simp; omega)))))
    · have hv : cleanV x = .null := by simp [cleanV, k1, k2]
      rw [hv]
      clear hv
      go_enter Tryz.func52, Tryz.ntmps52
      go_wp2
      refine bodyPost_ret (v := Val.null.v) (by simp [results, Tryz.results52, go_sem, Val.v, Val.null]) rfl ⟨rfl, ?_, Nat.le_refl _⟩
      (repeat (first | exact Below.refl _ _ | refine Below.alloc ?_ (by simp <;> omega) _ | refine Below.setCell ?_ (by simp <;> omega) _))

set_option maxHeartbeats 16000000 in
set_option maxRecDepth 100000 in
theorem order_up (a b : Val) (w : World) :
    Calls Tryz.prog 33 #[a.v, b.v] w fun e w' => e = .returned (.int .i64 (ordV a b)) ∧ Up w w' := by
  rw [a.open_, b.open_]
  have HA := hide (clean_up a)
  have HB := hide (clean_up b)
  unfold ordV
  generalize cleanV a = ca at *
  generalize cleanV b = cb at *
  go_enter Tryz.func33, Tryz.ntmps33
  go_upto_region 1 with fail
  go_cut [] (fun wx => BoxAt wx w.heap.size ca ∧ BoxAt wx (w.heap.size + 1) cb ∧ Below w.heap.size w wx ∧ w.drawn ≤ wx.drawn)
  case first =>
    have hd0 : w.drawn ≤ (boxes w a b).drew.drawn := by simp [boxes, World.drew]
    go_region_with (first
      | (go_at_call_of 52 (Value.agg #[Value.int IntKind.i64 a.k, Value.int IntKind.i64 a.n, Value.string a.s]); refine (unhide HA _).mono ?_; rintro e w1 ⟨rfl, hb1, hd1⟩; rw [Val.open_]; have B1 := below_step (boxes_drew w a b) hb1; obtain ⟨⟨a0, a1, a2⟩, ⟨b0, b1, b2⟩, ⟨f0, f1, f2⟩, ⟨g0, g1, g2⟩, hz⟩ := boxes_facts B1)
      | (go_at_call_of 52 (Value.agg #[Value.int IntKind.i64 b.k, Value.int IntKind.i64 b.n, Value.string b.s]); refine (unhide HB _).mono ?_; rintro e w2 ⟨rfl, hb2, hd2⟩; rw [Val.open_]; have B2 := below_step B1 hb2; obtain ⟨⟨a0, a1, a2⟩, ⟨b0, b1, b2⟩, ⟨f0, f1, f2⟩, ⟨g0, g1, g2⟩, hz⟩ := boxes_facts B2))
    all_goals
      go_wp2_with fail
      go_meet
      obtain ⟨q1, q2, q3⟩ := put_two ca cb B2
      refine ⟨q1, q2, q3, ?_⟩
      have hd3 : w.drawn ≤ w1.drawn := Nat.le_trans hd0 hd1
      have hd4 : w.drawn ≤ w2.drawn := Nat.le_trans hd3 hd2
      clear hd0 hd1 hd2 hd3 q1 q2 q3
      rw [World.drawn_setCell, World.drawn_setCell, World.drawn_setCell, World.drawn_setCell, World.drawn_setCell, World.drawn_setCell]; exact hd4
  case rest =>
    obtain ⟨⟨a0, a1, a2⟩, ⟨b0, b1, b2⟩, hbel, hdr⟩ := hcut
    clear HA HB
    rename World => wa
    go_upto_region 2 with fail
    go_region_held3 (fun w' => w'.cell? ⟨w.heap.size, 0, none⟩ = some (.int .i64 ca.k) ∧ w'.cell? ⟨w.heap.size, 1, none⟩ = some (.int .i64 ca.n) ∧ w'.cell? ⟨w.heap.size, 2, none⟩ = some (.string ca.s) ∧ w'.cell? ⟨w.heap.size + 1, 0, none⟩ = some (.int .i64 cb.k) ∧ w'.cell? ⟨w.heap.size + 1, 1, none⟩ = some (.int .i64 cb.n) ∧ w'.cell? ⟨w.heap.size + 1, 2, none⟩ = some (.string cb.s))
      (go_keep)
      (first
        | (go_at_call 54; refine (cmpInt_any _ _ _).mono ?_; rintro e w1 ⟨rfl, rfl⟩)
        | (go_at_call 55; refine (cmpInt64_any _ _ _).mono ?_; rintro e w1 ⟨rfl, rfl⟩)
        | (go_at_call 56; refine (cmpStr_any _ _ _).mono ?_; rintro e w1 ⟨rfl, rfl⟩)
        | (go_at_call 53; refine (or3_any _ (cmpI ca.k cb.k) (cmpI ca.n cb.n) (cmpB ca.s cb.s) _ ?_ ?_ ?_).mono ?_; (simp [go_sem]); (simp [go_sem]); (simp [go_sem]); rintro e w1 ⟨rfl, rfl⟩))
    go_wp2
    go_ret
    exact ⟨rfl, (below_alloc hbel _).drew, by simp [World.drew]; omega⟩
end Go.Proofs.YtcbenpodohjbiaaGreat

import Derived.Test.YtcbenpodohjbiaaGreatSpD
import Derived.Test.YtcbenpodohjbiaaGreatAnyG
set_option linter.unusedSimpArgs false
set_option linter.unusedVariables false
set_option maxRecDepth 100000
namespace Go.Proofs.YtcbenpodohjbiaaGreat
open Go.RowKit Go.Sort

set_option maxHeartbeats 2000000 in
/-- Let (152). -/
theorem let_any {F : Nat → Prop} {b : Nat} {Y : Yv} {op : Option Nat} {w : World} (h : Py w b Y op F) (k : Int) (hk : 0 < k) (h0 : 0 ≤ Y.held - k) (h1 : Y.held ≤ 1048576) :
    Calls Tryz.prog 152 #[.pointer (some ⟨b, 0, none⟩), .int .i64 k] w fun e w' => e = .returned (.tuple #[]) ∧ Py w' b (Y.hold (-k)) op F ∧ Ky (fun k => k = b) w w' := by
  have HH := hide (hold_any h (-k) (by omega) (by omega))
  have hne : (k == 0) = false := by simp; omega
  have e1 : IntKind.i64.wrap (-k) = -k := IntWalk.i64_in _ (by omega)
  clear h
  go_enter Tryz.func152, Tryz.ntmps152
  go_wp2_with (first | (go_at_call 157; refine (unhide HH).mono ?_; rintro _ w1 ⟨rfl, hP, hK⟩))
  go_end0
  exact ⟨rfl, hP, hK⟩
set_option maxHeartbeats 2000000 in
/-- Take (155), refused. -/
theorem take_hit {F : Nat → Prop} {b : Nat} {Y : Yv} {op : Option Nat} {w : World} (u : Value) (h : Py w b Y op F) (hr : Y.rd = false) (hh : Y.hit = true) (hc : Y.cd ≠ 0) :
    Calls Tryz.prog 155 #[.pointer (some ⟨b, 0, none⟩), u] w fun e w' => e = .returned (.int .i64 Y.cd) ∧ Py w' b Y.tick op F ∧ Ky (fun k => k = b) w w' := by
  have HC := hide (call_any h hr)
  rw [hh] at HC
  have h1 : (Y.cd != 0) = true := by simpa using hc
  clear h hc hr hh
  go_enter Tryz.func155, Tryz.ntmps155
  go_wp2_with (first | (go_at_call 158; refine (unhide HC).mono ?_; rintro _ w1 ⟨rfl, hP, hK⟩))
  go_ret
  exact ⟨rfl, hP, hK⟩
def Yv.push (Y : Yv) (r : List Val) : Yv := { Y with out := Y.out ++ [r] }
/-- What is taken stands behind the others. -/
theorem Py.push {F : Nat → Prop} {b : Nat} {Y : Yv} {op : Option Nat} {w w' : World} {vO vR vT v' : Value} {us : List Value} {r : List Val} (fb : F b) (hB : Bx w b Y vO vR vT) (hl : Ys w Y op F vO vR vT us) (hL : Lst w' v' (Y.out ++ [r])) (hg : Grew w w' vO v') (hK : Ky (fun k => vO.ownBlock = some k) w w') :
    ∃ F', Nw F F' w ∧ (∀ k, F k → F' k) ∧ Py (w'.setCell ⟨b, 3, none⟩ v') b (Y.push r) op F' ∧ Ky F w (w'.setCell ⟨b, 3, none⟩ v') := by
  have hbO : ¬ vO.ownBlock = some b := fun e => (hl.o.tg e).ne hB.tg (by decide) rfl
  have hB' := hB.ky hK hbO
  have hB2 := hB'.set_o v'
  have hK2 : Ky (fun k => k = b) w' (w'.setCell ⟨b, 3, none⟩ v') := hB'.ky_o v'
  have new : ∀ g, v'.ownBlock = some g → vO.ownBlock = some g ∨ w.heap.size ≤ g := fun g e => by
    rcases hg.2 with h | ⟨q, h, hq⟩
    · left; rw [← h]; exact e
    · right; rw [h] at e; injection e with e; omega
  have hbt : ∀ g t, Tg t w' g → t ≠ 44 → ¬ g = b := fun g t ht hn e => by subst e; exact ht.ne hB'.tg hn rfl
  refine ⟨fun k => F k ∨ v'.ownBlock = some k, fun k hk => ?_, fun k hk => .inl hk, ⟨.inl fb, v', vR, vT, us, ?_, ?_⟩, ?_⟩
  · rcases hk with hk | hk
    · exact .inl hk
    · rcases new k hk with h | h
      · exact .inl (hl.fo k h)
      · exact .inr h
  · exact ⟨hB2.tg, hB2.fr, hB2.c0, hB2.c1, hB2.c2, hB2.c3, hB2.c4, hB2.c5, hB2.c6, hB2.c7, hB2.c8, hB2.c9, hB2.c10⟩
  · refine ⟨hL.ky hK2 (fun g hg' => hbt g 70 (hL.tg hg') (by decide)), fun g hg' => .inr hg', ?_, fun g hg' => .inl (hl.fr g hg'), hl.l, ?_, fun g hg' => .inl (hl.ft g hg'), hl.lt, fun i u rs hu hrs => ?_, hl.d⟩
    · have h1 := own_ky hl.r hK (fun g hg' e => (own_tg hl.r hg').ne (hl.o.tg e) (by decide) rfl)
      exact own_ky h1 hK2 (fun g hg' => hbt g 22 (own_tg h1 hg') (by decide))
    · have h1 := own_ky hl.t hK (fun g hg' e => (own_tg hl.t hg').ne (hl.o.tg e) (by decide) rfl)
      exact own_ky h1 hK2 (fun g hg' => hbt g 4 (own_tg h1 hg') (by decide))
    · obtain ⟨h1, h2⟩ := hl.e i u rs hu hrs
      have n1 : ∀ g, u.ownBlock = some g → ¬ vO.ownBlock = some g := fun g hg' => (h2 g hg').2.1
      have t1 : ∀ g, u.ownBlock = some g → Tg 70 w' g := fun g hg' => hK.tg (h2 g hg').2.2 (n1 g hg')
      have n2 : ∀ g, u.ownBlock = some g → ¬ g = b := fun g hg' => hbt g 70 (t1 g hg') (by decide)
      refine ⟨?_, fun g hg' => ⟨.inl (h2 g hg').1, fun e => ?_, hK2.tg (t1 g hg') (n2 g hg')⟩⟩
      · split
        · rename_i e
          rw [if_pos e] at h1
          exact (h1.ky hK n1).ky hK2 n2
        · rename_i e
          rw [if_neg e] at h1
          exact (h1.ky hK n1).ky hK2 n2
      · rcases new g e with q | q
        · exact n1 g hg' q
        · have := (h2 g hg').2.2.lt; omega
  · exact (hK.mono fun k e => hl.fo k e).trans (hK2.mono fun k e => by subst e; exact fb) (Nw.refl _ _)

theorem Bx.later {w w' : World} {b : Nat} {Y : Yv} {vO vR vT : Value} (h : Bx w b Y vO vR vT) (hb : Below w.heap.size w w') : Bx w' b Y vO vR vT := h.ky (F := fun _ => False) (Ky.of_below hb) id
theorem Ys.later {w w' : World} {Y : Yv} {op : Option Nat} {F : Nat → Prop} {vO vR vT : Value} {us : List Value} (h : Ys w Y op F vO vR vT us) (hb : Below w.heap.size w w') : Ys w' Y op F vO vR vT us := h.ky (G := fun _ => False) (Ky.of_below hb) (fun _ => False.elim)
/-- append(l, row), where the row stands in a list of one that was made for it. -/
theorem op_push_lst {o : Oper} {a : Act} {w : World} {K : Act → World → Prop} {Q : Exit → Act → World → Prop} (s x : Operand) (ho : o.op = .call { callee := .builtin .append, args := #[s, x], argTypes := #[22, 22] })
    (v : Value) (rs : List (List Val)) (r : List Val) (hs : a.eval s = v) (hown : Lst w v rs) (t : Nat) (u : Value) (hx : a.eval x = .slice (some ⟨t, 0, none⟩) 1 1) (hy : w.cell? ⟨t, 0, none⟩ = some u) (hrw : Rw w u r) (hl : rs.length + 1 ≤ 4398046511104)
    (h : ∀ v' w', Lst w' v' (rs ++ [r]) → Grew w w' v v' → Ky (fun k => v.ownBlock = some k) w w' → K (a.put o.dst v') w') : o.wp Tryz.prog a w K Q := by
  obtain ⟨i4, hi4, z40, z41, z42⟩ := info_parts info52
  obtain ⟨us, h1, h2, h3⟩ := hown
  obtain ⟨v', w', hr, k1, k2, _, k4⟩ := run_append_own_at (P := Tryz.prog) w 0 22 o.type 70 i4 (.slice none 0 0) 1 24 Tryz.underlying22 hi4 z40 z41 z42 rfl (by decide) v rs.length us h2 ⟨t, 0, none⟩ 1 1 [u] rfl (fun j y hj => by
    match j, hj with
    | 0, hj => simp at hj; subst hj; simpa [Addr.add] using hy
    | j + 1, hj => simp at hj) (fun y hy => by simp at hy; subst hy; exact hrw.one) (by unfold maxLen; omega) (by omega) (Nat.zero_le _)
  unfold Oper.wp execOp
  simp only [ho, resolve, invoke, builtin, Sem.run_bind, Sem.run_pure, Result.andThen_ok, List.map_toArray, List.map_cons, List.map_nil, hs, hx, hr]
  have hky : Ky (fun k => v.ownBlock = some k) w w' := Ky.of_grown k2 (fun g e => e) (fun g t e hc q => (own_tg h2 e).ne q (by rintro rfl; revert hc; decide) rfl)
  refine h v' w' ⟨us ++ [u], by simp [h1], ?_, fun i y q hy hq => ?_⟩ ⟨k2, k4.imp id fun e => ⟨_, e, Nat.le_refl _⟩⟩ hky
  · rw [List.length_append]; exact k1
  · rcases list_app (vs := us) hy with hy | ⟨hi, rfl⟩
    · have hi : i < us.length := (List.getElem?_eq_some_iff.1 hy).1
      rw [List.getElem?_append_left (by omega)] at hq
      exact (h3 i y q hy hq).ky hky
    · rcases list_app (vs := rs) hq with hq | ⟨_, rfl⟩
      · have := (List.getElem?_eq_some_iff.1 hq).1; omega
      · exact hrw.ky hky

set_option maxHeartbeats 4000000 in
/-- Take (155). -/
theorem take_ok {F : Nat → Prop} {b : Nat} {Y : Yv} {op : Option Nat} {w : World} {u : Value} {r : List Val} (h : Py w b Y op F) (hu : Rw w u r) (ho : Y.out.length ≤ 1048576) (hr : Y.rd = false) (hh : Y.hit = false) :
    Calls Tryz.prog 155 #[.pointer (some ⟨b, 0, none⟩), u] w fun e w' => e = .returned (.int .i64 0) ∧ ∃ F', Nw F F' w ∧ (∀ k, F k → F' k) ∧ Py w' b (Y.tick.push r) op F' ∧ Ky F w w' := by
  obtain ⟨au, cu, rfl, hra, hrl⟩ := hu
  have HC := hide (call_any h hr)
  rw [hh] at HC
  have HR := hide hra
  have HFB := hide h.1
  clear h hr hh hra
  go_enter Tryz.func155, Tryz.ntmps155
  go_upto_region 4 with (first | (go_at_call 158; refine (unhide HC).mono ?_; rintro _ w1 ⟨rfl, ⟨fb, vO, vR, vT, us, hB, hl⟩, hK⟩; have c3 := hB.c3; have f3 := hB.fr 3; have HB := hide hB; have HL := hide hl; have HK := hide hK; clear hB hl hK))
  have HCp := hide (fun (w2 : World) (hb : Below w1.heap.size w1 w2) => copied_any au cu r w2 hrl ((unhide HR).ky (unhide HK) |>.at.later hb))
  have HLen : Hid (Y.tick.out.length + 1 ≤ 4398046511104) := by show Y.out.length + 1 ≤ _; omega
  have HS0 : Hid (Below w1.heap.size w1 w1.drew) := (Below.refl _ _).drew
  have HC0 : Hid (w1.drew.cell? ⟨b, 3, none⟩ = some vO) := clater c3 (unhide HS0)
  refine wp_region_noPanic ?_
  refine wp_region_G (S := fun W : World => W.cell? ⟨b, 3, none⟩ = some vO) (k := 11) (by kernel_rfl) ?_
  refine anyG_takel (i := 0) (v := (.pointer (some ⟨b, 0, none⟩))) [9, 10, 11] rfl (by kernel_rfl) (by kernel_rfl) (by kernel_rfl) (by kernel_rfl) (fun _ _ _ h => h) (Or.inl ⟨by rfl, fun w' hSw => ?_⟩) (unhide HC0) ?_
  · go_simp
  try simp only [Act.put, List.setIfInBounds_toArray, List.set_cons_zero, List.set_cons_succ]
  refine anyG_takel (i := 1) (v := (.pointer (some ⟨b, 0, none⟩))) [2, 3, 4, 8, 9, 10, 11] rfl (by kernel_rfl) (by kernel_rfl) (by kernel_rfl) (by kernel_rfl) (fun _ _ _ h => h) (Or.inl ⟨by rfl, fun w' hSw => ?_⟩) (unhide HC0) ?_
  · go_simp
  try simp only [Act.put, List.setIfInBounds_toArray, List.set_cons_zero, List.set_cons_succ]
  refine anyG_takel (i := 2) (v := (.pointer (some ⟨b, 0, none⟩))) [3, 4, 8, 9, 10, 11] rfl (by kernel_rfl) (by kernel_rfl) (by kernel_rfl) (by kernel_rfl) (fun _ _ _ h => h) (Or.inl ⟨by rfl, fun w' hSw => ?_⟩) (unhide HC0) ?_
  · go_simp
  try simp only [Act.put, List.setIfInBounds_toArray, List.set_cons_zero, List.set_cons_succ]
  refine anyG_takel (i := 3) (v := (.pointer (some ⟨b, 3, none⟩))) [4, 8, 9, 10, 11] rfl (by kernel_rfl) (by kernel_rfl) (by kernel_rfl) (by kernel_rfl) (fun _ _ _ h => h) (Or.inl ⟨by rfl, fun w' hSw => ?_⟩) (unhide HC0) ?_
  · go_simp
  try simp only [Act.put, List.setIfInBounds_toArray, List.set_cons_zero, List.set_cons_succ]
  refine anyG_takel (i := 4) (v := (vO)) [8, 9, 10, 11] rfl (by kernel_rfl) (by kernel_rfl) (by kernel_rfl) (by kernel_rfl) (fun _ _ _ h => h) (Or.inl ⟨by rfl, fun w' hSw => ?_⟩) (unhide HC0) ?_
  · go_simp
  try simp only [Act.put, List.setIfInBounds_toArray, List.set_cons_zero, List.set_cons_succ]
  refine anyG_takel (i := 5) (v := (.slice au r.length cu)) [6, 7, 8, 9, 10, 11] rfl (by kernel_rfl) (by kernel_rfl) (by kernel_rfl) (by kernel_rfl) (fun _ _ _ h => h) (Or.inl ⟨by rfl, fun w' hSw => ?_⟩) (unhide HC0) ?_
  · go_simp
  try simp only [Act.put, List.setIfInBounds_toArray, List.set_cons_zero, List.set_cons_succ]
  refine anyG_one (i := 6) (by kernel_rfl) ?_
  refine wpOp_lit rfl (by rfl) fun K' hK' => ?_
  go_simp
  refine (unhide HCp _ (unhide HS0)).mono ?_
  rintro _ w2 ⟨v2, rfl, ⟨a2, c2, rfl, hq2, _⟩, hb2⟩
  go_simp
  have HS2 := hide (below_step (unhide HS0) hb2)
  refine unhide hK' _ _ ⟨fun _ => (clater c3 (unhide HS2)), ?_⟩
  clear hK' K'
  try simp only [Act.put, List.setIfInBounds_toArray, List.set_cons_zero, List.set_cons_succ]
  refine anyG_one (i := 7) (by kernel_rfl) ?_
  refine wpOp_lit rfl (by rfl) fun K' hK' => ?_
  go_simp
  have HS3 := hide (below_alloc (unhide HS2) (.cells #[.slice a2 r.length c2] 70))
  refine unhide hK' _ _ ⟨fun _ => (clater c3 (unhide HS3)), ?_⟩
  clear hK' K'
  try simp only [Act.put, List.setIfInBounds_toArray, List.set_cons_zero, List.set_cons_succ]
  refine anyG_one (i := 8) (by kernel_rfl) ?_
  refine wpOp_lit rfl (by rfl) fun K' hK' => ?_
  refine op_push_lst (.tmp 15) (.tmp 18) rfl vO Y.tick.out r rfl ((unhide HL).o.later (unhide HS3)) w2.heap.size (.slice a2 r.length c2) rfl (by simp [go_sem]) ⟨a2, c2, rfl, hq2.later (below_alloc (Below.refl _ w2) _), hrl⟩ (unhide HLen) ?_
  intro v3 w3 hL3 hg3 hK3
  obtain ⟨a3, k3, e3⟩ := hL3.form
  rw [List.length_append] at e3
  change v3 = .slice a3 (Y.tick.out.length + 1) k3 at e3
  subst e3
  have HP3 := hide (Py.push fb ((unhide HB).later (unhide HS3)) ((unhide HL).later (unhide HS3)) hL3 hg3 hK3)
  have f33 : w3.frozen? ⟨b, 3, none⟩ = false := (((unhide HB).later (unhide HS3)).ky hK3 (fun e => ((unhide HL).o.tg e).ne (unhide HB).tg (by decide) rfl)).fr 3
  have c33 := (((unhide HB).later (unhide HS3)).ky hK3 (fun e => ((unhide HL).o.tg e).ne (unhide HB).tg (by decide) rfl)).c3
  clear hL3 hg3 hK3
  refine unhide hK' _ _ ⟨fun _ => c33, ?_⟩
  clear hK' K'
  try simp only [Act.put, List.setIfInBounds_toArray, List.set_cons_zero, List.set_cons_succ]
  refine anyG_one (i := 9) (by kernel_rfl) ?_
  refine wpOp_lit rfl (by rfl) fun K' hK' => ?_
  go_simp
  refine unhide hK' _ _ ⟨fun _ => c33, ?_⟩
  clear hK' K'
  try simp only [Act.put, List.setIfInBounds_toArray, List.set_cons_zero, List.set_cons_succ]
  refine anyG_one (i := 10) (by kernel_rfl) ?_
  refine wpOp_lit rfl (by rfl) fun K' hK' => ?_
  go_simp
  refine unhide hK' _ _ ⟨fun _ => c33, ?_⟩
  clear hK' K'
  try simp only [Act.put, List.setIfInBounds_toArray, List.set_cons_zero, List.set_cons_succ]
  refine anyG_one (i := 11) (by kernel_rfl) ?_
  refine wpOp_lit rfl (by rfl) fun K' hK' => ?_
  go_simp
  refine unhide hK' _ _ ⟨fun hh => absurd hh (by decide), ?_⟩
  clear hK' K'
  try simp only [Act.put, List.setIfInBounds_toArray, List.set_cons_zero, List.set_cons_succ]
  refine anyG_done (by kernel_rfl) ?_ _
  refine NoPanic.normal ?_
  go_wp2
  go_ret
  obtain ⟨F', h1, h2, h3, h4⟩ := unhide HP3
  exact ⟨rfl, F', fun k hk => (h1 k hk).imp id (fun h => by have := (unhide HK).size; have := (unhide HS3).size; omega), h2, h3, (((unhide HK).mono fun k e => by subst e; exact fb).trans (Ky.of_below (unhide HS3)) (Nw.refl _ _)).trans h4 (Nw.refl _ _)⟩
end Go.Proofs.YtcbenpodohjbiaaGreat
set_option linter.unusedSimpArgs false
set_option linter.unusedVariables false
set_option maxRecDepth 100000
namespace Go.Proofs.YtcbenpodohjbiaaGreat
open Go.RowKit Go.Sort

theorem own_ix {w : World} {base e : Nat} {v : Value} {n i : Nat} {xs : List Value} {u : Value} (h : w.ownsRow base e 1 v n xs) (hu : xs[i]? = some u) : ∃ g c, v = .slice (some ⟨g, 0, none⟩) n c ∧ w.cell? ⟨g, i, none⟩ = some u ∧ w.frozen? ⟨g, i, none⟩ = false ∧ i < n := by
  have hi : i < n := by have := (List.getElem?_eq_some_iff.1 hu).1; have := h.1; omega
  rcases h.2 with ⟨_, h0⟩ | ⟨g, cap, cur, rfl, _⟩
  · omega
  · exact ⟨g, cap, rfl, by rw [World.ownsRow.cellAt h i (by omega)]; exact hu, World.ownsRow.frozenAt h i, hi⟩
/-- The i-th run's slice. -/
theorem Ys.ix {w : World} {Y : Yv} {op : Option Nat} {F : Nat → Prop} {vO vR vT : Value} {us : List Value} (h : Ys w Y op F vO vR vT us) {i : Nat} {rs : List (List Val)} (hr : Y.runs[i]? = some rs) : ∃ u gR cR, us[i]? = some u ∧ vR = .slice (some ⟨gR, 0, none⟩) us.length cR ∧ w.cell? ⟨gR, i, none⟩ = some u ∧ w.frozen? ⟨gR, i, none⟩ = false ∧ i < us.length := by
  have hi : i < us.length := by rw [h.l]; exact (List.getElem?_eq_some_iff.1 hr).1
  have hu : us[i]? = some us[i] := List.getElem?_eq_getElem hi
  obtain ⟨g, c, e, h1, h2, _⟩ := own_ix h.r hu
  exact ⟨_, g, c, hu, e, h1, h2, hi⟩
theorem Ys.tx {w : World} {Y : Yv} {op : Option Nat} {F : Nat → Prop} {vO vR vT : Value} {us : List Value} (h : Ys w Y op F vO vR vT us) {i : Nat} {t : Bool} (hr : Y.there[i]? = some t) : ∃ gT cT, vT = .slice (some ⟨gT, 0, none⟩) Y.there.length cT ∧ w.cell? ⟨gT, i, none⟩ = some (.bool t) ∧ w.frozen? ⟨gT, i, none⟩ = false ∧ i < Y.there.length := by
  have hu : (Y.there.map Value.bool)[i]? = some (.bool t) := by rw [List.getElem?_map, hr]; rfl
  exact own_ix h.t hu

set_option maxHeartbeats 2000000 in
/-- is (156), of a run that is there. -/
theorem is_yes {F : Nat → Prop} {b : Nat} {Y : Yv} {op : Option Nat} {w : World} (h : Py w b Y op F) {i : Nat} (hi : Y.there[i]? = some true) (hn : Y.runs.length ≤ 1048576) :
    Calls Tryz.prog 156 #[.pointer (some ⟨b, 0, none⟩), .int .i64 i] w fun e w' => e = .returned (.bool true) ∧ w' = w := by
  obtain ⟨fb, vO, vR, vT, us, hB, hl⟩ := h
  obtain ⟨gT, cT, rfl, c1, _, ht⟩ := hl.tx hi
  have hlt : i < us.length := by rw [hl.l, ← hl.lt]; exact ht
  obtain ⟨aR, cR, e⟩ : ∃ aR cR, vR = .slice aR us.length cR := by
    rcases hl.r.2 with ⟨e, h0⟩ | ⟨g, cap, cur, e, _⟩
    · omega
    · exact ⟨_, _, e⟩
  subst e
  have c9 := hB.c9
  have c10 := hB.c10
  have i1 : ((us.length : Int) ≤ (i : Int)) = False := by simp; omega
  have i2 : (i : Int) < (Y.there.length : Int) := by omega
  have i3 : ((i : Int) < 0) = False := by simp
  have i4 : (i : Int) < (us.length : Int) := by omega
  clear hB hl
  go_enter Tryz.func156, Tryz.ntmps156
  go_wp2
  go_ret
  exact ⟨rfl, rfl⟩

/-- The i-th run is another one. -/
theorem Ys.put {F : Nat → Prop} {w w1 : World} {b : Nat} {Y : Yv} {op : Option Nat} {vO vT u u' : Value} {us : List Value} {i gR n cR : Nat} {rs' : List (List Val)} (hl : Ys w Y op F vO (.slice (some ⟨gR, 0, none⟩) n cR) vT us) (hn : n = us.length) (hu : us[i]? = some u) (hi : i < Y.runs.length) (hK : Ky (fun k => u.ownBlock = some k) w w1)
    (new : ∀ g, u'.ownBlock = some g → u.ownBlock = some g ∨ w.heap.size ≤ g) (hT : ∀ g, u'.ownBlock = some g → Tg 70 w1 g) (hv : if op = some i then Lst w1 u' rs' else RunV w1 u' rs') :
    ∃ F', Nw F F' w ∧ (∀ k, F k → F' k) ∧ Ys (w1.setCell ⟨gR, i, none⟩ u') { Y with runs := Y.runs.set i rs' } op F' vO (.slice (some ⟨gR, 0, none⟩) n cR) vT (us.set i u') ∧ Ky (fun k => u.ownBlock = some k ∨ k = gR) w (w1.setCell ⟨gR, i, none⟩ u') ∧ F gR ∧ Tg 22 w gR ∧ ∀ g, u.ownBlock = some g → F g ∧ Tg 70 w g := by
  subst hn
  obtain ⟨rs0, hr0⟩ : ∃ rs0, Y.runs[i]? = some rs0 := ⟨_, List.getElem?_eq_getElem hi⟩
  obtain ⟨_, hub⟩ := hl.e i u rs0 hu hr0
  have tR : Tg 22 w gR := own_tg hl.r rfl
  have nR : ¬ u.ownBlock = some gR := fun e => (hub gR e).2.2.ne tR (by decide) rfl
  have tR1 : Tg 22 w1 gR := hK.tg tR nR
  have hR1 := own_ky hl.r hK (fun g e q => by injection e with e; subst e; exact nR q)
  have hS := World.ownsRow.stored hR1 i u'
  have hK2 : Ky (fun k => k = gR) w1 (w1.setCell ⟨gR, i, none⟩ u') := (Ky.refl (fun k => k = gR) w1).set (F := fun k => k = gR) rfl tR1 (by decide) _ _
  have nO : ∀ g, vO.ownBlock = some g → ¬ u.ownBlock = some g := fun g e q => (hub g q).2.1 e
  have oO := hl.o.ky hK nO
  have oT := own_ky hl.t hK (fun g e q => (own_tg hl.t e).ne (hub g q).2.2 (by decide) rfl)
  have t22 : ∀ g t, Tg t w1 g → t ≠ 22 → ¬ g = gR := fun g t ht hn e => by subst e; exact ht.ne tR1 hn rfl
  refine ⟨fun k => F k ∨ u'.ownBlock = some k, fun k hk => ?_, fun k hk => .inl hk, ⟨oO.ky hK2 (fun g e => t22 g 70 (oO.tg e) (by decide)), fun g e => .inl (hl.fo g e), ?_, fun g e => .inl (hl.fr g e), by simp [hl.l], own_ky oT hK2 (fun g e => t22 g 4 (own_tg oT e) (by decide)), fun g e => .inl (hl.ft g e), by simp [hl.lt], ?_, ?_⟩, ?_, hl.fr gR rfl, tR, fun g e => ⟨(hub g e).1, (hub g e).2.2⟩⟩
  · rcases hk with hk | hk
    · exact .inl hk
    · rcases new k hk with q | q
      · exact .inl (hub k q).1
      · exact .inr q
  · have := hS.1
    rw [List.length_set]
    exact this
  · intro j x rs hx hr
    by_cases e : j = i
    · subst e
      rw [List.getElem?_set, if_pos rfl, if_pos (by rw [hl.l]; exact hi)] at hx
      injection hx with hx
      subst hx
      change (Y.runs.set j rs')[j]? = some rs at hr
      rw [List.getElem?_set, if_pos rfl, if_pos hi] at hr
      injection hr with hr
      subst hr
      have q := hT
      refine ⟨?_, fun g e => ⟨.inr e, fun e2 => ?_, hK2.tg (hT g e) (t22 g 70 (hT g e) (by decide))⟩⟩
      · split
        · rename_i e
          rw [if_pos e] at hv
          exact hv.ky hK2 (fun g e => t22 g 70 (hT g e) (by decide))
        · rename_i e
          rw [if_neg e] at hv
          exact hv.ky hK2 (fun g e => t22 g 70 (hT g e) (by decide))
      · rcases new g e with q | q
        · exact nO g e2 q
        · have := (hl.o.tg e2).lt; omega
    · rw [List.getElem?_set, if_neg (Ne.symm e)] at hx
      change (Y.runs.set i rs')[j]? = some rs at hr
      rw [List.getElem?_set, if_neg (Ne.symm e)] at hr
      obtain ⟨h1, h2⟩ := hl.e j x rs hx hr
      have n1 : ∀ g, x.ownBlock = some g → ¬ u.ownBlock = some g := fun g q => hl.d j i x u g e hx hu q
      have t1 : ∀ g, x.ownBlock = some g → Tg 70 w1 g := fun g q => hK.tg (h2 g q).2.2 (n1 g q)
      have n2 : ∀ g, x.ownBlock = some g → ¬ g = gR := fun g q => t22 g 70 (t1 g q) (by decide)
      refine ⟨?_, fun g q => ⟨.inl (h2 g q).1, (h2 g q).2.1, hK2.tg (t1 g q) (n2 g q)⟩⟩
      split
      · rename_i e
        rw [if_pos e] at h1
        exact (h1.ky hK n1).ky hK2 n2
      · rename_i e
        rw [if_neg e] at h1
        exact (h1.ky hK n1).ky hK2 n2
  · intro j k x y g hjk hx hy hg hg'
    by_cases ej : j = i
    · subst ej
      rw [List.getElem?_set, if_pos rfl, if_pos (by rw [hl.l]; exact hi)] at hx
      injection hx with hx
      subst hx
      rw [List.getElem?_set, if_neg hjk] at hy
      have hk : k < Y.runs.length := by rw [← hl.l]; exact (List.getElem?_eq_some_iff.1 hy).1
      rcases new g hg with q | q
      · exact hl.d j k u y g hjk hu hy q hg'
      · have := ((hl.e k y _ hy (List.getElem?_eq_getElem hk)).2 g hg').2.2.lt; omega
    · rw [List.getElem?_set, if_neg (Ne.symm ej)] at hx
      by_cases ek : k = i
      · subst ek
        rw [List.getElem?_set, if_pos rfl, if_pos (by rw [hl.l]; exact hi)] at hy
        injection hy with hy
        subst hy
        have hj : j < Y.runs.length := by rw [← hl.l]; exact (List.getElem?_eq_some_iff.1 hx).1
        rcases new g hg' with q | q
        · exact hl.d j k x u g ej hx hu hg q
        · have := ((hl.e j x _ hx (List.getElem?_eq_getElem hj)).2 g hg).2.2.lt; omega
      · rw [List.getElem?_set, if_neg (Ne.symm ek)] at hy
        exact hl.d j k x y g hjk hx hy hg hg'
  · exact (hK.mono fun k e => .inl e).trans (hK2.mono fun k e => .inr e) (Nw.refl _ _)
end Go.Proofs.YtcbenpodohjbiaaGreat
set_option linter.unusedSimpArgs false
set_option linter.unusedVariables false
set_option maxRecDepth 100000
namespace Go.Proofs.YtcbenpodohjbiaaGreat
open Go.RowKit Go.Sort

def Yv.drop (Y : Yv) (i : Nat) : Yv := { Y with there := Y.there.set i false, runs := Y.runs.set i [] }
theorem Ys.setT {F : Nat → Prop} {w : World} {Y : Yv} {op : Option Nat} {vO vR : Value} {us : List Value} {i gT n cT : Nat} (hl : Ys w Y op F vO vR (.slice (some ⟨gT, 0, none⟩) n cT) us) (hn : n = Y.there.length) (t : Bool) :
    Ys (w.setCell ⟨gT, i, none⟩ (.bool t)) { Y with there := Y.there.set i t } op F vO vR (.slice (some ⟨gT, 0, none⟩) n cT) us ∧ Ky (fun k => k = gT) w (w.setCell ⟨gT, i, none⟩ (.bool t)) ∧ F gT ∧ Tg 4 w gT := by
  subst hn
  have tT : Tg 4 w gT := own_tg hl.t rfl
  have hK : Ky (fun k => k = gT) w (w.setCell ⟨gT, i, none⟩ (.bool t)) := (Ky.refl (fun k => k = gT) w).set (F := fun k => k = gT) rfl tT (by decide) _ _
  have t4 : ∀ g t, Tg t w g → t ≠ 4 → ¬ g = gT := fun g t ht hn e => by subst e; exact ht.ne tT hn rfl
  have hS := World.ownsRow.stored hl.t i (.bool t)
  refine ⟨⟨hl.o.ky hK (fun g e => t4 g 70 (hl.o.tg e) (by decide)), hl.fo, own_ky hl.r hK (fun g e => t4 g 22 (own_tg hl.r e) (by decide)), hl.fr, hl.l, ?_, hl.ft, by simp [hl.lt], fun j x rs hx hr => ?_, hl.d⟩, hK, hl.ft gT rfl, tT⟩
  · have := hS.1
    show World.ownsRow _ 0 4 1 _ (Y.there.set i t).length ((Y.there.set i t).map Value.bool)
    rw [List.length_set, List.map_set]
    exact this
  · obtain ⟨h1, h2⟩ := hl.e j x rs hx hr
    have n1 : ∀ g, x.ownBlock = some g → ¬ g = gT := fun g q => t4 g 70 (h2 g q).2.2 (by decide)
    refine ⟨?_, fun g q => ⟨(h2 g q).1, (h2 g q).2.1, hK.tg (h2 g q).2.2 (n1 g q)⟩⟩
    split
    · rename_i e
      rw [if_pos e] at h1
      exact h1.ky hK n1
    · rename_i e
      rw [if_neg e] at h1
      exact h1.ky hK n1
set_option maxHeartbeats 2000000 in
/-- Drop (151), of a run that is there. -/
theorem drop_any {F : Nat → Prop} {b : Nat} {Y : Yv} {op : Option Nat} {w : World} (h : Py w b Y op F) {i : Nat} (hi : Y.there[i]? = some true) (hn : Y.runs.length ≤ 1048576) :
    Calls Tryz.prog 151 #[.pointer (some ⟨b, 0, none⟩), .int .i64 i] w fun e w' => e = .returned (.int .i64 0) ∧ ∃ F', Nw F F' w ∧ (∀ k, F k → F' k) ∧ Py w' b (Y.drop i) op F' ∧ Ky F w w' := by
  have HI := hide (is_yes h hi hn)
  obtain ⟨fb, vO, vR, vT, us, hB, hl⟩ := h
  obtain ⟨gT, cT, rfl, c1, f1, ht⟩ := hl.tx hi
  have hir : i < Y.runs.length := by rw [← hl.lt]; exact ht
  obtain ⟨u, gR, cR, hu, rfl, d1, g1, hlt⟩ := hl.ix (List.getElem?_eq_getElem hir)
  have c9 := hB.c9
  have c10 := hB.c10
  have i2 : (i : Int) < (Y.there.length : Int) := by omega
  have i4 : (i : Int) < (us.length : Int) := by omega
  have hT := hl.setT (i := i) rfl false
  have n1 : ¬ b = gT := fun e => by subst e; exact hB.tg.ne hT.2.2.2 (by decide) rfl
  have n2 : ¬ gR = gT := fun e => by subst e; exact (own_tg hl.r (g := gR) rfl).ne hT.2.2.2 (by decide) rfl
  have n1' : ¬ gT = b := fun e => n1 e.symm
  have n2' : ¬ gT = gR := fun e => n2 e.symm
  have e9 := hT.2.1.cell c9 n1
  have d2 := hT.2.1.cell d1 n2
  have g2 : (w.setCell ⟨gT, i, none⟩ (.bool false)).frozen? ⟨gR, i, none⟩ = false := (hT.2.1.frozen (World.block_lt_of_cell? _ _ d1) n2).trans g1
  have HPut := hide (Ys.put (b := b) (u' := .slice none 0 0) (rs' := []) hT.1 rfl hu hir (Ky.refl _ _) (fun g e => by cases e) (fun g e => by cases e) (by split; exact Lst.nil _; exact (Lst.nil _).run))
  have HB := hide hB
  have HT := hide hT
  clear hB hT hl d1 g1 c9
  obtain ⟨w1, hw1⟩ : ∃ w1, w.setCell ⟨gT, i, none⟩ (.bool false) = w1 := ⟨_, rfl⟩
  rw [hw1] at e9 d2 g2 HPut HT
  have nbR : ¬ b = gR := fun e => by subst e; exact ((unhide HT).2.1.tg (unhide HB).tg n1).ne (own_tg (unhide HT).1.r (g := b) rfl) (by decide) rfl
  go_enter Tryz.func151, Tryz.ntmps151
  go_wp2_with (first | (go_at_call 156; refine (unhide HI).mono ?_; rintro _ _ ⟨rfl, rfl⟩))
  go_ret
  obtain ⟨F', p1, p2, p3, p4, p5, p6, p7⟩ := unhide HPut
  have fT := (unhide HT).2.2.1
  refine ⟨rfl, F', fun k hk => (p1 k hk).imp id (fun q => by have := (unhide HT).2.1.size; omega), p2, ⟨p2 _ fb, vO, _, _, _, ?_, p3⟩, ?_⟩
  · have q := ((unhide HB).ky (unhide HT).2.1 n1).ky p4 (fun e => by
      rcases e with e | e
      · exact ((unhide HT).2.1.tg (unhide HB).tg n1).ne (p7 _ e).2 (by decide) rfl
      · exact nbR e)
    exact ⟨q.tg, q.fr, q.c0, q.c1, q.c2, q.c3, q.c4, q.c5, q.c6, q.c7, q.c8, q.c9, q.c10⟩
  · exact ((unhide HT).2.1.mono fun k e => by subst e; exact fT).trans (p4.mono fun k e => by rcases e with e | e; exact (p7 _ e).1; subst e; exact p5) (Nw.refl _ _)
end Go.Proofs.YtcbenpodohjbiaaGreat

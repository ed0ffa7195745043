import Derived.Test.YtcbenpodohjbiaaGreatSpH
set_option linter.unusedSimpArgs false
set_option linter.unusedVariables false
set_option maxRecDepth 100000
namespace Go.Proofs.YtcbenpodohjbiaaGreat
open Go.RowKit Go.Sort

set_option maxHeartbeats 2000000 in
/-- Put (167), refused. -/
theorem put_hit {F : Nat → Prop} {b : Nat} {Y : Yv} {op : Option Nat} {w : World} (i u : Value) (h : Py w b Y op F) (hr : Y.rd = false) (hh : Y.hit = true) (hc : Y.cd ≠ 0) :
    Calls Tryz.prog 167 #[.pointer (some ⟨b, 0, none⟩), i, u] w fun e w' => e = .returned (.int .i64 Y.cd) ∧ Py w' b Y.tick op F ∧ Ky (fun k => k = b) w w' := by
  have HC := hide (call_any h hr)
  rw [hh] at HC
  have h1 : (Y.cd != 0) = true := by simpa using hc
  clear h hc hr hh
  go_enter Tryz.func167, Tryz.ntmps167
  go_wp2_with (first | (go_at_call 158; refine (unhide HC).mono ?_; rintro _ w1 ⟨rfl, hP, hK⟩))
  go_ret
  exact ⟨rfl, hP, hK⟩
/-- A row is put into a run. -/
def Yv.put (Y : Yv) (i : Nat) (rs : List (List Val)) : Yv := { Y with runs := Y.runs.set i rs, puts := Y.puts + 1 }

set_option maxHeartbeats 4000000 in
/-- Put (167). -/
theorem put_ok {F : Nat → Prop} {b : Nat} {Y : Yv} {w : World} {u : Value} {r : List Val} {i : Nat} {rs : List (List Val)} (h : Py w b Y (some i) F) (hur : Rw w u r) (hi : Y.there[i]? = some true) (hrs : Y.runs[i]? = some rs) (hn : Y.runs.length ≤ 1048576) (hm : rs.length ≤ 1048576) (h0 : 1 ≤ Y.held) (h1 : Y.held ≤ 1048576) (h2 : 0 ≤ Y.puts) (h3 : Y.puts ≤ 1099511627776) (hr : Y.rd = false) (hh : Y.hit = false) :
    Calls Tryz.prog 167 #[.pointer (some ⟨b, 0, none⟩), .int .i64 i, u] w fun e w' => e = .returned (.int .i64 0) ∧ ∃ F', Nw F F' w ∧ (∀ k, F k → F' k) ∧ Py w' b ((Y.tick.put i (rs ++ [r])).hold (-1)) (some i) F' ∧ Ky F w w' := by
  obtain ⟨au, cu, rfl, hra, hrl⟩ := hur
  have HC := hide (call_any h hr)
  rw [hh] at HC
  have HR := hide hra
  have HY : Hid (1 ≤ Y.held ∧ Y.held ≤ 1048576 ∧ 0 ≤ Y.puts ∧ Y.puts ≤ 1099511627776) := ⟨h0, h1, h2, h3⟩
  have HLen : Hid (rs.length + 1 ≤ 4398046511104) := by show rs.length + 1 ≤ _; omega
  have hir : i < Y.runs.length := (List.getElem?_eq_some_iff.1 hrs).1
  clear h hr hh hra h0 h1 h2 h3
  go_enter Tryz.func167, Tryz.ntmps167
  go_upto_region 4 with (first | (go_at_call 158; refine (unhide HC).mono ?_; rintro _ w1 ⟨rfl, hP, hK⟩; have HP := hide hP; have HK := hide hK; have HI := hide (is_yes hP hi hn); clear hP hK) | (go_at_call 156; refine (unhide HI).mono ?_; rintro _ w9 ⟨rfl, hw9⟩; rw [hw9]; clear hw9))
  obtain ⟨fb, vO, vR, vT, us, hB, hl⟩ := unhide HP
  obtain ⟨u0, gR, cR, hu, rfl, ci, fi, hlt⟩ := hl.ix (i := i) (rs := rs) hrs
  obtain ⟨hrun, hub⟩ := hl.e i u0 rs hu hrs
  rw [if_pos rfl] at hrun
  obtain ⟨a0, c0, rfl⟩ := hrun.form
  have c9 := hB.c9
  have HB := hide hB
  have HL := hide hl
  have HRun := hide hrun
  have HUB : Hid (∀ g, (Value.slice a0 rs.length c0).ownBlock = some g → Tg 70 w1 g) := fun g e => (hub g e).2.2
  have HCp := hide (fun (w2 : World) (hb : Below w1.heap.size w1 w2) => copied_any au cu r w2 hrl ((unhide HR).ky (unhide HK) |>.at.later hb))
  have i4 : (i : Int) < (us.length : Int) := by omega
  have HS0 : Hid (Below w1.heap.size w1 w1.drew) := (Below.refl _ _).drew
  have HC0 : Hid (w1.drew.cell? ⟨b, 9, none⟩ = some (.slice (some ⟨gR, 0, none⟩) us.length cR) ∧ w1.drew.cell? ⟨gR, i, none⟩ = some (.slice a0 rs.length c0)) := ⟨clater c9 (unhide HS0), clater ci (unhide HS0)⟩
  clear hB hl hrun hub fi
  refine wp_region_noPanic ?_
  refine wp_region_G (S := fun W : World => W.cell? ⟨b, 9, none⟩ = some (.slice (some ⟨gR, 0, none⟩) us.length cR) ∧ W.cell? ⟨gR, i, none⟩ = some (.slice a0 rs.length c0)) (k := 17) (by kernel_rfl) ?_
  refine anyG_takel (i := 0) (v := (.pointer (some ⟨b, 0, none⟩))) [1, 2, 3, 16, 17] rfl (by kernel_rfl) (by kernel_rfl) (by kernel_rfl) (by kernel_rfl) (fun _ _ _ h => h) (Or.inl ⟨by rfl, fun w' hSw => ?_⟩) (unhide HC0) ?_
  · go_simp
  try simp only [Act.put, List.setIfInBounds_toArray, List.set_cons_zero, List.set_cons_succ]
  refine anyG_takel (i := 1) (v := (.pointer (some ⟨b, 0, none⟩))) [2, 3, 16, 17] rfl (by kernel_rfl) (by kernel_rfl) (by kernel_rfl) (by kernel_rfl) (fun _ _ _ h => h) (Or.inl ⟨by rfl, fun w' hSw => ?_⟩) (unhide HC0) ?_
  · go_simp
  try simp only [Act.put, List.setIfInBounds_toArray, List.set_cons_zero, List.set_cons_succ]
  refine anyG_takel (i := 2) (v := (.pointer (some ⟨b, 9, none⟩))) [3, 16, 17] rfl (by kernel_rfl) (by kernel_rfl) (by kernel_rfl) (by kernel_rfl) (fun _ _ _ h => h) (Or.inl ⟨by rfl, fun w' hSw => ?_⟩) (unhide HC0) ?_
  · go_simp
  try simp only [Act.put, List.setIfInBounds_toArray, List.set_cons_zero, List.set_cons_succ]
  refine anyG_takel (i := 3) (v := (.slice (some ⟨gR, 0, none⟩) us.length cR)) [16, 17] rfl (by kernel_rfl) (by kernel_rfl) (by kernel_rfl) (by kernel_rfl) (fun _ _ _ h => h) (Or.inl ⟨by rfl, fun w' hSw => ?_⟩) (unhide HC0) ?_
  · obtain ⟨e9, ei⟩ := hSw; go_simp
  try simp only [Act.put, List.setIfInBounds_toArray, List.set_cons_zero, List.set_cons_succ]
  refine anyG_takel (i := 4) (v := (.int .i64 (i : Int))) [16, 17] rfl (by kernel_rfl) (by kernel_rfl) (by kernel_rfl) (by kernel_rfl) (fun _ _ _ h => h) (Or.inl ⟨by rfl, fun w' hSw => ?_⟩) (unhide HC0) ?_
  · go_simp
  try simp only [Act.put, List.setIfInBounds_toArray, List.set_cons_zero, List.set_cons_succ]
  refine anyG_takel (i := 5) (v := (.pointer (some ⟨b, 0, none⟩))) [6, 7, 8, 10, 11, 15, 16, 17] rfl (by kernel_rfl) (by kernel_rfl) (by kernel_rfl) (by kernel_rfl) (fun _ _ _ h => h) (Or.inl ⟨by rfl, fun w' hSw => ?_⟩) (unhide HC0) ?_
  · go_simp
  try simp only [Act.put, List.setIfInBounds_toArray, List.set_cons_zero, List.set_cons_succ]
  refine anyG_takel (i := 6) (v := (.pointer (some ⟨b, 0, none⟩))) [7, 8, 10, 11, 15, 16, 17] rfl (by kernel_rfl) (by kernel_rfl) (by kernel_rfl) (by kernel_rfl) (fun _ _ _ h => h) (Or.inl ⟨by rfl, fun w' hSw => ?_⟩) (unhide HC0) ?_
  · go_simp
  try simp only [Act.put, List.setIfInBounds_toArray, List.set_cons_zero, List.set_cons_succ]
  refine anyG_takel (i := 7) (v := (.pointer (some ⟨b, 9, none⟩))) [8, 10, 11, 15, 16, 17] rfl (by kernel_rfl) (by kernel_rfl) (by kernel_rfl) (by kernel_rfl) (fun _ _ _ h => h) (Or.inl ⟨by rfl, fun w' hSw => ?_⟩) (unhide HC0) ?_
  · go_simp
  try simp only [Act.put, List.setIfInBounds_toArray, List.set_cons_zero, List.set_cons_succ]
  refine anyG_takel (i := 8) (v := (.slice (some ⟨gR, 0, none⟩) us.length cR)) [10, 11, 15, 16, 17] rfl (by kernel_rfl) (by kernel_rfl) (by kernel_rfl) (by kernel_rfl) (fun _ _ _ h => h) (Or.inl ⟨by rfl, fun w' hSw => ?_⟩) (unhide HC0) ?_
  · obtain ⟨e9, ei⟩ := hSw; go_simp
  try simp only [Act.put, List.setIfInBounds_toArray, List.set_cons_zero, List.set_cons_succ]
  refine anyG_takel (i := 9) (v := (.int .i64 (i : Int))) [10, 11, 15, 16, 17] rfl (by kernel_rfl) (by kernel_rfl) (by kernel_rfl) (by kernel_rfl) (fun _ _ _ h => h) (Or.inl ⟨by rfl, fun w' hSw => ?_⟩) (unhide HC0) ?_
  · go_simp
  try simp only [Act.put, List.setIfInBounds_toArray, List.set_cons_zero, List.set_cons_succ]
  refine anyG_takel (i := 10) (v := (.pointer (some ⟨gR, i, none⟩))) [11, 15, 16, 17] rfl (by kernel_rfl) (by kernel_rfl) (by kernel_rfl) (by kernel_rfl) (fun _ _ _ h => h) (Or.inl ⟨by rfl, fun w' hSw => ?_⟩) (unhide HC0) ?_
  · go_simp
  try simp only [Act.put, List.setIfInBounds_toArray, List.set_cons_zero, List.set_cons_succ]
  refine anyG_takel (i := 11) (v := (.slice a0 rs.length c0)) [15, 16, 17] rfl (by kernel_rfl) (by kernel_rfl) (by kernel_rfl) (by kernel_rfl) (fun _ _ _ h => h) (Or.inl ⟨by rfl, fun w' hSw => ?_⟩) (unhide HC0) ?_
  · obtain ⟨e9, ei⟩ := hSw; go_simp
  try simp only [Act.put, List.setIfInBounds_toArray, List.set_cons_zero, List.set_cons_succ]
  refine anyG_takel (i := 12) (v := (.slice au r.length cu)) [13, 14, 15, 16, 17] rfl (by kernel_rfl) (by kernel_rfl) (by kernel_rfl) (by kernel_rfl) (fun _ _ _ h => h) (Or.inl ⟨by rfl, fun w' hSw => ?_⟩) (unhide HC0) ?_
  · go_simp
  try simp only [Act.put, List.setIfInBounds_toArray, List.set_cons_zero, List.set_cons_succ]
  refine anyG_one (i := 13) (by kernel_rfl) ?_
  refine wpOp_lit rfl (by rfl) fun K' hK' => ?_
  go_simp
  refine (unhide HCp _ (unhide HS0)).mono ?_
  rintro _ w2 ⟨v2, rfl, ⟨a2, c2, rfl, hq2, _⟩, hb2⟩
  go_simp
  have HS2 := hide (below_step (unhide HS0) hb2)
  refine unhide hK' _ _ ⟨fun _ => ⟨clater c9 (unhide HS2), clater ci (unhide HS2)⟩, ?_⟩
  clear hK' K'
  try simp only [Act.put, List.setIfInBounds_toArray, List.set_cons_zero, List.set_cons_succ]
  refine anyG_one (i := 14) (by kernel_rfl) ?_
  refine wpOp_lit rfl (by rfl) fun K' hK' => ?_
  go_simp
  have HS3 := hide (below_alloc (unhide HS2) (.cells #[.slice a2 r.length c2] 70))
  refine unhide hK' _ _ ⟨fun _ => ⟨clater c9 (unhide HS3), clater ci (unhide HS3)⟩, ?_⟩
  clear hK' K'
  try simp only [Act.put, List.setIfInBounds_toArray, List.set_cons_zero, List.set_cons_succ]
  refine anyG_one (i := 15) (by kernel_rfl) ?_
  refine wpOp_lit rfl (by rfl) fun K' hK' => ?_
  refine op_push_lst (.tmp 30) (.tmp 33) rfl (.slice a0 rs.length c0) rs r rfl ((unhide HRun).later (unhide HS3)) w2.heap.size (.slice a2 r.length c2) rfl (by simp [go_sem]) ⟨a2, c2, rfl, hq2.later (below_alloc (Below.refl _ w2) _), hrl⟩ (unhide HLen) ?_
  intro v3 w3 hL3 hg3 hK3
  obtain ⟨a3, k3, e3⟩ := hL3.form
  rw [List.length_append] at e3
  change v3 = .slice a3 (rs.length + 1) k3 at e3
  subst e3
  have HPut := hide (Ys.put (b := b) (u' := .slice a3 (rs.length + 1) k3) (rs' := rs ++ [r]) ((unhide HL).later (unhide HS3)) rfl hu hir hK3 (fun g e => by rcases hg3.2 with q | ⟨q, q1, q2⟩; left; rw [← q]; exact e; right; rw [q1] at e; injection e with e; omega) (fun g e => hL3.tg e) (by rw [if_pos rfl]; exact hL3))
  have nb3 : ¬ (Value.slice a0 rs.length c0).ownBlock = some b := fun e => ((unhide HUB) _ e).ne (unhide HB).tg (by decide) rfl
  have ngR : ¬ (Value.slice a0 rs.length c0).ownBlock = some gR := fun e => ((unhide HUB) _ e).ne (own_tg (unhide HL).r (g := gR) rfl) (by decide) rfl
  have c93 := hK3.cell (clater c9 (unhide HS3)) nb3
  have ci3 := hK3.cell (clater ci (unhide HS3)) ngR
  have fi3 : w3.frozen? ⟨gR, i, none⟩ = false := (hK3.frozen (World.block_lt_of_cell? _ _ (clater ci (unhide HS3))) ngR).trans (World.ownsRow.frozenAt ((unhide HL).later (unhide HS3)).r i)
  have HB3 := hide (((unhide HB).later (unhide HS3)).ky hK3 nb3)
  have HK3 := hide hK3
  clear hL3 hg3 hK3
  refine unhide hK' _ _ ⟨fun _ => ⟨c93, ci3⟩, ?_⟩
  clear hK' K'
  try simp only [Act.put, List.setIfInBounds_toArray, List.set_cons_zero, List.set_cons_succ]
  refine anyG_one (i := 16) (by kernel_rfl) ?_
  refine wpOp_lit rfl (by rfl) fun K' hK' => ?_
  go_simp
  refine unhide hK' _ _ ⟨fun _ => ⟨c93, ci3⟩, ?_⟩
  clear hK' K'
  try simp only [Act.put, List.setIfInBounds_toArray, List.set_cons_zero, List.set_cons_succ]
  refine anyG_one (i := 17) (by kernel_rfl) ?_
  refine wpOp_lit rfl (by rfl) fun K' hK' => ?_
  go_simp
  refine unhide hK' _ _ ⟨fun hh => absurd hh (by decide), ?_⟩
  clear hK' K'
  try simp only [Act.put, List.setIfInBounds_toArray, List.set_cons_zero, List.set_cons_succ]
  refine anyG_done (by kernel_rfl) ?_ _
  refine NoPanic.normal ?_
  obtain ⟨F', p1, p2, p3, p4, p5, p6, p7⟩ := unhide HPut
  have nbR : ¬ b = gR := fun e => by subst e; exact (unhide HB).tg.ne (own_tg (unhide HL).r (g := b) rfl) (by decide) rfl
  have HB4 := hide (((unhide HB).later (unhide HS3)).ky p4 (fun e => by
      rcases e with e | e
      · exact nb3 e
      · exact nbR e))
  have HP3 := hide p3
  have HP4 := hide p4
  have HP7 := hide p7
  have HF5 := hide p5
  have HP1 := hide p1
  obtain ⟨w4, hw4⟩ : ∃ w4, w3.setCell ⟨gR, i, none⟩ (.slice a3 (rs.length + 1) k3) = w4 := ⟨_, rfl⟩
  rw [hw4] at HB4 HP3 HP4 ⊢
  have e2 : w4.cell? ⟨b, 2, none⟩ = some (.int .i64 Y.puts) := (unhide HB4).c2
  have f2 := (unhide HB4).fr 2
  have ew : IntKind.i64.wrap (Y.puts + 1) = Y.puts + 1 := IntWalk.i64_in _ (by have := unhide HY; omega)
  have HB5 := hide ((unhide HB4).set_puts (Y.puts + 1))
  have HK5 := hide ((unhide HB4).ky_puts (Y.puts + 1))
  have HP5 : Hid (Py (w4.setCell ⟨b, 2, none⟩ (.int .i64 (Y.puts + 1))) b (Y.tick.put i (rs ++ [r])) (some i) F') := Py.upd (Y := { Y.tick with runs := Y.runs.set i (rs ++ [r]) }) (p2 _ fb) (by have q := unhide HB4; exact ⟨q.tg, q.fr, q.c0, q.c1, q.c2, q.c3, q.c4, q.c5, q.c6, q.c7, q.c8, q.c9, q.c10⟩) (unhide HP3) (unhide HK5) (by have q := unhide HB5; exact ⟨q.tg, q.fr, q.c0, q.c1, q.c2, q.c3, q.c4, q.c5, q.c6, q.c7, q.c8, q.c9, q.c10⟩) rfl rfl rfl
  have HHo := hide (hold_any (unhide HP5) (-1) (by have := unhide HY; show 0 ≤ Y.held + -1; omega) (by have := unhide HY; show Y.held + -1 ≤ _; omega))
  clear hw4 p1 p3 p4 p7 p5 c93 ci3 fi3
  go_wp2_with (first | (go_at_call 157; refine (unhide HHo).mono ?_; rintro _ w6 ⟨rfl, hP6, hK6⟩))
  go_ret
  refine ⟨rfl, F', fun k hk => (unhide HP1 k hk).imp id (fun q => by have := (unhide HK).size; have := (unhide HS3).size; omega), p2, hP6, ?_⟩
  have kb : ∀ k, k = b → F k := fun k e => by subst e; exact fb
  exact (((((unhide HK).mono kb).trans (Ky.of_below (F := F) (unhide HS3)) (Nw.refl _ _)).trans ((unhide HP4).mono fun k e => by rcases e with e | e; exact ((unhide HP7) _ e).1; subst e; exact unhide HF5) (Nw.refl _ _)).trans ((unhide HK5).mono kb) (Nw.refl _ _)).trans (hK6.mono kb) (Nw.refl _ _)
end Go.Proofs.YtcbenpodohjbiaaGreat
set_option linter.unusedSimpArgs false
set_option linter.unusedVariables false
set_option maxRecDepth 100000
namespace Go.Proofs.YtcbenpodohjbiaaGreat
open Go.RowKit Go.Sort

set_option maxHeartbeats 2000000 in
/-- Next of a run (154), refused. -/
theorem next_hit {F : Nat → Prop} {b : Nat} {Y : Yv} {op : Option Nat} {w : World} (i : Value) (h : Py w b Y op F) (hr : Y.rd = false) (hh : Y.hit = true) (hc : Y.cd ≠ 0) :
    Calls Tryz.prog 154 #[.pointer (some ⟨b, 0, none⟩), i] w fun e w' => e = .returned (.tuple #[.slice none 0 0, .bool false, .int .i64 Y.cd]) ∧ Py w' b Y.tick op F ∧ Ky (fun k => k = b) w w' := by
  have HC := hide (call_any h hr)
  rw [hh] at HC
  have h1 : (Y.cd != 0) = true := by simpa using hc
  clear h hc hr hh
  go_enter Tryz.func154, Tryz.ntmps154
  go_wp2_with (first | (go_at_call 158; refine (unhide HC).mono ?_; rintro _ w1 ⟨rfl, hP, hK⟩))
  exact bodyPost_ret (v := .tuple #[.slice none 0 0, .bool false, .int .i64 Y.cd]) (by simp [results, Tryz.results154, go_sem]) rfl ⟨rfl, hP, hK⟩
set_option maxHeartbeats 2000000 in
/-- Next of a run, behind its last row. -/
theorem next_end {F : Nat → Prop} {b : Nat} {Y : Yv} {op : Option Nat} {w : World} {i : Nat} (h : Py w b Y op F) (hop : op ≠ some i) (hi : Y.there[i]? = some true) (hrs : Y.runs[i]? = some []) (hn : Y.runs.length ≤ 1048576) (hr : Y.rd = false) (hh : Y.hit = false) :
    Calls Tryz.prog 154 #[.pointer (some ⟨b, 0, none⟩), .int .i64 i] w fun e w' => e = .returned (.tuple #[.slice none 0 0, .bool false, .int .i64 0]) ∧ Py w' b Y.tick op F ∧ Ky (fun k => k = b) w w' := by
  have HC := hide (call_any h hr)
  rw [hh] at HC
  clear h hr hh
  go_enter Tryz.func154, Tryz.ntmps154
  go_upto_region 2 with (first | (go_at_call 158; refine (unhide HC).mono ?_; rintro _ w1 ⟨rfl, hP, hK⟩; have HP := hide hP; have HK := hide hK; have HI := hide (is_yes hP hi hn); clear hP hK))
  obtain ⟨fb, vO, vR, vT, us, hB, hl⟩ := unhide HP
  obtain ⟨u0, gR, cR, hu, rfl, ci, fi, hlt⟩ := hl.ix (i := i) (rs := []) hrs
  obtain ⟨hrun, _⟩ := hl.e i u0 [] hu hrs
  rw [if_neg hop] at hrun
  obtain ⟨a0, c0, rfl, _, _⟩ := hrun
  have c9 := hB.c9
  have i4 : (i : Int) < (us.length : Int) := by omega
  simp only [List.length_nil] at ci
  clear hB hl fi hu
  go_wp2_with (first | (go_at_call 156; refine (unhide HI).mono ?_; rintro _ w9 ⟨rfl, hw9⟩; rw [hw9]; clear hw9))
  exact bodyPost_ret (v := .tuple #[.slice none 0 0, .bool false, .int .i64 0]) (by simp [results, Tryz.results154, go_sem]) rfl ⟨rfl, unhide HP, unhide HK⟩
theorem slice_lo22 (g off n c : Nat) (W : World) : (Instr.slice 22 (.slice (some ⟨g, off, none⟩) (n + 1) c) (some (.int .i64 1)) none none).run Tryz.prog W = .ok (.slice (if c = 1 then some ⟨g, off, none⟩ else some ⟨g, off + 1, none⟩) n (c - 1)) W := by
  obtain ⟨i, hi, _, hz, _⟩ := info_parts info52
  have h1 : ¬ ((n : Int) + 1) < 1 := by omega
  have h2 : (1 : Int) ≤ (n : Int) + 1 := by omega
  simp [Instr.slice, run_underlying Tryz.underlying22, Instr.sliceBounds, Instr.sliceBound, asIntOf, sizeOf, typeInfo, hi, hz, h1, h2, Addr.add]
/-- What is left of a run. -/
theorem RunV.tail {w : World} {g off c : Nat} {r : List Val} {rs : List (List Val)} (h : RunV w (.slice (some ⟨g, off, none⟩) (rs.length + 1) c) (r :: rs)) : RunV w (.slice (if c = 1 then some ⟨g, off, none⟩ else some ⟨g, off + 1, none⟩) rs.length (c - 1)) rs := by
  obtain ⟨a, c', e, hc, h⟩ := h
  injection e with e1 e2 e3
  subst e1 e3
  rw [List.length_cons] at hc
  refine ⟨_, _, rfl, by omega, ?_⟩
  rcases h with h | ⟨g', off', e, ht, h⟩
  · cases h
  injection e with e
  injection e with e4 e5
  subst e4 e5
  by_cases hr : rs = []
  · exact .inl hr
  · have : 0 < rs.length := List.length_pos_iff.2 hr
    rw [if_neg (by omega)]
    refine .inr ⟨g, off + 1, rfl, ht, fun i x hx => ?_⟩
    obtain ⟨ra, rc, h1, h2⟩ := h (i + 1) x (by simpa using hx)
    exact ⟨ra, rc, by rw [show off + 1 + i = off + (i + 1) by omega]; exact h1, h2⟩
/-- A row of a run is read. -/
def Yv.read (Y : Yv) (i : Nat) (rs : List (List Val)) : Yv := { Y with runs := Y.runs.set i rs }

set_option maxHeartbeats 4000000 in
/-- Next of a run (154). -/
theorem next_row {F : Nat → Prop} {b : Nat} {Y : Yv} {op : Option Nat} {w : World} {i : Nat} {r : List Val} {rs : List (List Val)} (h : Py w b Y op F) (hop : op ≠ some i) (hi : Y.there[i]? = some true) (hrs : Y.runs[i]? = some (r :: rs)) (hn : Y.runs.length ≤ 1048576) (h0 : 0 ≤ Y.held) (h1 : Y.held ≤ 1048576) (hr : Y.rd = false) (hh : Y.hit = false) :
    Calls Tryz.prog 154 #[.pointer (some ⟨b, 0, none⟩), .int .i64 i] w fun e w' => ∃ v, e = .returned (.tuple #[v, .bool true, .int .i64 0]) ∧ Rw w' v r ∧ ∃ F', Nw F F' w ∧ (∀ k, F k → F' k) ∧ Py w' b ((Y.tick.read i rs).hold 1) op F' ∧ Ky F w w' := by
  have HC := hide (call_any h hr)
  rw [hh] at HC
  have HY : Hid (0 ≤ Y.held ∧ Y.held ≤ 1048576) := ⟨h0, h1⟩
  have hir : i < Y.runs.length := (List.getElem?_eq_some_iff.1 hrs).1
  clear h hr hh h0 h1
  go_enter Tryz.func154, Tryz.ntmps154
  go_upto_region 2 with (first | (go_at_call 158; refine (unhide HC).mono ?_; rintro _ w1 ⟨rfl, hP, hK⟩; have HP := hide hP; have HK := hide hK; have HI := hide (is_yes hP hi hn); clear hP hK))
  obtain ⟨fb, vO, vR, vT, us, hB, hl⟩ := unhide HP
  obtain ⟨u0, gR, cR, hu, rfl, ci, fi, hlt⟩ := hl.ix (i := i) (rs := r :: rs) hrs
  obtain ⟨hrun, hub⟩ := hl.e i u0 _ hu hrs
  rw [if_neg hop] at hrun
  obtain ⟨a0, c0, rfl, hcl, hq⟩ := hrun
  obtain ⟨g, off, rfl, hgt, hq⟩ : ∃ g off, a0 = some ⟨g, off, none⟩ ∧ Tg 70 w1 g ∧ ∀ (i : Nat) (x : List Val), (r :: rs)[i]? = some x → ∃ ra rc, w1.cell? ⟨g, off + i, none⟩ = some (.slice ra x.length rc) ∧ RowC w1 ra x ∧ x.length ≤ 1048576 := by
    rcases hq with hq | hq
    · cases hq
    · exact hq
  obtain ⟨ra, rc, cr, hrow, hrl⟩ := hq 0 r rfl
  rw [Nat.add_zero] at cr
  have c9 := hB.c9
  have i4 : (i : Int) < (us.length : Int) := by omega
  rw [List.length_cons] at ci
  have hRV : RunV w1 (.slice (some ⟨g, off, none⟩) (rs.length + 1) c0) (r :: rs) := ⟨_, c0, rfl, hcl, .inr ⟨g, off, rfl, hgt, hq⟩⟩
  have hdr : Below w1.heap.size w1 w1.drew := (Below.refl _ _).drew
  have HPut := hide (Ys.put (b := b) (u' := .slice (if c0 = 1 then some ⟨g, off, none⟩ else some ⟨g, off + 1, none⟩) rs.length (c0 - 1)) (rs' := rs) hl rfl hu hir (Ky.refl _ _) (fun q e => by left; split at e <;> exact e) (fun q e => by
      have : g = q := by split at e <;> (injection e)
      subst this
      exact hgt) (by rw [if_neg hop]; exact RunV.tail hRV))
  have hsl := slice_lo22 g off rs.length c0
  generalize (if c0 = 1 then some (⟨g, off, none⟩ : Addr) else some ⟨g, off + 1, none⟩) = a5 at HPut hsl
  have HB := hide hB
  have HRow := hide hrow
  have e0 : (((rs.length + 1 : Nat) : Int) == 0) = false := by simp; omega
  clear hB hl hu hub hq hRV hcl
  go_upto_region 5 with (first | (go_at_call 156; refine (unhide HI).mono ?_; rintro _ w9 ⟨rfl, hw9⟩; rw [hw9]; clear hw9))
  go_region
  obtain ⟨F', p1, p2, p3, p4, p5, p6, p7⟩ := unhide HPut
  have nbR : ¬ b = gR := fun e => by subst e; exact (unhide HB).tg.ne p6 (by decide) rfl
  have nbg : ¬ b = g := fun e => by subst e; exact (unhide HB).tg.ne hgt (by decide) rfl
  have HB4 := hide (((unhide HB).ky p4 (fun e => by
      rcases e with e | e
      · injection e with e; exact nbg e.symm
      · exact nbR e)).drew)
  replace p3 := p3.later (w' := (w1.setCell ⟨gR, i, none⟩ (.slice a5 rs.length (c0 - 1))).drew) ((Below.refl _ _).drew)
  replace p4 := p4.drew
  obtain ⟨w4, hw4⟩ : ∃ w4, (w1.setCell ⟨gR, i, none⟩ (.slice a5 rs.length (c0 - 1))).drew = w4 := ⟨_, rfl⟩
  rw [hw4] at HB4 p3 p4 ⊢
  have HP5 : Hid (Py w4 b (Y.tick.read i rs) op F') := ⟨p2 _ fb, vO, _, vT, _, by have q := unhide HB4; exact ⟨q.tg, q.fr, q.c0, q.c1, q.c2, q.c3, q.c4, q.c5, q.c6, q.c7, q.c8, q.c9, q.c10⟩, p3⟩
  have HHo := hide (hold_any (unhide HP5) 1 (by have := unhide HY; show 0 ≤ Y.held + 1; omega) (by have := unhide HY; show Y.held + 1 ≤ _; omega))
  have HP4 := hide p4
  have HP7 := hide p7
  have HP1 := hide p1
  clear hw4 p1 p3 p4 p7
  have kb : ∀ k, k = b → F k := fun k e => by subst e; exact fb
  have HK4 : Hid (Ky F w w4) := ((unhide HK).mono kb).trans ((unhide HP4).mono fun k e => by rcases e with e | e; exact ((unhide HP7) _ e).1; subst e; exact p5) (Nw.refl _ _)
  have HCp := hide (fun (w6 : World) (hb : Ky (fun k => k = b) w4 w6) => copied_any ra rc r w6 hrl (((unhide HRow).ky (unhide HP4)).ky hb).at)
  go_wp2_with (first | (go_at_call 157; refine (unhide HHo).mono ?_; rintro _ w6 ⟨rfl, hP6, hK6⟩; have HP6 := hide hP6; have HK6 := hide hK6; clear hP6 hK6) | (go_at_call 159; refine (unhide HCp _ (unhide HK6)).mono ?_; rintro _ w7 ⟨v7, rfl, hv7, hb7⟩))
  refine bodyPost_ret (v := .tuple #[v7, .bool true, .int .i64 0]) (by simp [results, Tryz.results154, go_sem]) rfl ⟨v7, rfl, hv7, F', fun k hk => (unhide HP1 k hk).imp id (fun q => by have := (unhide HK).size; have := hdr.size; omega), p2, (unhide HP6).later hb7, ?_⟩
  exact ((unhide HK4).trans ((unhide HK6).mono kb) (Nw.refl _ _)).trans (Ky.of_below (F := F) hb7) (Nw.refl _ _)
end Go.Proofs.YtcbenpodohjbiaaGreat

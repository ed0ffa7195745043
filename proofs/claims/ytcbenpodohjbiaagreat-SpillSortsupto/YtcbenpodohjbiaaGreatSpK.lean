import Derived.Test.YtcbenpodohjbiaaGreatSpH
import Derived.Test.YtcbenpodohjbiaaGreatSpD
set_option linter.unusedSimpArgs false
set_option linter.unusedVariables false
set_option maxRecDepth 100000
namespace Go.Proofs.YtcbenpodohjbiaaGreat
open Go.RowKit Go.Sort

set_option maxHeartbeats 2000000 in
/-- New (153), refused. -/
theorem new_hit {F : Nat → Prop} {b : Nat} {Y : Yv} {op : Option Nat} {w : World} (h : Py w b Y op F) (hr : Y.rd = false) (hh : Y.hit = true) (hc : Y.cd ≠ 0) :
    Calls Tryz.prog 153 #[.pointer (some ⟨b, 0, none⟩)] w fun e w' => e = .returned (.tuple #[.int .i64 0, .int .i64 Y.cd]) ∧ Py w' b Y.tick op F ∧ Ky (fun k => k = b) w w' := by
  have HC := hide (call_any h hr)
  rw [hh] at HC
  have h1 : (Y.cd != 0) = true := by simpa using hc
  clear h hc hr hh
  go_enter Tryz.func153, Tryz.ntmps153
  go_wp2_with (first | (go_at_call 158; refine (unhide HC).mono ?_; rintro _ w1 ⟨rfl, hP, hK⟩))
  exact bodyPost_ret (v := .tuple #[.int .i64 0, .int .i64 Y.cd]) (by simp [results, Tryz.results153, go_sem]) rfl ⟨rfl, hP, hK⟩
def Yv.newRun (Y : Yv) : Yv := { Y with runs := Y.runs ++ [[]], there := Y.there ++ [true] }
theorem info22 : (Tryz.prog.info? 22).map (fun i => (i.zero, i.size, i.bytes)) = some (some (.slice none 0 0), 1, 24) := by kernel_rfl
theorem info4b : (Tryz.prog.info? 4).map (fun i => (i.zero, i.size, i.bytes)) = some (some (.bool false), 1, 1) := by kernel_rfl
/-- append of one element that is one cell, in a list of one that was made for it. -/
theorem wpList_push_one {ops : Array Oper} {rest : List Oper} {o : Oper} {a : Act} {Q : Exit → Act → World → Prop} (w : World) (hgd : o.guard = none) (s x : Operand) (tl te : Nat) (z : Value) (by_ : Nat) (ho : o.op = .call { callee := .builtin .append, args := #[s, x], argTypes := #[tl, tl] }) (hul : Tryz.prog.underlying tl = some (.slice te)) (hinf : (Tryz.prog.info? te).map (fun i => (i.zero, i.size, i.bytes)) = some (some z, 1, by_)) (hz : z.oneCell' = true) (hzc : z.cells.size = 1) (hby : by_ ≤ 24)
    (v : Value) (n : Nat) (us : List Value) (hs : a.eval s = v) (hown : w.ownsRow 0 te 1 v n us) (h73 : ¬ Ct te) (t : Nat) (u : Value) (hx : a.eval x = .slice (some ⟨t, 0, none⟩) 1 1) (hy : w.cell? ⟨t, 0, none⟩ = some u) (hone : u.oneCell' = true) (hl : n + 1 ≤ 4194304)
    (h : ∀ v' w', w'.ownsRow 0 te 1 v' (n + 1) (us ++ [u]) → Grew w w' v v' → Ky (fun k => v.ownBlock = some k) w w' → wpList Tryz.prog ops Q rest (a.put o.dst v') w') : wpList Tryz.prog ops Q (o :: rest) a w := by
  obtain ⟨i4, hi4, z40, z41, z42⟩ := info_parts hinf
  refine wpList_append_own_at w hgd s x tl ho 0 te i4 z 1 by_ hul hi4 z40 z41 z42 hzc (by omega) v n us hs hown ⟨t, 0, none⟩ 1 1 [u] hx rfl (fun j y hj => by
    match j, hj with
    | 0, hj => simp at hj; subst hj; simpa [Addr.add] using hy
    | j + 1, hj => simp at hj) (fun y hy => by simp at hy; subst hy; exact hone) (by unfold maxLen; omega) (by have : (n + 1) * by_ ≤ (n + 1) * 24 := Nat.mul_le_mul_left _ hby; omega) (Nat.zero_le _) ?_
  intro v' w' k1 k2 _ k4
  exact h v' w' k1 ⟨k2, k4.imp id fun e => ⟨_, e, Nat.le_refl _⟩⟩ (Ky.of_grown k2 (fun g e => e) (fun g t e hc q => (own_tg hown e).ne q (fun e => h73 (e ▸ hc)) rfl))
end Go.Proofs.YtcbenpodohjbiaaGreat
set_option linter.unusedSimpArgs false
set_option linter.unusedVariables false
set_option maxRecDepth 100000
namespace Go.Proofs.YtcbenpodohjbiaaGreat
open Go.RowKit Go.Sort

theorem own_form {w : World} {base e size : Nat} {v : Value} {n : Nat} {xs : List Value} (h : w.ownsRow base e size v n xs) : ∃ a c, v = .slice a n c := by
  rcases h.2 with ⟨rfl, h0⟩ | ⟨g, cap, cur, rfl, _⟩
  · exact ⟨none, 0, by rw [h0]⟩
  · exact ⟨_, _, rfl⟩
/-- A run is new, and there. -/
theorem Ys.newRun {F : Nat → Prop} {w wA w2 w3 wB w4 w5 : World} {b : Nat} {Y : Yv} {op : Option Nat} {vO vR vT vR' vT' : Value} {us : List Value} (hB : Tg 44 w b) (fb : F b) (hl : Ys w Y op F vO vR vT us) (hA : Below w.heap.size w wA)
    (hR : w2.ownsRow 0 22 1 vR' (us.length + 1) (us ++ [.slice none 0 0])) (gR : Grew wA w2 vR vR') (kR : Ky (fun k => vR.ownBlock = some k) wA w2) (k3 : Ky (fun k => k = b) w2 w3) (hB2 : Below w3.heap.size w3 wB)
    (hT : w4.ownsRow 0 4 1 vT' (Y.there.length + 1) (Y.there.map Value.bool ++ [.bool true])) (gT : Grew wB w4 vT vT') (kT : Ky (fun k => vT.ownBlock = some k) wB w4) (k5 : Ky (fun k => k = b) w4 w5) (tb4 : Tg 44 w4 b) :
    ∃ F', Nw F F' w ∧ (∀ k, F k → F' k) ∧ Ys w5 Y.newRun (some Y.runs.length) F' vO vR' vT' (us ++ [.slice none 0 0]) ∧ Ky F w w5 := by
  have s1 := hA.size
  have s2 := kR.size
  have s3 := k3.size
  have s4 := hB2.size
  have nR : ∀ g, vR'.ownBlock = some g → vR.ownBlock = some g ∨ w.heap.size ≤ g := fun g e => by
    rcases gR.2 with q | ⟨q, q1, q2⟩
    · left; rw [← q]; exact e
    · right; rw [q1] at e; injection e with e; omega
  have nT : ∀ g, vT'.ownBlock = some g → vT.ownBlock = some g ∨ w.heap.size ≤ g := fun g e => by
    rcases gT.2 with q | ⟨q, q1, q2⟩
    · left; rw [← q]; exact e
    · right; rw [q1] at e; injection e with e; omega
  have kAll : Ky (fun k => vR.ownBlock = some k ∨ k = b ∨ vT.ownBlock = some k) w w5 :=
    (((((Ky.of_below hA).trans (kR.mono fun k e => .inl e) (Nw.refl _ _)).trans (k3.mono fun k e => .inr (.inl e)) (Nw.refl _ _)).trans (Ky.of_below hB2) (Nw.refl _ _)).trans (kT.mono fun k e => .inr (.inr e)) (Nw.refl _ _)).trans (k5.mono fun k e => .inr (.inl e)) (Nw.refl _ _)
  have n70 : ∀ g, Tg 70 w g → ¬ (vR.ownBlock = some g ∨ g = b ∨ vT.ownBlock = some g) := fun g ht e => by
    rcases e with e | e | e
    · exact ht.ne (own_tg hl.r e) (by decide) rfl
    · exact ht.ne hB (by decide) e
    · exact ht.ne (own_tg hl.t e) (by decide) rfl
  have kAllF : Ky F w w5 := kAll.mono fun k e => by
    rcases e with e | e | e
    · exact hl.fr k e
    · subst e; exact fb
    · exact hl.ft k e
  have kR5 : Ky (fun k => k = b ∨ vT.ownBlock = some k) w2 w5 := (((k3.mono fun k e => .inl e).trans (Ky.of_below hB2) (Nw.refl _ _)).trans (kT.mono fun k e => .inr e) (Nw.refl _ _)).trans (k5.mono fun k e => .inl e) (Nw.refl _ _)
  have tb2 : Tg 44 w2 b := kR.tg ((Ky.of_below (F := fun _ => False) hA).tg hB id) (fun e => (own_tg hl.r e).ne hB (by decide) rfl)
  have tT2 : ∀ g, vT.ownBlock = some g → Tg 4 w2 g := fun g e => kR.tg ((Ky.of_below (F := fun _ => False) hA).tg (own_tg hl.t e) id) (fun q => (own_tg hl.r q).ne (own_tg hl.t e) (by decide) rfl)
  refine ⟨fun k => F k ∨ vR'.ownBlock = some k ∨ vT'.ownBlock = some k, fun k hk => ?_, fun k hk => .inl hk, ⟨hl.o.ky kAll (fun g e => n70 g (hl.o.tg e)), fun g e => .inl (hl.fo g e), ?_, fun g e => .inr (.inl e), by simp [Yv.newRun, hl.l], ?_, fun g e => .inr (.inr e), by simp [Yv.newRun, hl.lt], ?_, ?_⟩, kAllF⟩
  · rcases hk with hk | hk | hk
    · exact .inl hk
    · exact (nR k hk).imp (hl.fr k) id
    · exact (nT k hk).imp (hl.ft k) id
  · rw [List.length_append]
    exact own_ky hR kR5 (fun g e q => by
      rcases q with q | q
      · exact (own_tg hR e).ne tb2 (by decide) q
      · exact (own_tg hR e).ne (tT2 g q) (by decide) rfl)
  · show World.ownsRow _ 0 4 1 _ (Y.there ++ [true]).length ((Y.there ++ [true]).map Value.bool)
    rw [List.length_append, List.map_append]
    exact own_ky hT k5 (fun g e q => (own_tg hT e).ne tb4 (by decide) q)
  · intro j x rs hx hr
    change (Y.runs ++ [[]])[j]? = some rs at hr
    rcases list_app (vs := us) hx with hx | ⟨hj, rfl⟩
    · have hjl : j < Y.runs.length := by rw [← hl.l]; exact (List.getElem?_eq_some_iff.1 hx).1
      rw [List.getElem?_append_left hjl] at hr
      obtain ⟨h1, h2⟩ := hl.e j x rs hx hr
      have n1 : ∀ g, x.ownBlock = some g → ¬ (vR.ownBlock = some g ∨ g = b ∨ vT.ownBlock = some g) := fun g e => n70 g (h2 g e).2.2
      rw [if_neg (by intro e; injection e with e; omega)]
      refine ⟨?_, fun g e => ⟨.inl (h2 g e).1, (h2 g e).2.1, kAll.tg (h2 g e).2.2 (n1 g e)⟩⟩
      have h3 : RunV w x rs := by
        split at h1
        · exact h1.run
        · exact h1
      exact h3.ky kAll n1
    · rw [hl.l] at hj
      subst hj
      rw [List.getElem?_append_right (Nat.le_refl _), Nat.sub_self] at hr
      injection hr with hr
      subst hr
      rw [if_pos rfl]
      exact ⟨Lst.nil _, fun g e => by cases e⟩
  · intro i j x y g hij hx hy hg hg'
    rcases list_app (vs := us) hx with hx | ⟨_, rfl⟩
    · rcases list_app (vs := us) hy with hy | ⟨_, rfl⟩
      · exact hl.d i j x y g hij hx hy hg hg'
      · cases hg'
    · cases hg
set_option maxHeartbeats 4000000 in
/-- New (153). -/
theorem new_ok {F : Nat → Prop} {b : Nat} {Y : Yv} {op : Option Nat} {w : World} (h : Py w b Y op F) (hn : Y.runs.length ≤ 1048576) (hr : Y.rd = false) (hh : Y.hit = false) :
    Calls Tryz.prog 153 #[.pointer (some ⟨b, 0, none⟩)] w fun e w' => e = .returned (.tuple #[.int .i64 (Y.runs.length : Nat), .int .i64 0]) ∧ ∃ F', Nw F F' w ∧ (∀ k, F k → F' k) ∧ Py w' b Y.tick.newRun (some Y.runs.length) F' ∧ Ky F w w' := by
  have HC := hide (call_any h hr)
  rw [hh] at HC
  clear h hr hh
  go_enter Tryz.func153, Tryz.ntmps153
  go_upto_region 4 with (first | (go_at_call 158; refine (unhide HC).mono ?_; rintro _ w1 ⟨rfl, hP, hK⟩; have HP := hide hP; have HK := hide hK; clear hP hK))
  obtain ⟨fb, vO, vR, vT, us, hB, hl⟩ := unhide HP
  obtain ⟨N, hN⟩ : ∃ N, us.length = N := ⟨_, rfl⟩
  have hNR : N = Y.runs.length := by rw [← hN]; exact hl.l
  have hNT : Y.there.length = N := by rw [hNR]; exact hl.lt
  obtain ⟨aT, kT, hvT⟩ := own_form hl.t
  have c9 := hB.c9
  have f9 := hB.fr 9
  have hnbR : ¬ vR.ownBlock = some b := fun e => (own_tg hl.r e).ne hB.tg (by decide) rfl
  have hnbT : ¬ vT.ownBlock = some b := fun e => (own_tg hl.t e).ne hB.tg (by decide) rfl
  have HB := hide hB
  have HL := hide hl
  have HA := hide (below_alloc (Below.refl _ w1) (.cells #[.slice none 0 0] 22))
  have HoR := hide (own_later hl.r (unhide HA))
  rw [hN] at HoR
  have HN := hide (And.intro hN (And.intro hNR hNT))
  have hNb : N ≤ 1048576 := by omega
  clear hB hl hN hvT hNR hNT
  go_upto_region 5 with (first
    | (at_builtin; refine wpList_push_one (w1.alloc (.cells #[.slice none 0 0] 22)) rfl (.tmp 14) (.tmp 15) 41 22 (.slice none 0 0) 24 rfl Tryz.underlying41 info22 rfl rfl (by omega) vR N us rfl (unhide HoR) (by decide) w1.heap.size (.slice none 0 0) rfl (by simp [go_sem]) rfl (by omega) ?_; intro vR' w2 hR gR kR; obtain ⟨aR2, cR2, e2⟩ := own_form hR; subst e2; have hB2 := ((unhide HB).later (unhide HA)).ky kR hnbR; have c92 := hB2.c9; have f92 := hB2.fr 9; have HR := hide hR; have HGR := hide gR; have HKR := hide kR; have HB2 := hide hB2; clear hR gR kR hB2))
  obtain ⟨w3, hw3⟩ : ∃ w3, w2.setCell ⟨b, 9, none⟩ (.slice aR2 (N + 1) cR2) = w3 := ⟨_, rfl⟩
  have HB3 := hide ((unhide HB2).set_r (.slice aR2 (N + 1) cR2))
  have HK3 := hide ((unhide HB2).ky_r (.slice aR2 (N + 1) cR2))
  rw [hw3] at HB3 HK3 ⊢
  have d10 := (unhide HB3).c10
  have HBB := hide (below_alloc (Below.refl _ w3) (.cells #[.bool true] 4))
  have HoT : Hid ((w3.alloc (.cells #[.bool true] 4)).ownsRow 0 4 1 vT N (Y.there.map Value.bool)) := by
    have t1 := own_later (unhide HL).t (unhide HA)
    have t2 := own_ky t1 (unhide HKR) (fun g e q => (own_tg (unhide HL).t e).ne (own_tg (unhide HL).r q) (by decide) rfl)
    have t3 := own_ky t2 (unhide HK3) (fun g e q => (own_tg t2 e).ne (unhide HB2).tg (by decide) q)
    have t4 := own_later t3 (unhide HBB)
    have e : Y.tick.there.length = N := (unhide HN).2.2
    rw [e] at t4
    exact t4
  clear hw3 c92 f92
  go_upto_region 6 with (first
    | (at_builtin; refine wpList_push_one (w3.alloc (.cells #[.bool true] 4)) rfl (.tmp 23) (.tmp 24) 42 4 (.bool false) 1 rfl Tryz.underlying42 info4b rfl rfl (by omega) vT N (Y.there.map Value.bool) rfl (unhide HoT) (by decide) w3.heap.size (.bool true) rfl (by simp [go_sem]) rfl (by omega) ?_; intro vT' w4 hT gT kT4; obtain ⟨aT2, cT2, e4⟩ := own_form hT; subst e4; have hB4 := ((unhide HB3).later (unhide HBB)).ky kT4 hnbT; have c94 := hB4.c9; have c104 := hB4.c10; have f94 := hB4.fr 10; have HT := hide hT; have HGT := hide gT; have HKT := hide kT4; have HB4 := hide hB4; clear hT gT kT4 hB4))
  have HB5 := hide ((unhide HB4).set_t (.slice aT2 (N + 1) cT2))
  have HK5 := hide ((unhide HB4).ky_t (.slice aT2 (N + 1) cT2))
  have ew : IntKind.i64.wrap (((N + 1 : Nat) : Int) - 1) = (N : Int) := by rw [IntWalk.i64_in _ (by omega)]; omega
  go_wp2
  have q := Ys.newRun (unhide HB).tg fb (unhide HL) (unhide HA) (by rw [(unhide HN).1]; exact unhide HR) (unhide HGR) (unhide HKR) (unhide HK3) (unhide HBB) (by have e : Y.tick.there.length = N := (unhide HN).2.2; rw [e]; exact unhide HT) (unhide HGT) (unhide HKT) (unhide HK5) (unhide HB4).tg
  obtain ⟨F', p1, p2, p3, p4⟩ := q
  refine bodyPost_ret (v := .tuple #[.int .i64 (N : Int), .int .i64 0]) (by simp [results, Tryz.results153, go_sem]) rfl ⟨by rw [(unhide HN).2.1], F', fun k hk => (p1 k hk).imp id (fun q => by have := (unhide HK).size; omega), p2, ⟨p2 _ fb, vO, _, _, _, ?_, p3⟩, ((unhide HK).mono fun k e => by subst e; exact fb).trans p4 (Nw.refl _ _)⟩
  have q := unhide HB5
  exact ⟨q.tg, q.fr, q.c0, q.c1, q.c2, q.c3, q.c4, q.c5, q.c6, q.c7, q.c8, q.c9, q.c10⟩
end Go.Proofs.YtcbenpodohjbiaaGreat
set_option linter.unusedSimpArgs false
set_option linter.unusedVariables false
namespace Go.Proofs.YtcbenpodohjbiaaGreat

/-! How often a row is put: each run has a label, how often its rows were put at most. -/
theorem cong_le {X D e : Nat} (h : X % e = D % e) (hl : X < D + e) : X ≤ D := by
  rcases Nat.lt_or_ge D X with q | q
  · exfalso
    have h1 := Nat.div_add_mod X e
    have h2 := Nat.div_add_mod D e
    rw [h] at h1
    have h3 : e * (D / e) < e * (X / e) := by omega
    have h4 : D / e < X / e := Nat.lt_of_mul_lt_mul_left h3
    have h5 : e * (D / e + 1) ≤ e * (X / e) := Nat.mul_le_mul_left e h4
    rw [Nat.mul_add] at h5
    omega
  · exact q
theorem pow_one_mod (e m : Nat) (he : 2 ≤ e) : (e + 1) ^ m % e = 1 := by
  rw [Nat.pow_mod]
  have : (e + 1) % e = 1 := by rw [Nat.add_mod_left]; exact Nat.mod_eq_of_lt (by omega)
  rw [this, Nat.one_pow]
  exact Nat.mod_eq_of_lt (by omega)
/-- The labels of the runs, as they stand. -/
def Lab (d k : Nat) (labs : List Nat) : Prop := ∃ j a b, labs = List.replicate a j ++ List.replicate b (j + 1) ∧ 1 ≤ a ∧ 1 ≤ j ∧ j ≤ k ∧ a + d * b ≤ d ^ (k - j + 1)
theorem Lab.start {d k t : Nat} (ht : 1 ≤ t) (hk : 1 ≤ k) (h : t ≤ d ^ k) : Lab d k (List.replicate t 1) :=
  ⟨1, t, 0, by simp, ht, Nat.le_refl _, hk, by rw [Nat.mul_zero, Nat.add_zero, show k - 1 + 1 = k by omega]; exact h⟩
theorem Lab.le {d k : Nat} {labs : List Nat} (hd : 3 ≤ d) (h : Lab d k labs) : ∀ x ∈ labs, x ≤ k := by
  obtain ⟨j, a, b, rfl, h1, h2, h3, h4⟩ := h
  intro x hx
  rcases List.mem_append.1 hx with q | q
  · have := (List.mem_replicate.1 q).2; omega
  · obtain ⟨q1, q2⟩ := List.mem_replicate.1 q
    rcases Nat.lt_or_ge j k with r | r
    · omega
    · exfalso
      have e : k - j + 1 = 1 := by omega
      rw [e, Nat.pow_one] at h4
      have : d * 1 ≤ d * b := Nat.mul_le_mul_left d (by omega)
      omega
/-- How many are merged at first: then as many as can be, each time. -/
def cntM (d t : Nat) : Nat := (t - 2) % (d - 1) + 2
theorem cntM_le {d t : Nat} (hd : 3 ≤ d) : 2 ≤ cntM d t ∧ cntM d t ≤ d := by
  unfold cntM
  have := Nat.mod_lt (t - 2) (show d - 1 > 0 by omega)
  omega
theorem cntM_mod {d t : Nat} (hd : 3 ≤ d) (ht : 2 ≤ t) : ∃ q, t = cntM d t + (d - 1) * q := by
  refine ⟨(t - 2) / (d - 1), ?_⟩
  have := Nat.div_add_mod (t - 2) (d - 1)
  unfold cntM
  omega
theorem Lab.step {d k : Nat} {labs : List Nat} (hd : 3 ≤ d) (h : Lab d k labs) (ht : d < labs.length) : Lab d k (labs.drop (cntM d labs.length) ++ [labs.getD (cntM d labs.length - 1) 0 + 1]) := by
  obtain ⟨j, a, b, rfl, h1, h2, h3, h4⟩ := h
  have hlen : (List.replicate a j ++ List.replicate b (j + 1)).length = a + b := by simp
  rw [hlen] at ht ⊢
  obtain ⟨hc1, hc2⟩ := cntM_le (t := a + b) hd
  obtain ⟨q, hq⟩ := cntM_mod (t := a + b) hd (by omega)
  generalize cntM d (a + b) = c at *
  obtain ⟨e, rfl⟩ : ∃ e, d = e + 1 := ⟨d - 1, by omega⟩
  rw [Nat.add_sub_cancel] at hq
  have he : 2 ≤ e := by omega
  by_cases hac : c ≤ a
  · have e1 : (List.replicate a j ++ List.replicate b (j + 1)).drop c ++ [(List.replicate a j ++ List.replicate b (j + 1)).getD (c - 1) 0 + 1] = List.replicate (a - c) j ++ List.replicate (b + 1) (j + 1) := by
      rw [List.drop_append_of_le_length (by simp; exact hac), List.drop_replicate, List.getD_eq_getElem?_getD, List.getElem?_append_left (by simp; omega), List.getElem?_replicate, if_pos (by omega)]
      simp [List.replicate_succ']
    rw [e1]
    have hX : a - c + (e + 1) * (b + 1) ≤ (e + 1) ^ (k - j + 1) := by
      refine cong_le (e := e) ?_ ?_
      · rw [pow_one_mod e _ he]
        have : a - c + (e + 1) * (b + 1) = 1 + e * (q + b + 1) := by
          have p1 : (e + 1) * (b + 1) = e * b + e + b + 1 := by rw [Nat.add_mul, Nat.mul_add]; omega
          have p2 : e * (q + b + 1) = e * q + e * b + e := by rw [Nat.mul_add, Nat.mul_add]; omega
          omega
        rw [this, Nat.add_mul_mod_self_left]
        exact Nat.mod_eq_of_lt (by omega)
      · have p1 : (e + 1) * (b + 1) = (e + 1) * b + (e + 1) := by rw [Nat.mul_add]; omega
        omega
    by_cases h0 : a - c = 0
    · rw [h0] at hX ⊢
      have hb : 1 ≤ b := by omega
      have hjk : j < k := by
        rcases Nat.lt_or_ge j k with r | r
        · exact r
        · exfalso
          have e2 : k - j + 1 = 1 := by omega
          rw [e2, Nat.pow_one] at hX
          have : (e + 1) * 2 ≤ (e + 1) * (b + 1) := Nat.mul_le_mul_left _ (by omega)
          omega
      refine ⟨j + 1, b + 1, 0, by simp, by omega, by omega, by omega, ?_⟩
      have e2 : k - j + 1 = (k - (j + 1) + 1) + 1 := by omega
      rw [e2, Nat.pow_succ, Nat.mul_comm ((e + 1) ^ (k - (j + 1) + 1)) (e + 1), Nat.zero_add] at hX
      have := Nat.le_of_mul_le_mul_left hX (by omega)
      omega
    · exact ⟨j, a - c, b + 1, rfl, by omega, h2, h3, hX⟩
  · have hca : a < c := by omega
    have e1 : (List.replicate a j ++ List.replicate b (j + 1)).drop c ++ [(List.replicate a j ++ List.replicate b (j + 1)).getD (c - 1) 0 + 1] = List.replicate (a + b - c) (j + 1) ++ List.replicate 1 (j + 1 + 1) := by
      rw [List.drop_append, List.drop_replicate, List.drop_replicate, List.getD_eq_getElem?_getD, List.getElem?_append_right (by simp; omega), List.getElem?_replicate, if_pos (by simp; omega)]
      have p1 : a - c = 0 := by omega
      have p2 : b - (c - (List.replicate a j).length) = a + b - c := by rw [List.length_replicate]; omega
      rw [p1, p2]
      simp
    rw [e1]
    have hjk : j < k := by
      rcases Nat.lt_or_ge j k with r | r
      · exact r
      · exfalso
        have e2 : k - j + 1 = 1 := by omega
        rw [e2, Nat.pow_one] at h4
        have hb : b = 0 := by
          rcases Nat.eq_zero_or_pos b with z | z
          · exact z
          · exfalso
            have : (e + 1) * 1 ≤ (e + 1) * b := Nat.mul_le_mul_left _ z
            omega
        omega
    have e2 : k - j + 1 = (k - (j + 1) + 1) + 1 := by omega
    rw [e2, Nat.pow_succ, Nat.mul_comm ((e + 1) ^ (k - (j + 1) + 1)) (e + 1)] at h4
    refine ⟨j + 1, a + b - c, 1, rfl, by omega, by omega, by omega, ?_⟩
    generalize hD : (e + 1) ^ (k - (j + 1) + 1) = D at *
    have hDm : D % e = 1 := by rw [← hD]; exact pow_one_mod e _ he
    have hbD : b < D := Nat.lt_of_mul_lt_mul_left (a := e + 1) (by omega)
    rw [Nat.mul_one]
    refine cong_le (e := e) ?_ (by omega)
    rw [hDm]
    have : a + b - c + (e + 1) = 1 + e * (q + 1) := by rw [Nat.mul_add]; omega
    rw [this, Nat.add_mul_mod_self_left]
    exact Nat.mod_eq_of_lt (by omega)
end Go.Proofs.YtcbenpodohjbiaaGreat

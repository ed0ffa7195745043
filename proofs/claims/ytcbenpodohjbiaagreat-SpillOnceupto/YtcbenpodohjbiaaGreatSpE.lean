import Derived.Test.YtcbenpodohjbiaaGreatSpH
import Derived.Test.YtcbenpodohjbiaaGreatSpA
set_option linter.unusedSimpArgs false
set_option linter.unusedVariables false
set_option maxRecDepth 100000
namespace Go.Proofs.YtcbenpodohjbiaaGreat
open Go.RowKit Go.Sort

set_option maxHeartbeats 2000000 in
/-- New (153), refused. -/
theorem new_hit {F : Nat → Prop} {b : Nat} {Y : Yv} {op : Option Nat} {w : World} (h : Py w b Y op F) (hr : Y.rd = false) (hh : Y.hit = true) (hc : Y.cd ≠ 0) :
    Calls Tryz.prog 153 #[.pointer (some ⟨b, 0, none⟩)] w fun e w' => e = .returned (.tuple #[.int .i64 0, .int .i64 Y.cd]) ∧ Py w' b Y.tick op F ∧ Ky (fun k => k = b) w w' := by
  have HC := hide (call_any h hr)
  rw [hh] at HC
  have h1 : (Y.cd != 0) = true := by simpa using hc
  clear h hc hr hh
  go_enter Tryz.func153, Tryz.ntmps153
  go_wp2_with (first | (go_at_call 158; refine (unhide HC).mono ?_; rintro _ w1 ⟨rfl, hP, hK⟩))
  exact bodyPost_ret (v := .tuple #[.int .i64 0, .int .i64 Y.cd]) (by simp [results, Tryz.results153, go_sem]) rfl ⟨rfl, hP, hK⟩
def Yv.newRun (Y : Yv) : Yv := { Y with runs := Y.runs ++ [[]], there := Y.there ++ [true] }
theorem info22 : (Tryz.prog.info? 22).map (fun i => (i.zero, i.size, i.bytes)) = some (some (.slice none 0 0), 1, 24) := by kernel_rfl
theorem info4b : (Tryz.prog.info? 4).map (fun i => (i.zero, i.size, i.bytes)) = some (some (.bool false), 1, 1) := by kernel_rfl
/-- append of one element that is one cell, in a list of one that was made for it. -/
theorem wpList_push_one {ops : Array Oper} {rest : List Oper} {o : Oper} {a : Act} {Q : Exit → Act → World → Prop} (w : World) (hgd : o.guard = none) (s x : Operand) (tl te : Nat) (z : Value) (by_ : Nat) (ho : o.op = .call { callee := .builtin .append, args := #[s, x], argTypes := #[tl, tl] }) (hul : Tryz.prog.underlying tl = some (.slice te)) (hinf : (Tryz.prog.info? te).map (fun i => (i.zero, i.size, i.bytes)) = some (some z, 1, by_)) (hz : z.oneCell' = true) (hzc : z.cells.size = 1) (hby : by_ ≤ 24)
    (v : Value) (n : Nat) (us : List Value) (hs : a.eval s = v) (hown : w.ownsRow 0 te 1 v n us) (h73 : ¬ Ct te) (t : Nat) (u : Value) (hx : a.eval x = .slice (some ⟨t, 0, none⟩) 1 1) (hy : w.cell? ⟨t, 0, none⟩ = some u) (hone : u.oneCell' = true) (hl : n + 1 ≤ 4194304)
    (h : ∀ v' w', w'.ownsRow 0 te 1 v' (n + 1) (us ++ [u]) → Grew w w' v v' → Ky (fun k => v.ownBlock = some k) w w' → wpList Tryz.prog ops Q rest (a.put o.dst v') w') : wpList Tryz.prog ops Q (o :: rest) a w := by
  obtain ⟨i4, hi4, z40, z41, z42⟩ := info_parts hinf
  refine wpList_append_own_at w hgd s x tl ho 0 te i4 z 1 by_ hul hi4 z40 z41 z42 hzc (by omega) v n us hs hown ⟨t, 0, none⟩ 1 1 [u] hx rfl (fun j y hj => by
    match j, hj with
    | 0, hj => simp at hj; subst hj; simpa [Addr.add] using hy
    | j + 1, hj => simp at hj) (fun y hy => by simp at hy; subst hy; exact hone) (by unfold maxLen; omega) (by have : (n + 1) * by_ ≤ (n + 1) * 24 := Nat.mul_le_mul_left _ hby; omega) (Nat.zero_le _) ?_
  intro v' w' k1 k2 _ k4
  exact h v' w' k1 ⟨k2, k4.imp id fun e => ⟨_, e, Nat.le_refl _⟩⟩ (Ky.of_grown k2 (fun g e => e) (fun g t e hc q => (own_tg hown e).ne q (fun e => h73 (e ▸ hc)) rfl))
end Go.Proofs.YtcbenpodohjbiaaGreat
set_option linter.unusedSimpArgs false
set_option linter.unusedVariables false
set_option maxRecDepth 100000
namespace Go.Proofs.YtcbenpodohjbiaaGreat
open Go.RowKit Go.Sort

theorem own_form {w : World} {base e size : Nat} {v : Value} {n : Nat} {xs : List Value} (h : w.ownsRow base e size v n xs) : ∃ a c, v = .slice a n c := by
  rcases h.2 with ⟨rfl, h0⟩ | ⟨g, cap, cur, rfl, _⟩
  · exact ⟨none, 0, by rw [h0]⟩
  · exact ⟨_, _, rfl⟩
/-- A run is new, and there. -/
theorem Ys.newRun {F : Nat → Prop} {w wA w2 w3 wB w4 w5 : World} {b : Nat} {Y : Yv} {op : Option Nat} {vO vR vT vR' vT' : Value} {us : List Value} (hB : Tg 44 w b) (fb : F b) (hl : Ys w Y op F vO vR vT us) (hA : Below w.heap.size w wA)
    (hR : w2.ownsRow 0 22 1 vR' (us.length + 1) (us ++ [.slice none 0 0])) (gR : Grew wA w2 vR vR') (kR : Ky (fun k => vR.ownBlock = some k) wA w2) (k3 : Ky (fun k => k = b) w2 w3) (hB2 : Below w3.heap.size w3 wB)
    (hT : w4.ownsRow 0 4 1 vT' (Y.there.length + 1) (Y.there.map Value.bool ++ [.bool true])) (gT : Grew wB w4 vT vT') (kT : Ky (fun k => vT.ownBlock = some k) wB w4) (k5 : Ky (fun k => k = b) w4 w5) (tb4 : Tg 44 w4 b) :
    ∃ F', Nw F F' w ∧ (∀ k, F k → F' k) ∧ Ys w5 Y.newRun (some Y.runs.length) F' vO vR' vT' (us ++ [.slice none 0 0]) ∧ Ky F w w5 := by
  have s1 := hA.size
  have s2 := kR.size
  have s3 := k3.size
  have s4 := hB2.size
  have nR : ∀ g, vR'.ownBlock = some g → vR.ownBlock = some g ∨ w.heap.size ≤ g := fun g e => by
    rcases gR.2 with q | ⟨q, q1, q2⟩
    · left; rw [← q]; exact e
    · right; rw [q1] at e; injection e with e; omega
  have nT : ∀ g, vT'.ownBlock = some g → vT.ownBlock = some g ∨ w.heap.size ≤ g := fun g e => by
    rcases gT.2 with q | ⟨q, q1, q2⟩
    · left; rw [← q]; exact e
    · right; rw [q1] at e; injection e with e; omega
  have kAll : Ky (fun k => vR.ownBlock = some k ∨ k = b ∨ vT.ownBlock = some k) w w5 :=
    (((((Ky.of_below hA).trans (kR.mono fun k e => .inl e) (Nw.refl _ _)).trans (k3.mono fun k e => .inr (.inl e)) (Nw.refl _ _)).trans (Ky.of_below hB2) (Nw.refl _ _)).trans (kT.mono fun k e => .inr (.inr e)) (Nw.refl _ _)).trans (k5.mono fun k e => .inr (.inl e)) (Nw.refl _ _)
  have n70 : ∀ g, Tg 70 w g → ¬ (vR.ownBlock = some g ∨ g = b ∨ vT.ownBlock = some g) := fun g ht e => by
    rcases e with e | e | e
    · exact ht.ne (own_tg hl.r e) (by decide) rfl
    · exact ht.ne hB (by decide) e
    · exact ht.ne (own_tg hl.t e) (by decide) rfl
  have kAllF : Ky F w w5 := kAll.mono fun k e => by
    rcases e with e | e | e
    · exact hl.fr k e
    · subst e; exact fb
    · exact hl.ft k e
  have kR5 : Ky (fun k => k = b ∨ vT.ownBlock = some k) w2 w5 := (((k3.mono fun k e => .inl e).trans (Ky.of_below hB2) (Nw.refl _ _)).trans (kT.mono fun k e => .inr e) (Nw.refl _ _)).trans (k5.mono fun k e => .inl e) (Nw.refl _ _)
  have tb2 : Tg 44 w2 b := kR.tg ((Ky.of_below (F := fun _ => False) hA).tg hB id) (fun e => (own_tg hl.r e).ne hB (by decide) rfl)
  have tT2 : ∀ g, vT.ownBlock = some g → Tg 4 w2 g := fun g e => kR.tg ((Ky.of_below (F := fun _ => False) hA).tg (own_tg hl.t e) id) (fun q => (own_tg hl.r q).ne (own_tg hl.t e) (by decide) rfl)
  refine ⟨fun k => F k ∨ vR'.ownBlock = some k ∨ vT'.ownBlock = some k, fun k hk => ?_, fun k hk => .inl hk, ⟨hl.o.ky kAll (fun g e => n70 g (hl.o.tg e)), fun g e => .inl (hl.fo g e), ?_, fun g e => .inr (.inl e), by simp [Yv.newRun, hl.l], ?_, fun g e => .inr (.inr e), by simp [Yv.newRun, hl.lt], ?_, ?_⟩, kAllF⟩
  · rcases hk with hk | hk | hk
    · exact .inl hk
    · exact (nR k hk).imp (hl.fr k) id
    · exact (nT k hk).imp (hl.ft k) id
  · rw [List.length_append]
    exact own_ky hR kR5 (fun g e q => by
      rcases q with q | q
      · exact (own_tg hR e).ne tb2 (by decide) q
      · exact (own_tg hR e).ne (tT2 g q) (by decide) rfl)
  · show World.ownsRow _ 0 4 1 _ (Y.there ++ [true]).length ((Y.there ++ [true]).map Value.bool)
    rw [List.length_append, List.map_append]
    exact own_ky hT k5 (fun g e q => (own_tg hT e).ne tb4 (by decide) q)
  · intro j x rs hx hr
    change (Y.runs ++ [[]])[j]? = some rs at hr
    rcases list_app (vs := us) hx with hx | ⟨hj, rfl⟩
    · have hjl : j < Y.runs.length := by rw [← hl.l]; exact (List.getElem?_eq_some_iff.1 hx).1
      rw [List.getElem?_append_left hjl] at hr
      obtain ⟨h1, h2⟩ := hl.e j x rs hx hr
      have n1 : ∀ g, x.ownBlock = some g → ¬ (vR.ownBlock = some g ∨ g = b ∨ vT.ownBlock = some g) := fun g e => n70 g (h2 g e).2.2
      rw [if_neg (by intro e; injection e with e; omega)]
      refine ⟨?_, fun g e => ⟨.inl (h2 g e).1, (h2 g e).2.1, kAll.tg (h2 g e).2.2 (n1 g e)⟩⟩
      have h3 : RunV w x rs := by
        split at h1
        · exact h1.run
        · exact h1
      exact h3.ky kAll n1
    · rw [hl.l] at hj
      subst hj
      rw [List.getElem?_append_right (Nat.le_refl _), Nat.sub_self] at hr
      injection hr with hr
      subst hr
      rw [if_pos rfl]
      exact ⟨Lst.nil _, fun g e => by cases e⟩
  · intro i j x y g hij hx hy hg hg'
    rcases list_app (vs := us) hx with hx | ⟨_, rfl⟩
    · rcases list_app (vs := us) hy with hy | ⟨_, rfl⟩
      · exact hl.d i j x y g hij hx hy hg hg'
      · cases hg'
    · cases hg
set_option maxHeartbeats 4000000 in
/-- New (153). -/
theorem new_ok {F : Nat → Prop} {b : Nat} {Y : Yv} {op : Option Nat} {w : World} (h : Py w b Y op F) (hn : Y.runs.length ≤ 1048576) (hr : Y.rd = false) (hh : Y.hit = false) :
    Calls Tryz.prog 153 #[.pointer (some ⟨b, 0, none⟩)] w fun e w' => e = .returned (.tuple #[.int .i64 (Y.runs.length : Nat), .int .i64 0]) ∧ ∃ F', Nw F F' w ∧ (∀ k, F k → F' k) ∧ Py w' b Y.tick.newRun (some Y.runs.length) F' ∧ Ky F w w' := by
  have HC := hide (call_any h hr)
  rw [hh] at HC
  clear h hr hh
  go_enter Tryz.func153, Tryz.ntmps153
  go_upto_region 4 with (first | (go_at_call 158; refine (unhide HC).mono ?_; rintro _ w1 ⟨rfl, hP, hK⟩; have HP := hide hP; have HK := hide hK; clear hP hK))
  obtain ⟨fb, vO, vR, vT, us, hB, hl⟩ := unhide HP
  obtain ⟨N, hN⟩ : ∃ N, us.length = N := ⟨_, rfl⟩
  have hNR : N = Y.runs.length := by rw [← hN]; exact hl.l
  have hNT : Y.there.length = N := by rw [hNR]; exact hl.lt
  obtain ⟨aT, kT, hvT⟩ := own_form hl.t
  have c9 := hB.c9
  have f9 := hB.fr 9
  have hnbR : ¬ vR.ownBlock = some b := fun e => (own_tg hl.r e).ne hB.tg (by decide) rfl
  have hnbT : ¬ vT.ownBlock = some b := fun e => (own_tg hl.t e).ne hB.tg (by decide) rfl
  have HB := hide hB
  have HL := hide hl
  have HA := hide (below_alloc (Below.refl _ w1) (.cells #[.slice none 0 0] 22))
  have HoR := hide (own_later hl.r (unhide HA))
  rw [hN] at HoR
  have HN := hide (And.intro hN (And.intro hNR hNT))
  have hNb : N ≤ 1048576 := by omega
  clear hB hl hN hvT hNR hNT
  go_upto_region 5 with (first
    | (at_builtin; refine wpList_push_one (w1.alloc (.cells #[.slice none 0 0] 22)) rfl (.tmp 14) (.tmp 15) 41 22 (.slice none 0 0) 24 rfl Tryz.underlying41 info22 rfl rfl (by omega) vR N us rfl (unhide HoR) (by decide) w1.heap.size (.slice none 0 0) rfl (by simp [go_sem]) rfl (by omega) ?_; intro vR' w2 hR gR kR; obtain ⟨aR2, cR2, e2⟩ := own_form hR; subst e2; have hB2 := ((unhide HB).later (unhide HA)).ky kR hnbR; have c92 := hB2.c9; have f92 := hB2.fr 9; have HR := hide hR; have HGR := hide gR; have HKR := hide kR; have HB2 := hide hB2; clear hR gR kR hB2))
  obtain ⟨w3, hw3⟩ : ∃ w3, w2.setCell ⟨b, 9, none⟩ (.slice aR2 (N + 1) cR2) = w3 := ⟨_, rfl⟩
  have HB3 := hide ((unhide HB2).set_r (.slice aR2 (N + 1) cR2))
  have HK3 := hide ((unhide HB2).ky_r (.slice aR2 (N + 1) cR2))
  rw [hw3] at HB3 HK3 ⊢
  have d10 := (unhide HB3).c10
  have HBB := hide (below_alloc (Below.refl _ w3) (.cells #[.bool true] 4))
  have HoT : Hid ((w3.alloc (.cells #[.bool true] 4)).ownsRow 0 4 1 vT N (Y.there.map Value.bool)) := by
    have t1 := own_later (unhide HL).t (unhide HA)
    have t2 := own_ky t1 (unhide HKR) (fun g e q => (own_tg (unhide HL).t e).ne (own_tg (unhide HL).r q) (by decide) rfl)
    have t3 := own_ky t2 (unhide HK3) (fun g e q => (own_tg t2 e).ne (unhide HB2).tg (by decide) q)
    have t4 := own_later t3 (unhide HBB)
    have e : Y.tick.there.length = N := (unhide HN).2.2
    rw [e] at t4
    exact t4
  clear hw3 c92 f92
  go_upto_region 6 with (first
    | (at_builtin; refine wpList_push_one (w3.alloc (.cells #[.bool true] 4)) rfl (.tmp 23) (.tmp 24) 42 4 (.bool false) 1 rfl Tryz.underlying42 info4b rfl rfl (by omega) vT N (Y.there.map Value.bool) rfl (unhide HoT) (by decide) w3.heap.size (.bool true) rfl (by simp [go_sem]) rfl (by omega) ?_; intro vT' w4 hT gT kT4; obtain ⟨aT2, cT2, e4⟩ := own_form hT; subst e4; have hB4 := ((unhide HB3).later (unhide HBB)).ky kT4 hnbT; have c94 := hB4.c9; have c104 := hB4.c10; have f94 := hB4.fr 10; have HT := hide hT; have HGT := hide gT; have HKT := hide kT4; have HB4 := hide hB4; clear hT gT kT4 hB4))
  have HB5 := hide ((unhide HB4).set_t (.slice aT2 (N + 1) cT2))
  have HK5 := hide ((unhide HB4).ky_t (.slice aT2 (N + 1) cT2))
  have ew : IntKind.i64.wrap (((N + 1 : Nat) : Int) - 1) = (N : Int) := by rw [IntWalk.i64_in _ (by omega)]; omega
  go_wp2
  have q := Ys.newRun (unhide HB).tg fb (unhide HL) (unhide HA) (by rw [(unhide HN).1]; exact unhide HR) (unhide HGR) (unhide HKR) (unhide HK3) (unhide HBB) (by have e : Y.tick.there.length = N := (unhide HN).2.2; rw [e]; exact unhide HT) (unhide HGT) (unhide HKT) (unhide HK5) (unhide HB4).tg
  obtain ⟨F', p1, p2, p3, p4⟩ := q
  refine bodyPost_ret (v := .tuple #[.int .i64 (N : Int), .int .i64 0]) (by simp [results, Tryz.results153, go_sem]) rfl ⟨by rw [(unhide HN).2.1], F', fun k hk => (p1 k hk).imp id (fun q => by have := (unhide HK).size; omega), p2, ⟨p2 _ fb, vO, _, _, _, ?_, p3⟩, ((unhide HK).mono fun k e => by subst e; exact fb).trans p4 (Nw.refl _ _)⟩
  have q := unhide HB5
  exact ⟨q.tg, q.fr, q.c0, q.c1, q.c2, q.c3, q.c4, q.c5, q.c6, q.c7, q.c8, q.c9, q.c10⟩
end Go.Proofs.YtcbenpodohjbiaaGreat
set_option linter.unusedSimpArgs false
set_option linter.unusedVariables false
set_option maxRecDepth 100000
namespace Go.Proofs.YtcbenpodohjbiaaGreat
open Go.RowKit Go.Sort

set_option maxHeartbeats 2000000 in
/-- Put (167), refused. -/
theorem put_hit {F : Nat → Prop} {b : Nat} {Y : Yv} {op : Option Nat} {w : World} (i u : Value) (h : Py w b Y op F) (hr : Y.rd = false) (hh : Y.hit = true) (hc : Y.cd ≠ 0) :
    Calls Tryz.prog 167 #[.pointer (some ⟨b, 0, none⟩), i, u] w fun e w' => e = .returned (.int .i64 Y.cd) ∧ Py w' b Y.tick op F ∧ Ky (fun k => k = b) w w' := by
  have HC := hide (call_any h hr)
  rw [hh] at HC
  have h1 : (Y.cd != 0) = true := by simpa using hc
  clear h hc hr hh
  go_enter Tryz.func167, Tryz.ntmps167
  go_wp2_with (first | (go_at_call 158; refine (unhide HC).mono ?_; rintro _ w1 ⟨rfl, hP, hK⟩))
  go_ret
  exact ⟨rfl, hP, hK⟩
/-- A row is put into a run. -/
def Yv.put (Y : Yv) (i : Nat) (rs : List (List Val)) : Yv := { Y with runs := Y.runs.set i rs, puts := Y.puts + 1 }

set_option maxHeartbeats 4000000 in
/-- Put (167). -/
theorem put_ok {F : Nat → Prop} {b : Nat} {Y : Yv} {w : World} {u : Value} {r : List Val} {i : Nat} {rs : List (List Val)} (h : Py w b Y (some i) F) (hur : Rw w u r) (hi : Y.there[i]? = some true) (hrs : Y.runs[i]? = some rs) (hn : Y.runs.length ≤ 1048576) (hm : rs.length ≤ 1048576) (h0 : 1 ≤ Y.held) (h1 : Y.held ≤ 1048576) (h2 : 0 ≤ Y.puts) (h3 : Y.puts ≤ 1099511627776) (hr : Y.rd = false) (hh : Y.hit = false) :
    Calls Tryz.prog 167 #[.pointer (some ⟨b, 0, none⟩), .int .i64 i, u] w fun e w' => e = .returned (.int .i64 0) ∧ ∃ F', Nw F F' w ∧ (∀ k, F k → F' k) ∧ Py w' b ((Y.tick.put i (rs ++ [r])).hold (-1)) (some i) F' ∧ Ky F w w' := by
  obtain ⟨au, cu, rfl, hra, hrl⟩ := hur
  have HC := hide (call_any h hr)
  rw [hh] at HC
  have HR := hide hra
  have HY : Hid (1 ≤ Y.held ∧ Y.held ≤ 1048576 ∧ 0 ≤ Y.puts ∧ Y.puts ≤ 1099511627776) := ⟨h0, h1, h2, h3⟩
  have HLen : Hid (rs.length + 1 ≤ 4398046511104) := by show rs.length + 1 ≤ _; omega
  have hir : i < Y.runs.length := (List.getElem?_eq_some_iff.1 hrs).1
  clear h hr hh hra h0 h1 h2 h3
  go_enter Tryz.func167, Tryz.ntmps167
  go_upto_region 4 with (first | (go_at_call 158; refine (unhide HC).mono ?_; rintro _ w1 ⟨rfl, hP, hK⟩; have HP := hide hP; have HK := hide hK; have HI := hide (is_yes hP hi hn); clear hP hK) | (go_at_call 156; refine (unhide HI).mono ?_; rintro _ w9 ⟨rfl, hw9⟩; rw [hw9]; clear hw9))
  obtain ⟨fb, vO, vR, vT, us, hB, hl⟩ := unhide HP
  obtain ⟨u0, gR, cR, hu, rfl, ci, fi, hlt⟩ := hl.ix (i := i) (rs := rs) hrs
  obtain ⟨hrun, hub⟩ := hl.e i u0 rs hu hrs
  rw [if_pos rfl] at hrun
  obtain ⟨a0, c0, rfl⟩ := hrun.form
  have c9 := hB.c9
  have HB := hide hB
  have HL := hide hl
  have HRun := hide hrun
  have HUB : Hid (∀ g, (Value.slice a0 rs.length c0).ownBlock = some g → Tg 70 w1 g) := fun g e => (hub g e).2.2
  have HCp := hide (fun (w2 : World) (hb : Below w1.heap.size w1 w2) => copied_any au cu r w2 hrl ((unhide HR).ky (unhide HK) |>.at.later hb))
  have i4 : (i : Int) < (us.length : Int) := by omega
  have HS0 : Hid (Below w1.heap.size w1 w1.drew) := (Below.refl _ _).drew
  have HC0 : Hid (w1.drew.cell? ⟨b, 9, none⟩ = some (.slice (some ⟨gR, 0, none⟩) us.length cR) ∧ w1.drew.cell? ⟨gR, i, none⟩ = some (.slice a0 rs.length c0)) := ⟨clater c9 (unhide HS0), clater ci (unhide HS0)⟩
  clear hB hl hrun hub fi
  refine wp_region_noPanic ?_
  refine wp_region_G (S := fun W : World => W.cell? ⟨b, 9, none⟩ = some (.slice (some ⟨gR, 0, none⟩) us.length cR) ∧ W.cell? ⟨gR, i, none⟩ = some (.slice a0 rs.length c0)) (k := 17) (by kernel_rfl) ?_
  refine anyG_takel (i := 0) (v := (.pointer (some ⟨b, 0, none⟩))) [1, 2, 3, 16, 17] rfl (by kernel_rfl) (by kernel_rfl) (by kernel_rfl) (by kernel_rfl) (fun _ _ _ h => h) (Or.inl ⟨by rfl, fun w' hSw => ?_⟩) (unhide HC0) ?_
  · go_simp
  try simp only [Act.put, List.setIfInBounds_toArray, List.set_cons_zero, List.set_cons_succ]
  refine anyG_takel (i := 1) (v := (.pointer (some ⟨b, 0, none⟩))) [2, 3, 16, 17] rfl (by kernel_rfl) (by kernel_rfl) (by kernel_rfl) (by kernel_rfl) (fun _ _ _ h => h) (Or.inl ⟨by rfl, fun w' hSw => ?_⟩) (unhide HC0) ?_
  · go_simp
  try simp only [Act.put, List.setIfInBounds_toArray, List.set_cons_zero, List.set_cons_succ]
  refine anyG_takel (i := 2) (v := (.pointer (some ⟨b, 9, none⟩))) [3, 16, 17] rfl (by kernel_rfl) (by kernel_rfl) (by kernel_rfl) (by kernel_rfl) (fun _ _ _ h => h) (Or.inl ⟨by rfl, fun w' hSw => ?_⟩) (unhide HC0) ?_
  · go_simp
  try simp only [Act.put, List.setIfInBounds_toArray, List.set_cons_zero, List.set_cons_succ]
  refine anyG_takel (i := 3) (v := (.slice (some ⟨gR, 0, none⟩) us.length cR)) [16, 17] rfl (by kernel_rfl) (by kernel_rfl) (by kernel_rfl) (by kernel_rfl) (fun _ _ _ h => h) (Or.inl ⟨by rfl, fun w' hSw => ?_⟩) (unhide HC0) ?_
  · obtain ⟨e9, ei⟩ := hSw; go_simp
  try simp only [Act.put, List.setIfInBounds_toArray, List.set_cons_zero, List.set_cons_succ]
  refine anyG_takel (i := 4) (v := (.int .i64 (i : Int))) [16, 17] rfl (by kernel_rfl) (by kernel_rfl) (by kernel_rfl) (by kernel_rfl) (fun _ _ _ h => h) (Or.inl ⟨by rfl, fun w' hSw => ?_⟩) (unhide HC0) ?_
  · go_simp
  try simp only [Act.put, List.setIfInBounds_toArray, List.set_cons_zero, List.set_cons_succ]
  refine anyG_takel (i := 5) (v := (.pointer (some ⟨b, 0, none⟩))) [6, 7, 8, 10, 11, 15, 16, 17] rfl (by kernel_rfl) (by kernel_rfl) (by kernel_rfl) (by kernel_rfl) (fun _ _ _ h => h) (Or.inl ⟨by rfl, fun w' hSw => ?_⟩) (unhide HC0) ?_
  · go_simp
  try simp only [Act.put, List.setIfInBounds_toArray, List.set_cons_zero, List.set_cons_succ]
  refine anyG_takel (i := 6) (v := (.pointer (some ⟨b, 0, none⟩))) [7, 8, 10, 11, 15, 16, 17] rfl (by kernel_rfl) (by kernel_rfl) (by kernel_rfl) (by kernel_rfl) (fun _ _ _ h => h) (Or.inl ⟨by rfl, fun w' hSw => ?_⟩) (unhide HC0) ?_
  · go_simp
  try simp only [Act.put, List.setIfInBounds_toArray, List.set_cons_zero, List.set_cons_succ]
  refine anyG_takel (i := 7) (v := (.pointer (some ⟨b, 9, none⟩))) [8, 10, 11, 15, 16, 17] rfl (by kernel_rfl) (by kernel_rfl) (by kernel_rfl) (by kernel_rfl) (fun _ _ _ h => h) (Or.inl ⟨by rfl, fun w' hSw => ?_⟩) (unhide HC0) ?_
  · go_simp
  try simp only [Act.put, List.setIfInBounds_toArray, List.set_cons_zero, List.set_cons_succ]
  refine anyG_takel (i := 8) (v := (.slice (some ⟨gR, 0, none⟩) us.length cR)) [10, 11, 15, 16, 17] rfl (by kernel_rfl) (by kernel_rfl) (by kernel_rfl) (by kernel_rfl) (fun _ _ _ h => h) (Or.inl ⟨by rfl, fun w' hSw => ?_⟩) (unhide HC0) ?_
  · obtain ⟨e9, ei⟩ := hSw; go_simp
  try simp only [Act.put, List.setIfInBounds_toArray, List.set_cons_zero, List.set_cons_succ]
  refine anyG_takel (i := 9) (v := (.int .i64 (i : Int))) [10, 11, 15, 16, 17] rfl (by kernel_rfl) (by kernel_rfl) (by kernel_rfl) (by kernel_rfl) (fun _ _ _ h => h) (Or.inl ⟨by rfl, fun w' hSw => ?_⟩) (unhide HC0) ?_
  · go_simp
  try simp only [Act.put, List.setIfInBounds_toArray, List.set_cons_zero, List.set_cons_succ]
  refine anyG_takel (i := 10) (v := (.pointer (some ⟨gR, i, none⟩))) [11, 15, 16, 17] rfl (by kernel_rfl) (by kernel_rfl) (by kernel_rfl) (by kernel_rfl) (fun _ _ _ h => h) (Or.inl ⟨by rfl, fun w' hSw => ?_⟩) (unhide HC0) ?_
  · go_simp
  try simp only [Act.put, List.setIfInBounds_toArray, List.set_cons_zero, List.set_cons_succ]
  refine anyG_takel (i := 11) (v := (.slice a0 rs.length c0)) [15, 16, 17] rfl (by kernel_rfl) (by kernel_rfl) (by kernel_rfl) (by kernel_rfl) (fun _ _ _ h => h) (Or.inl ⟨by rfl, fun w' hSw => ?_⟩) (unhide HC0) ?_
  · obtain ⟨e9, ei⟩ := hSw; go_simp
  try simp only [Act.put, List.setIfInBounds_toArray, List.set_cons_zero, List.set_cons_succ]
  refine anyG_takel (i := 12) (v := (.slice au r.length cu)) [13, 14, 15, 16, 17] rfl (by kernel_rfl) (by kernel_rfl) (by kernel_rfl) (by kernel_rfl) (fun _ _ _ h => h) (Or.inl ⟨by rfl, fun w' hSw => ?_⟩) (unhide HC0) ?_
  · go_simp
  try simp only [Act.put, List.setIfInBounds_toArray, List.set_cons_zero, List.set_cons_succ]
  refine anyG_one (i := 13) (by kernel_rfl) ?_
  refine wpOp_lit rfl (by rfl) fun K' hK' => ?_
  go_simp
  refine (unhide HCp _ (unhide HS0)).mono ?_
  rintro _ w2 ⟨v2, rfl, ⟨a2, c2, rfl, hq2, _⟩, hb2⟩
  go_simp
  have HS2 := hide (below_step (unhide HS0) hb2)
  refine unhide hK' _ _ ⟨fun _ => ⟨clater c9 (unhide HS2), clater ci (unhide HS2)⟩, ?_⟩
  clear hK' K'
  try simp only [Act.put, List.setIfInBounds_toArray, List.set_cons_zero, List.set_cons_succ]
  refine anyG_one (i := 14) (by kernel_rfl) ?_
  refine wpOp_lit rfl (by rfl) fun K' hK' => ?_
  go_simp
  have HS3 := hide (below_alloc (unhide HS2) (.cells #[.slice a2 r.length c2] 70))
  refine unhide hK' _ _ ⟨fun _ => ⟨clater c9 (unhide HS3), clater ci (unhide HS3)⟩, ?_⟩
  clear hK' K'
  try simp only [Act.put, List.setIfInBounds_toArray, List.set_cons_zero, List.set_cons_succ]
  refine anyG_one (i := 15) (by kernel_rfl) ?_
  refine wpOp_lit rfl (by rfl) fun K' hK' => ?_
  refine op_push_lst (.tmp 30) (.tmp 33) rfl (.slice a0 rs.length c0) rs r rfl ((unhide HRun).later (unhide HS3)) w2.heap.size (.slice a2 r.length c2) rfl (by simp [go_sem]) ⟨a2, c2, rfl, hq2.later (below_alloc (Below.refl _ w2) _), hrl⟩ (unhide HLen) ?_
  intro v3 w3 hL3 hg3 hK3
  obtain ⟨a3, k3, e3⟩ := hL3.form
  rw [List.length_append] at e3
  change v3 = .slice a3 (rs.length + 1) k3 at e3
  subst e3
  have HPut := hide (Ys.put (b := b) (u' := .slice a3 (rs.length + 1) k3) (rs' := rs ++ [r]) ((unhide HL).later (unhide HS3)) rfl hu hir hK3 (fun g e => by rcases hg3.2 with q | ⟨q, q1, q2⟩; left; rw [← q]; exact e; right; rw [q1] at e; injection e with e; omega) (fun g e => hL3.tg e) (by rw [if_pos rfl]; exact hL3))
  have nb3 : ¬ (Value.slice a0 rs.length c0).ownBlock = some b := fun e => ((unhide HUB) _ e).ne (unhide HB).tg (by decide) rfl
  have ngR : ¬ (Value.slice a0 rs.length c0).ownBlock = some gR := fun e => ((unhide HUB) _ e).ne (own_tg (unhide HL).r (g := gR) rfl) (by decide) rfl
  have c93 := hK3.cell (clater c9 (unhide HS3)) nb3
  have ci3 := hK3.cell (clater ci (unhide HS3)) ngR
  have fi3 : w3.frozen? ⟨gR, i, none⟩ = false := (hK3.frozen (World.block_lt_of_cell? _ _ (clater ci (unhide HS3))) ngR).trans (World.ownsRow.frozenAt ((unhide HL).later (unhide HS3)).r i)
  have HB3 := hide (((unhide HB).later (unhide HS3)).ky hK3 nb3)
  have HK3 := hide hK3
  clear hL3 hg3 hK3
  refine unhide hK' _ _ ⟨fun _ => ⟨c93, ci3⟩, ?_⟩
  clear hK' K'
  try simp only [Act.put, List.setIfInBounds_toArray, List.set_cons_zero, List.set_cons_succ]
  refine anyG_one (i := 16) (by kernel_rfl) ?_
  refine wpOp_lit rfl (by rfl) fun K' hK' => ?_
  go_simp
  refine unhide hK' _ _ ⟨fun _ => ⟨c93, ci3⟩, ?_⟩
  clear hK' K'
  try simp only [Act.put, List.setIfInBounds_toArray, List.set_cons_zero, List.set_cons_succ]
  refine anyG_one (i := 17) (by kernel_rfl) ?_
  refine wpOp_lit rfl (by rfl) fun K' hK' => ?_
  go_simp
  refine unhide hK' _ _ ⟨fun hh => absurd hh (by decide), ?_⟩
  clear hK' K'
  try simp only [Act.put, List.setIfInBounds_toArray, List.set_cons_zero, List.set_cons_succ]
  refine anyG_done (by kernel_rfl) ?_ _
  refine NoPanic.normal ?_
  obtain ⟨F', p1, p2, p3, p4, p5, p6, p7⟩ := unhide HPut
  have nbR : ¬ b = gR := fun e => by subst e; exact (unhide HB).tg.ne (own_tg (unhide HL).r (g := b) rfl) (by decide) rfl
  have HB4 := hide (((unhide HB).later (unhide HS3)).ky p4 (fun e => by
      rcases e with e | e
      · exact nb3 e
      · exact nbR e))
  have HP3 := hide p3
  have HP4 := hide p4
  have HP7 := hide p7
  have HF5 := hide p5
  have HP1 := hide p1
  obtain ⟨w4, hw4⟩ : ∃ w4, w3.setCell ⟨gR, i, none⟩ (.slice a3 (rs.length + 1) k3) = w4 := ⟨_, rfl⟩
  rw [hw4] at HB4 HP3 HP4 ⊢
  have e2 : w4.cell? ⟨b, 2, none⟩ = some (.int .i64 Y.puts) := (unhide HB4).c2
  have f2 := (unhide HB4).fr 2
  have ew : IntKind.i64.wrap (Y.puts + 1) = Y.puts + 1 := IntWalk.i64_in _ (by have := unhide HY; omega)
  have HB5 := hide ((unhide HB4).set_puts (Y.puts + 1))
  have HK5 := hide ((unhide HB4).ky_puts (Y.puts + 1))
  have HP5 : Hid (Py (w4.setCell ⟨b, 2, none⟩ (.int .i64 (Y.puts + 1))) b (Y.tick.put i (rs ++ [r])) (some i) F') := Py.upd (Y := { Y.tick with runs := Y.runs.set i (rs ++ [r]) }) (p2 _ fb) (by have q := unhide HB4; exact ⟨q.tg, q.fr, q.c0, q.c1, q.c2, q.c3, q.c4, q.c5, q.c6, q.c7, q.c8, q.c9, q.c10⟩) (unhide HP3) (unhide HK5) (by have q := unhide HB5; exact ⟨q.tg, q.fr, q.c0, q.c1, q.c2, q.c3, q.c4, q.c5, q.c6, q.c7, q.c8, q.c9, q.c10⟩) rfl rfl rfl
  have HHo := hide (hold_any (unhide HP5) (-1) (by have := unhide HY; show 0 ≤ Y.held + -1; omega) (by have := unhide HY; show Y.held + -1 ≤ _; omega))
  clear hw4 p1 p3 p4 p7 p5 c93 ci3 fi3
  go_wp2_with (first | (go_at_call 157; refine (unhide HHo).mono ?_; rintro _ w6 ⟨rfl, hP6, hK6⟩))
  go_ret
  refine ⟨rfl, F', fun k hk => (unhide HP1 k hk).imp id (fun q => by have := (unhide HK).size; have := (unhide HS3).size; omega), p2, hP6, ?_⟩
  have kb : ∀ k, k = b → F k := fun k e => by subst e; exact fb
  exact (((((unhide HK).mono kb).trans (Ky.of_below (F := F) (unhide HS3)) (Nw.refl _ _)).trans ((unhide HP4).mono fun k e => by rcases e with e | e; exact ((unhide HP7) _ e).1; subst e; exact unhide HF5) (Nw.refl _ _)).trans ((unhide HK5).mono kb) (Nw.refl _ _)).trans (hK6.mono kb) (Nw.refl _ _)
end Go.Proofs.YtcbenpodohjbiaaGreat
set_option linter.unusedSimpArgs false
set_option linter.unusedVariables false
set_option maxRecDepth 100000
namespace Go.Proofs.YtcbenpodohjbiaaGreat
open Go.RowKit Go.Sort

set_option maxHeartbeats 2000000 in
/-- Next of a run (154), refused. -/
theorem next_hit {F : Nat → Prop} {b : Nat} {Y : Yv} {op : Option Nat} {w : World} (i : Value) (h : Py w b Y op F) (hr : Y.rd = false) (hh : Y.hit = true) (hc : Y.cd ≠ 0) :
    Calls Tryz.prog 154 #[.pointer (some ⟨b, 0, none⟩), i] w fun e w' => e = .returned (.tuple #[.slice none 0 0, .bool false, .int .i64 Y.cd]) ∧ Py w' b Y.tick op F ∧ Ky (fun k => k = b) w w' := by
  have HC := hide (call_any h hr)
  rw [hh] at HC
  have h1 : (Y.cd != 0) = true := by simpa using hc
  clear h hc hr hh
  go_enter Tryz.func154, Tryz.ntmps154
  go_wp2_with (first | (go_at_call 158; refine (unhide HC).mono ?_; rintro _ w1 ⟨rfl, hP, hK⟩))
  exact bodyPost_ret (v := .tuple #[.slice none 0 0, .bool false, .int .i64 Y.cd]) (by simp [results, Tryz.results154, go_sem]) rfl ⟨rfl, hP, hK⟩
set_option maxHeartbeats 2000000 in
/-- Next of a run, behind its last row. -/
theorem next_end {F : Nat → Prop} {b : Nat} {Y : Yv} {op : Option Nat} {w : World} {i : Nat} (h : Py w b Y op F) (hop : op ≠ some i) (hi : Y.there[i]? = some true) (hrs : Y.runs[i]? = some []) (hn : Y.runs.length ≤ 1048576) (hr : Y.rd = false) (hh : Y.hit = false) :
    Calls Tryz.prog 154 #[.pointer (some ⟨b, 0, none⟩), .int .i64 i] w fun e w' => e = .returned (.tuple #[.slice none 0 0, .bool false, .int .i64 0]) ∧ Py w' b Y.tick op F ∧ Ky (fun k => k = b) w w' := by
  have HC := hide (call_any h hr)
  rw [hh] at HC
  clear h hr hh
  go_enter Tryz.func154, Tryz.ntmps154
  go_upto_region 2 with (first | (go_at_call 158; refine (unhide HC).mono ?_; rintro _ w1 ⟨rfl, hP, hK⟩; have HP := hide hP; have HK := hide hK; have HI := hide (is_yes hP hi hn); clear hP hK))
  obtain ⟨fb, vO, vR, vT, us, hB, hl⟩ := unhide HP
  obtain ⟨u0, gR, cR, hu, rfl, ci, fi, hlt⟩ := hl.ix (i := i) (rs := []) hrs
  obtain ⟨hrun, _⟩ := hl.e i u0 [] hu hrs
  rw [if_neg hop] at hrun
  obtain ⟨a0, c0, rfl, _, _⟩ := hrun
  have c9 := hB.c9
  have i4 : (i : Int) < (us.length : Int) := by omega
  simp only [List.length_nil] at ci
  clear hB hl fi hu
  go_wp2_with (first | (go_at_call 156; refine (unhide HI).mono ?_; rintro _ w9 ⟨rfl, hw9⟩; rw [hw9]; clear hw9))
  exact bodyPost_ret (v := .tuple #[.slice none 0 0, .bool false, .int .i64 0]) (by simp [results, Tryz.results154, go_sem]) rfl ⟨rfl, unhide HP, unhide HK⟩
theorem slice_lo22 (g off n c : Nat) (W : World) : (Instr.slice 22 (.slice (some ⟨g, off, none⟩) (n + 1) c) (some (.int .i64 1)) none none).run Tryz.prog W = .ok (.slice (if c = 1 then some ⟨g, off, none⟩ else some ⟨g, off + 1, none⟩) n (c - 1)) W := by
  obtain ⟨i, hi, _, hz, _⟩ := info_parts info52
  have h1 : ¬ ((n : Int) + 1) < 1 := by omega
  have h2 : (1 : Int) ≤ (n : Int) + 1 := by omega
  simp [Instr.slice, run_underlying Tryz.underlying22, Instr.sliceBounds, Instr.sliceBound, asIntOf, sizeOf, typeInfo, hi, hz, h1, h2, Addr.add]
/-- What is left of a run. -/
theorem RunV.tail {w : World} {g off c : Nat} {r : List Val} {rs : List (List Val)} (h : RunV w (.slice (some ⟨g, off, none⟩) (rs.length + 1) c) (r :: rs)) : RunV w (.slice (if c = 1 then some ⟨g, off, none⟩ else some ⟨g, off + 1, none⟩) rs.length (c - 1)) rs := by
  obtain ⟨a, c', e, hc, h⟩ := h
  injection e with e1 e2 e3
  subst e1 e3
  rw [List.length_cons] at hc
  refine ⟨_, _, rfl, by omega, ?_⟩
  rcases h with h | ⟨g', off', e, ht, h⟩
  · cases h
  injection e with e
  injection e with e4 e5
  subst e4 e5
  by_cases hr : rs = []
  · exact .inl hr
  · have : 0 < rs.length := List.length_pos_iff.2 hr
    rw [if_neg (by omega)]
    refine .inr ⟨g, off + 1, rfl, ht, fun i x hx => ?_⟩
    obtain ⟨ra, rc, h1, h2⟩ := h (i + 1) x (by simpa using hx)
    exact ⟨ra, rc, by rw [show off + 1 + i = off + (i + 1) by omega]; exact h1, h2⟩
/-- A row of a run is read. -/
def Yv.read (Y : Yv) (i : Nat) (rs : List (List Val)) : Yv := { Y with runs := Y.runs.set i rs }

set_option maxHeartbeats 4000000 in
/-- Next of a run (154). -/
theorem next_row {F : Nat → Prop} {b : Nat} {Y : Yv} {op : Option Nat} {w : World} {i : Nat} {r : List Val} {rs : List (List Val)} (h : Py w b Y op F) (hop : op ≠ some i) (hi : Y.there[i]? = some true) (hrs : Y.runs[i]? = some (r :: rs)) (hn : Y.runs.length ≤ 1048576) (h0 : 0 ≤ Y.held) (h1 : Y.held ≤ 1048576) (hr : Y.rd = false) (hh : Y.hit = false) :
    Calls Tryz.prog 154 #[.pointer (some ⟨b, 0, none⟩), .int .i64 i] w fun e w' => ∃ v, e = .returned (.tuple #[v, .bool true, .int .i64 0]) ∧ Rw w' v r ∧ ∃ F', Nw F F' w ∧ (∀ k, F k → F' k) ∧ Py w' b ((Y.tick.read i rs).hold 1) op F' ∧ Ky F w w' := by
  have HC := hide (call_any h hr)
  rw [hh] at HC
  have HY : Hid (0 ≤ Y.held ∧ Y.held ≤ 1048576) := ⟨h0, h1⟩
  have hir : i < Y.runs.length := (List.getElem?_eq_some_iff.1 hrs).1
  clear h hr hh h0 h1
  go_enter Tryz.func154, Tryz.ntmps154
  go_upto_region 2 with (first | (go_at_call 158; refine (unhide HC).mono ?_; rintro _ w1 ⟨rfl, hP, hK⟩; have HP := hide hP; have HK := hide hK; have HI := hide (is_yes hP hi hn); clear hP hK))
  obtain ⟨fb, vO, vR, vT, us, hB, hl⟩ := unhide HP
  obtain ⟨u0, gR, cR, hu, rfl, ci, fi, hlt⟩ := hl.ix (i := i) (rs := r :: rs) hrs
  obtain ⟨hrun, hub⟩ := hl.e i u0 _ hu hrs
  rw [if_neg hop] at hrun
  obtain ⟨a0, c0, rfl, hcl, hq⟩ := hrun
  obtain ⟨g, off, rfl, hgt, hq⟩ : ∃ g off, a0 = some ⟨g, off, none⟩ ∧ Tg 70 w1 g ∧ ∀ (i : Nat) (x : List Val), (r :: rs)[i]? = some x → ∃ ra rc, w1.cell? ⟨g, off + i, none⟩ = some (.slice ra x.length rc) ∧ RowC w1 ra x ∧ x.length ≤ 1048576 := by
    rcases hq with hq | hq
    · cases hq
    · exact hq
  obtain ⟨ra, rc, cr, hrow, hrl⟩ := hq 0 r rfl
  rw [Nat.add_zero] at cr
  have c9 := hB.c9
  have i4 : (i : Int) < (us.length : Int) := by omega
  rw [List.length_cons] at ci
  have hRV : RunV w1 (.slice (some ⟨g, off, none⟩) (rs.length + 1) c0) (r :: rs) := ⟨_, c0, rfl, hcl, .inr ⟨g, off, rfl, hgt, hq⟩⟩
  have hdr : Below w1.heap.size w1 w1.drew := (Below.refl _ _).drew
  have HPut := hide (Ys.put (b := b) (u' := .slice (if c0 = 1 then some ⟨g, off, none⟩ else some ⟨g, off + 1, none⟩) rs.length (c0 - 1)) (rs' := rs) hl rfl hu hir (Ky.refl _ _) (fun q e => by left; split at e <;> exact e) (fun q e => by
      have : g = q := by split at e <;> (injection e)
      subst this
      exact hgt) (by rw [if_neg hop]; exact RunV.tail hRV))
  have hsl := slice_lo22 g off rs.length c0
  generalize (if c0 = 1 then some (⟨g, off, none⟩ : Addr) else some ⟨g, off + 1, none⟩) = a5 at HPut hsl
  have HB := hide hB
  have HRow := hide hrow
  have e0 : (((rs.length + 1 : Nat) : Int) == 0) = false := by simp; omega
  clear hB hl hu hub hq hRV hcl
  go_upto_region 5 with (first | (go_at_call 156; refine (unhide HI).mono ?_; rintro _ w9 ⟨rfl, hw9⟩; rw [hw9]; clear hw9))
  go_region
  obtain ⟨F', p1, p2, p3, p4, p5, p6, p7⟩ := unhide HPut
  have nbR : ¬ b = gR := fun e => by subst e; exact (unhide HB).tg.ne p6 (by decide) rfl
  have nbg : ¬ b = g := fun e => by subst e; exact (unhide HB).tg.ne hgt (by decide) rfl
  have HB4 := hide (((unhide HB).ky p4 (fun e => by
      rcases e with e | e
      · injection e with e; exact nbg e.symm
      · exact nbR e)).drew)
  replace p3 := p3.later (w' := (w1.setCell ⟨gR, i, none⟩ (.slice a5 rs.length (c0 - 1))).drew) ((Below.refl _ _).drew)
  replace p4 := p4.drew
  obtain ⟨w4, hw4⟩ : ∃ w4, (w1.setCell ⟨gR, i, none⟩ (.slice a5 rs.length (c0 - 1))).drew = w4 := ⟨_, rfl⟩
  rw [hw4] at HB4 p3 p4 ⊢
  have HP5 : Hid (Py w4 b (Y.tick.read i rs) op F') := ⟨p2 _ fb, vO, _, vT, _, by have q := unhide HB4; exact ⟨q.tg, q.fr, q.c0, q.c1, q.c2, q.c3, q.c4, q.c5, q.c6, q.c7, q.c8, q.c9, q.c10⟩, p3⟩
  have HHo := hide (hold_any (unhide HP5) 1 (by have := unhide HY; show 0 ≤ Y.held + 1; omega) (by have := unhide HY; show Y.held + 1 ≤ _; omega))
  have HP4 := hide p4
  have HP7 := hide p7
  have HP1 := hide p1
  clear hw4 p1 p3 p4 p7
  have kb : ∀ k, k = b → F k := fun k e => by subst e; exact fb
  have HK4 : Hid (Ky F w w4) := ((unhide HK).mono kb).trans ((unhide HP4).mono fun k e => by rcases e with e | e; exact ((unhide HP7) _ e).1; subst e; exact p5) (Nw.refl _ _)
  have HCp := hide (fun (w6 : World) (hb : Ky (fun k => k = b) w4 w6) => copied_any ra rc r w6 hrl (((unhide HRow).ky (unhide HP4)).ky hb).at)
  go_wp2_with (first | (go_at_call 157; refine (unhide HHo).mono ?_; rintro _ w6 ⟨rfl, hP6, hK6⟩; have HP6 := hide hP6; have HK6 := hide hK6; clear hP6 hK6) | (go_at_call 159; refine (unhide HCp _ (unhide HK6)).mono ?_; rintro _ w7 ⟨v7, rfl, hv7, hb7⟩))
  refine bodyPost_ret (v := .tuple #[v7, .bool true, .int .i64 0]) (by simp [results, Tryz.results154, go_sem]) rfl ⟨v7, rfl, hv7, F', fun k hk => (unhide HP1 k hk).imp id (fun q => by have := (unhide HK).size; have := hdr.size; omega), p2, (unhide HP6).later hb7, ?_⟩
  exact ((unhide HK4).trans ((unhide HK6).mono kb) (Nw.refl _ _)).trans (Ky.of_below (F := F) hb7) (Nw.refl _ _)
end Go.Proofs.YtcbenpodohjbiaaGreat
set_option linter.unusedSimpArgs false
set_option linter.unusedVariables false
set_option maxRecDepth 100000
namespace Go.Proofs.YtcbenpodohjbiaaGreat
open Go.RowKit Go.Sort

set_option maxHeartbeats 2000000 in
/-- own (60) of a row. -/
theorem own_yes (a : Option Addr) (c : Nat) (xs : List Val) (w : World) (hl : xs.length ≤ 1048576) (ha : RowAt w a xs) :
    Calls Tryz.prog 60 #[.slice a xs.length c, .bool true, .int .i64 0] w fun e w' => ∃ v, e = .returned (.tuple #[v, .bool true, .int .i64 0]) ∧ Rw w' v (cleanR xs) ∧ Below w.heap.size w w' := by
  obtain ⟨i4, hi4, z40, z41, z42⟩ := info_parts info23
  have HA := hide ha
  obtain ⟨ys, hys⟩ : ∃ ys, ys = cleanR xs := ⟨_, rfl⟩
  have hyl : ys.length = xs.length := by rw [hys]; simp [cleanR]
  have H0 : Hid (Fil w (w.alloc (.cells (madeCells (Value.cells (.agg #[.int .i64 0, .int .i64 0, .string ⟨#[]⟩])) (xs.length * 3)) 73)) ys 0) := by
    have := Fil.start w ys (by omega)
    rw [hyl] at this
    exact this
  have HY : Hid (∀ (k : Nat) x, xs[k]? = some x → ys[k]? = some (cleanV x)) := fun k x hx => by rw [hys]; unfold cleanR; rw [List.getElem?_map, hx]; rfl
  have HYL := hide hyl
  have HYS := hide hys
  clear ha hyl hys
  go_enter Tryz.func60, Tryz.ntmps60
  go_wp2_with (first
    | (at_make; refine wpList_make_rows _ rfl (.tmp 20) (.tmp 20) 70 rfl 73 i4 _ Tryz.underlying70 hi4 z40 3 z41 .i64 .i64 xs.length rfl rfl (by rw [z42]; omega) (by omega) ?_)
    | fail)
  go_loopw [24] (fun i wr => ∃ k : Nat, k ≤ xs.length ∧ i = .int .i64 k ∧ Hid (Fil w wr ys k)) (fun i _ => xs.length - (intOf i).toNat)
  case atStart => exact ⟨0, Nat.zero_le _, rfl, H0⟩
  case round =>
    obtain ⟨k, hk, rfl, HF⟩ := hrel
    by_cases h1 : k < xs.length
    · have i1 : (k : Int) < (xs.length : Int) := by omega
      obtain ⟨x, hx⟩ : ∃ x, xs[k]? = some x := ⟨_, List.getElem?_eq_getElem h1⟩
      obtain ⟨L, _, hO, _, hb⟩ := unhide HF
      rw [unhide HYL] at hO
      obtain ⟨b, off, rfl, d0, d1, d2⟩ := ((unhide HA).later hb).lo hx
      have HX := hide (unhide HY k x hx)
      have HC := hide (clean_any x)
      have HO := hide hO
      have HBX := hide (below_alloc (Below.refl _ wr) (.cells #[.int .i64 x.k, .int .i64 x.n, .string x.s] 73))
      clear hb hx hO
      go_wp2_with (first
        | (go_at_call 52; refine (unhide HC _).mono ?_; rintro e w3 ⟨rfl, hb3⟩; have hb13 := below_step (unhide HBX) hb3; rw [Val.open_]; obtain ⟨y, p0, p1, p2, q0, q1, q2⟩ := ((unhide HO).later hb13).three h1))
      go_roundw
      case rel => exact ⟨k + 1, by omega, by go_num, ((unhide HF).later hb13).step (unhide HX)⟩
      case measure => simp [intOf]; omega
    · have i1 : ¬ (k : Int) < (xs.length : Int) := by omega
      have e : k = ys.length := by have := unhide HYL; omega
      subst e
      go_wp2
      obtain ⟨h2, h3⟩ := (unhide HF).done
      have h4 := ownV_Rw h2 (by have := unhide HYL; omega)
      rw [unhide HYL] at h4
      exact bodyPost_ret (v := .tuple #[.slice (some ⟨w.heap.size, 0, none⟩) xs.length xs.length, .bool true, .int .i64 0]) (by simp [results, Tryz.results60, go_sem]) rfl ⟨_, rfl, by rw [← unhide HYS]; exact h4, h3⟩
theorem own_no (e : Int) (t : Bool) (w : World) (h : t = false ∨ e ≠ 0) :
    Calls Tryz.prog 60 #[.slice none 0 0, .bool t, .int .i64 e] w fun r w' => r = .returned (.tuple #[.slice none 0 0, .bool false, .int .i64 e]) ∧ w' = w := by
  by_cases he : e = 0
  · subst he
    have ht : t = false := by rcases h with h | h; exact h; exact absurd rfl h
    subst ht
    go_enter Tryz.func60, Tryz.ntmps60
    go_wp2
    exact bodyPost_ret (v := .tuple #[.slice none 0 0, .bool false, .int .i64 0]) (by simp [results, Tryz.results60, go_sem]) rfl ⟨rfl, rfl⟩
  · have h1 : (e != 0) = true := by simpa using he
    clear h he
    go_enter Tryz.func60, Tryz.ntmps60
    go_wp2
    exact bodyPost_ret (v := .tuple #[.slice none 0 0, .bool false, .int .i64 e]) (by simp [results, Tryz.results60, go_sem]) rfl ⟨rfl, rfl⟩
end Go.Proofs.YtcbenpodohjbiaaGreat
set_option linter.unusedSimpArgs false
set_option linter.unusedVariables false
set_option maxRecDepth 100000
namespace Go.Proofs.YtcbenpodohjbiaaGreat
open Go.RowKit Go.Sort

/-- A world, and which of its blocks nobody may change. -/
structure Bs where
  w : World
  X : Nat → Prop
def Bs.No (B : Bs) (j : Nat) : Prop := ¬ B.X j
def Bs.Bel (B : Bs) (w : World) : Prop := B.w.heap.size ≤ w.heap.size ∧ ∀ k, B.X k → k < B.w.heap.size ∧ w.heap[k]? = B.w.heap[k]?
/-- Rows that lie in those blocks. -/
def Bs.Rows (B : Bs) (aR : Option Addr) (rs : List (List Val)) : Prop := rs = [] ∨ ∃ b off, aR = some ⟨b, off, none⟩ ∧ B.X b ∧ ∀ i r, rs[i]? = some r → ∃ ra rc, B.w.cell? ⟨b, off + i, none⟩ = some (.slice ra r.length rc) ∧ RowAt B.w ra r ∧ ∀ b' off', ra = some ⟨b', off', none⟩ → r ≠ [] → B.X b'
theorem Bs.new {B : Bs} {w : World} {j : Nat} (h : B.Bel w) (hj : w.heap.size ≤ j) : B.No j := fun hx => by
  have := (h.2 j hx).1
  have := h.1
  omega
theorem Bs.Bel.ky {B : Bs} {F : Nat → Prop} {w w' : World} (h : B.Bel w) (hk : Ky F w w') (hl : ∀ j, F j → B.No j) : B.Bel w' :=
  ⟨Nat.le_trans h.1 hk.size, fun k hx => ⟨(h.2 k hx).1, (hk.block k (Nat.lt_of_lt_of_le (h.2 k hx).1 h.1) (fun f => hl k f hx)).trans (h.2 k hx).2⟩⟩
theorem Bs.Bel.later {B : Bs} {w w' : World} (h : B.Bel w) (hb : Below w.heap.size w w') : B.Bel w' := h.ky (F := fun _ => False) (Ky.of_below hb) (fun _ => False.elim)
theorem Bs.rows_at {B : Bs} {w : World} {aR : Option Addr} {rs : List (List Val)} (h : B.Rows aR rs) (hb : B.Bel w) : RowsT w aR rs := by
  rcases h with h | ⟨b, off, e, hx, h⟩
  · exact .inl h
  · refine .inr ⟨b, off, e, fun i r hr => ?_⟩
    obtain ⟨ra, rc, c0, hra, hxr⟩ := h i r hr
    have ec : ∀ b o, B.X b → w.cell? ⟨b, o, none⟩ = B.w.cell? ⟨b, o, none⟩ := fun b o hx => World.cell?_of_block (w := B.w) (a := ⟨b, o, none⟩) (hb.2 b hx).2
    exact ⟨ra, rc, by rw [ec _ _ hx]; exact c0, hra.kept fun b' off' j e hne => ec _ _ (hxr b' off' e hne)⟩
/-- A stream of rows that came in; k of them are read. -/
structure Stm (w0 : Bs) (w : World) (s b : Nat) (aR : Option Addr) (cR : Nat) (rs : List (List Val)) (k : Nat) : Prop where
  tg : Tg 68 w s
  fr : ∀ i, w.frozen? ⟨s, i, none⟩ = false
  c0 : w.cell? ⟨s, 0, none⟩ = some (.pointer (some ⟨b, 0, none⟩))
  c1 : w.cell? ⟨s, 1, none⟩ = some (.slice aR rs.length cR)
  c2 : w.cell? ⟨s, 2, none⟩ = some (.int .i64 k)
  bl : w0.Bel w
theorem Stm.ky {F : Nat → Prop} {w0 : Bs} {w w' : World} {s b : Nat} {aR : Option Addr} {cR : Nat} {rs : List (List Val)} {k : Nat} (h : Stm w0 w s b aR cR rs k) (hk : Ky F w w') (hn : ¬ F s) (hl : ∀ j, F j → w0.No j) : Stm w0 w' s b aR cR rs k :=
  ⟨hk.tg h.tg hn, fun i => (hk.frozen h.tg.lt hn).trans (h.fr i), hk.cell h.c0 hn, hk.cell h.c1 hn, hk.cell h.c2 hn, h.bl.ky hk hl⟩
theorem Stm.later {w0 : Bs} {w w' : World} {s b : Nat} {aR : Option Addr} {cR : Nat} {rs : List (List Val)} {k : Nat} (h : Stm w0 w s b aR cR rs k) (hb : Below w.heap.size w w') : Stm w0 w' s b aR cR rs k := h.ky (F := fun _ => False) (Ky.of_below hb) id (fun _ => False.elim)
theorem Stm.set {w0 : Bs} {w : World} {s b : Nat} {aR : Option Addr} {cR : Nat} {rs : List (List Val)} {k : Nat} (h : Stm w0 w s b aR cR rs k) (hs : w0.No s) (j : Nat) : Stm w0 (w.setCell ⟨s, 2, none⟩ (.int .i64 j)) s b aR cR rs j := by
  obtain ⟨q1, q2, q3, q4, q5, q6⟩ := h
  refine ⟨q1.set _ _ _, fun i => by rw [World.frozen?_setCell]; exact q2 i, ?_, ?_, ?_, q6.ky (F := fun k => k = s) ((Ky.refl (fun k => k = s) w).set (F := fun k => k = s) rfl q1 (by decide) _ _) (fun j e => by subst e; exact hs)⟩ <;> simp [go_sem, q3, q4, q5]

set_option maxHeartbeats 2000000 in
/-- stream.Next (161), refused. -/
theorem snext_hit {F : Nat → Prop} {w0 : Bs} {w : World} {s b : Nat} {Y : Yv} {op : Option Nat} {aR : Option Addr} {cR : Nat} {rs : List (List Val)} {k : Nat} (h : Py w b Y op F) (hS : Stm w0 w s b aR cR rs k) (hsF : ¬ F s) (hF : ∀ j, F j → w0.No j) (hr : Y.rd = false) (hh : Y.hit = true) (hc : Y.cd ≠ 0) :
    Calls Tryz.prog 161 #[.pointer (some ⟨s, 0, none⟩)] w fun e w' => e = .returned (.tuple #[.slice none 0 0, .bool false, .int .i64 Y.cd]) ∧ Py w' b Y.tick op F ∧ Stm w0 w' s b aR cR rs k ∧ Ky (fun j => j = b ∨ j = s) w w' := by
  have HC := hide (call_any h hr)
  rw [hh] at HC
  have fb : F b := h.1
  have hne : ¬ s = b := fun e => hsF (e ▸ fb)
  have h1 : (Y.cd != 0) = true := by simpa using hc
  have c0 := hS.c0
  have HS := hide hS
  have HF := hide hF
  clear h hS hF hc hh hr
  go_enter Tryz.func161, Tryz.ntmps161
  go_wp2_with (first | (go_at_call 158; refine (unhide HC).mono ?_; rintro _ w1 ⟨rfl, hP, hK⟩; have HP := hide hP; have HK := hide hK; have hS1 := (unhide HS).ky hK hne (fun j e => by subst e; exact unhide HF _ fb); have d1 := hS1.c1; have d2 := hS1.c2; have HS1 := hide hS1; clear hP hK hS1))
  go_region
  go_wp2
  exact bodyPost_ret (v := .tuple #[.slice none 0 0, .bool false, .int .i64 Y.cd]) (by simp [results, Tryz.results161, go_sem]) rfl ⟨rfl, (unhide HP).ky (G := fun _ => False) (Ky.refl _ _).drew (fun _ => False.elim), (unhide HS1).ky (F := fun _ => False) (Ky.refl _ _).drew id (fun _ => False.elim), ((unhide HK).mono fun j e => .inl e).drew⟩

set_option maxHeartbeats 2000000 in
/-- stream.Next, behind the last row. -/
theorem snext_end {F : Nat → Prop} {w0 : Bs} {w : World} {s b : Nat} {Y : Yv} {op : Option Nat} {aR : Option Addr} {cR : Nat} {rs : List (List Val)} (h : Py w b Y op F) (hS : Stm w0 w s b aR cR rs rs.length) (hsF : ¬ F s) (hF : ∀ j, F j → w0.No j) (hr : Y.rd = false) (hh : Y.hit = false) :
    Calls Tryz.prog 161 #[.pointer (some ⟨s, 0, none⟩)] w fun e w' => e = .returned (.tuple #[.slice none 0 0, .bool false, .int .i64 0]) ∧ Py w' b Y.tick op F ∧ Stm w0 w' s b aR cR rs rs.length ∧ Ky (fun j => j = b ∨ j = s) w w' := by
  have HC := hide (call_any h hr)
  rw [hh] at HC
  have fb : F b := h.1
  have hne : ¬ s = b := fun e => hsF (e ▸ fb)
  have c0 := hS.c0
  have HS := hide hS
  have HF := hide hF
  clear h hS hF hh hr
  go_enter Tryz.func161, Tryz.ntmps161
  go_wp2_with (first | (go_at_call 158; refine (unhide HC).mono ?_; rintro _ w1 ⟨rfl, hP, hK⟩; have HP := hide hP; have HK := hide hK; have hS1 := (unhide HS).ky hK hne (fun j e => by subst e; exact unhide HF _ fb); have d1 := hS1.c1; have d2 := hS1.c2; have HS1 := hide hS1; clear hP hK hS1))
  go_region
  go_wp2
  exact bodyPost_ret (v := .tuple #[.slice none 0 0, .bool false, .int .i64 0]) (by simp [results, Tryz.results161, go_sem]) rfl ⟨rfl, (unhide HP).ky (G := fun _ => False) (Ky.refl _ _).drew (fun _ => False.elim), (unhide HS1).ky (F := fun _ => False) (Ky.refl _ _).drew id (fun _ => False.elim), ((unhide HK).mono fun j e => .inl e).drew⟩

set_option maxHeartbeats 4000000 in
/-- stream.Next, of a row. -/
theorem snext_row {F : Nat → Prop} {w0 : Bs} {w : World} {s b : Nat} {Y : Yv} {op : Option Nat} {aR : Option Addr} {cR : Nat} {rs : List (List Val)} {k : Nat} {r : List Val} (h : Py w b Y op F) (hS : Stm w0 w s b aR cR rs k) (hI : w0.Rows aR rs) (hx : rs[k]? = some r) (hrl : r.length ≤ 1048576) (hn : rs.length ≤ 1048576) (hsF : ¬ F s) (hs0 : w0.No s) (hF : ∀ j, F j → w0.No j) (hr : Y.rd = false) (hh : Y.hit = false) (h0 : 0 ≤ Y.held) (h1 : Y.held ≤ 1048576) :
    Calls Tryz.prog 161 #[.pointer (some ⟨s, 0, none⟩)] w fun e w' => ∃ v, e = .returned (.tuple #[v, .bool true, .int .i64 0]) ∧ Rw w' v r ∧ Py w' b (Y.tick.hold 1) op F ∧ Stm w0 w' s b aR cR rs (k + 1) ∧ Ky (fun j => j = b ∨ j = s) w w' := by
  have HC := hide (call_any h hr)
  rw [hh] at HC
  have fb : F b := h.1
  have hne : ¬ s = b := fun e => hsF (e ▸ fb)
  have hkl : k < rs.length := (List.getElem?_eq_some_iff.1 hx).1
  have c0 := hS.c0
  have HS := hide hS
  have HF := hide hF
  have HI := hide hI
  have HX := hide hx
  have i1 : ((k : Int) == (rs.length : Int)) = false := by simp; omega
  have i2 : (k : Int) < (rs.length : Int) := by omega
  have HH0 := hide h0
  have HH1 := hide h1
  clear h hS hF hh hr hI hx h0 h1
  go_enter Tryz.func161, Tryz.ntmps161
  go_upto_region 2 with (first | (go_at_call 158; refine (unhide HC).mono ?_; rintro _ w1 ⟨rfl, hP, hK⟩; have HP := hide hP; have HK := hide hK; have hS1 := (unhide HS).ky hK hne (fun j e => by subst e; exact unhide HF _ fb); have d1 := hS1.c1; have d2 := hS1.c2; have d0 := hS1.c0; have g2 := hS1.fr 2; have HS1 := hide hS1; clear hP hK hS1))
  go_region
  have HS2 := hide ((unhide HS1).ky (F := fun _ => False) (Ky.refl _ _).drew id (fun _ => False.elim) |>.set hs0 (k + 1))
  have HK2 : Hid (Ky (fun j => j = s) w1 (w1.drew.setCell ⟨s, 2, none⟩ (.int .i64 ((k + 1 : Nat) : Int)))) := (Ky.refl (fun j => j = s) w1).drew.set (F := fun j => j = s) rfl (unhide HS1).tg (by decide) _ _
  have HP2 := hide ((unhide HP).ky (unhide HK2) (fun j e => by subst e; exact hsF))
  have HHo := hide (hold_any (unhide HP2) 1 (by have := unhide HH0; show 0 ≤ Y.held + 1; omega) (by have := unhide HH1; show Y.held + 1 ≤ _; omega))
  have ek : ((k + 1 : Nat) : Int) = (k : Int) + 1 := by omega
  rw [ek] at HS2 HK2 HP2 HHo
  go_upto_region 6 with (first | (go_at_call 157; refine (unhide HHo).mono ?_; rintro _ w3 ⟨rfl, hP3, hK3⟩; have HP3 := hide hP3; have HK3 := hide hK3; have hS3 := (unhide HS2).ky hK3 hne (fun j e => by subst e; exact unhide HF _ fb); have e1 := hS3.c1; have e2 := hS3.c2; have HS3 := hide hS3; clear hP3 hK3 hS3))
  obtain ⟨bR, oR, rfl, hR⟩ : ∃ bR oR, aR = some ⟨bR, oR, none⟩ ∧ ∃ ra rc, w3.cell? ⟨bR, oR + k, none⟩ = some (.slice ra r.length rc) ∧ RowAt w3 ra r := by
    rcases Bs.rows_at (unhide HI) (unhide HS3).bl with e | ⟨bR, oR, e, hR⟩
    · rw [e] at hkl; simp at hkl
    · exact ⟨bR, oR, e, hR k r (unhide HX)⟩
  obtain ⟨ra, rc, e3, hra⟩ := hR
  have HCp := hide (fun (w2 : World) (hb : Below w3.heap.size w3 w2) => copied_any ra rc r w2 hrl (hra.later hb))
  clear hra
  obtain ⟨kk, hkk⟩ : ∃ kk : Int, ((k + 1 : Nat) : Int) = kk := ⟨_, rfl⟩
  rw [hkk] at e2
  have e5 : RowKit.wrap64 (kk - 1) = (k : Int) := by rw [← hkk, ← IntWalk.i64_left, IntWalk.i64_in _ (by omega)]; omega
  have e6 : IntKind.i64.wrap (kk - 1) = (k : Int) := by rw [← hkk, IntWalk.i64_in _ (by omega)]; omega
  have e7 : kk - 1 = (k : Int) := by omega
  have e8 : kk = (k : Int) + 1 := by omega
  clear e5 e7 e8
  have HKK := hide hkk
  clear hkk ek
  have hbd : Below w3.heap.size w3 w3.drew := (Below.refl _ _).drew
  go_region_with (first | (go_at_call 159; refine (unhide HCp _ hbd).mono ?_; rintro _ w4 ⟨v4, rfl, hv4, hb4⟩))
  all_goals (go_wp2)
  all_goals (refine bodyPost_ret (v := .tuple #[v4, .bool true, .int .i64 0]) (by simp [results, Tryz.results161, go_sem]) rfl ⟨_, rfl, hv4, ((unhide HP3).later (below_step hbd hb4)), ((unhide HS3).later (below_step hbd hb4)), ?_⟩)
  all_goals exact (((unhide HK).mono fun j e => .inl e).trans ((unhide HK2).mono fun j e => .inr e) (Nw.refl (fun j => j = b ∨ j = s) _)).trans (((unhide HK3).mono fun j e => .inl e).trans (Ky.of_below (F := fun j => j = b ∨ j = s) (below_step hbd hb4)) (Nw.refl _ _)) (Nw.refl _ _)
end Go.Proofs.YtcbenpodohjbiaaGreat
set_option linter.unusedSimpArgs false
set_option linter.unusedVariables false
namespace Go.Proofs.YtcbenpodohjbiaaGreat

/-! How often a row is put: each run has a label, how often its rows were put at most. -/
theorem cong_le {X D e : Nat} (h : X % e = D % e) (hl : X < D + e) : X ≤ D := by
  rcases Nat.lt_or_ge D X with q | q
  · exfalso
    have h1 := Nat.div_add_mod X e
    have h2 := Nat.div_add_mod D e
    rw [h] at h1
    have h3 : e * (D / e) < e * (X / e) := by omega
    have h4 : D / e < X / e := Nat.lt_of_mul_lt_mul_left h3
    have h5 : e * (D / e + 1) ≤ e * (X / e) := Nat.mul_le_mul_left e h4
    rw [Nat.mul_add] at h5
    omega
  · exact q
theorem pow_one_mod (e m : Nat) (he : 2 ≤ e) : (e + 1) ^ m % e = 1 := by
  rw [Nat.pow_mod]
  have : (e + 1) % e = 1 := by rw [Nat.add_mod_left]; exact Nat.mod_eq_of_lt (by omega)
  rw [this, Nat.one_pow]
  exact Nat.mod_eq_of_lt (by omega)
/-- The labels of the runs, as they stand. -/
def Lab (d k : Nat) (labs : List Nat) : Prop := ∃ j a b, labs = List.replicate a j ++ List.replicate b (j + 1) ∧ 1 ≤ a ∧ 1 ≤ j ∧ j ≤ k ∧ a + d * b ≤ d ^ (k - j + 1)
theorem Lab.start {d k t : Nat} (ht : 1 ≤ t) (hk : 1 ≤ k) (h : t ≤ d ^ k) : Lab d k (List.replicate t 1) :=
  ⟨1, t, 0, by simp, ht, Nat.le_refl _, hk, by rw [Nat.mul_zero, Nat.add_zero, show k - 1 + 1 = k by omega]; exact h⟩
theorem Lab.le {d k : Nat} {labs : List Nat} (hd : 3 ≤ d) (h : Lab d k labs) : ∀ x ∈ labs, x ≤ k := by
  obtain ⟨j, a, b, rfl, h1, h2, h3, h4⟩ := h
  intro x hx
  rcases List.mem_append.1 hx with q | q
  · have := (List.mem_replicate.1 q).2; omega
  · obtain ⟨q1, q2⟩ := List.mem_replicate.1 q
    rcases Nat.lt_or_ge j k with r | r
    · omega
    · exfalso
      have e : k - j + 1 = 1 := by omega
      rw [e, Nat.pow_one] at h4
      have : d * 1 ≤ d * b := Nat.mul_le_mul_left d (by omega)
      omega
/-- How many are merged at first: then as many as can be, each time. -/
def cntM (d t : Nat) : Nat := (t - 2) % (d - 1) + 2
theorem cntM_le {d t : Nat} (hd : 3 ≤ d) : 2 ≤ cntM d t ∧ cntM d t ≤ d := by
  unfold cntM
  have := Nat.mod_lt (t - 2) (show d - 1 > 0 by omega)
  omega
theorem cntM_mod {d t : Nat} (hd : 3 ≤ d) (ht : 2 ≤ t) : ∃ q, t = cntM d t + (d - 1) * q := by
  refine ⟨(t - 2) / (d - 1), ?_⟩
  have := Nat.div_add_mod (t - 2) (d - 1)
  unfold cntM
  omega
theorem Lab.step {d k : Nat} {labs : List Nat} (hd : 3 ≤ d) (h : Lab d k labs) (ht : d < labs.length) : Lab d k (labs.drop (cntM d labs.length) ++ [labs.getD (cntM d labs.length - 1) 0 + 1]) := by
  obtain ⟨j, a, b, rfl, h1, h2, h3, h4⟩ := h
  have hlen : (List.replicate a j ++ List.replicate b (j + 1)).length = a + b := by simp
  rw [hlen] at ht ⊢
  obtain ⟨hc1, hc2⟩ := cntM_le (t := a + b) hd
  obtain ⟨q, hq⟩ := cntM_mod (t := a + b) hd (by omega)
  generalize cntM d (a + b) = c at *
  obtain ⟨e, rfl⟩ : ∃ e, d = e + 1 := ⟨d - 1, by omega⟩
  rw [Nat.add_sub_cancel] at hq
  have he : 2 ≤ e := by omega
  by_cases hac : c ≤ a
  · have e1 : (List.replicate a j ++ List.replicate b (j + 1)).drop c ++ [(List.replicate a j ++ List.replicate b (j + 1)).getD (c - 1) 0 + 1] = List.replicate (a - c) j ++ List.replicate (b + 1) (j + 1) := by
      rw [List.drop_append_of_le_length (by simp; exact hac), List.drop_replicate, List.getD_eq_getElem?_getD, List.getElem?_append_left (by simp; omega), List.getElem?_replicate, if_pos (by omega)]
      simp [List.replicate_succ']
    rw [e1]
    have hX : a - c + (e + 1) * (b + 1) ≤ (e + 1) ^ (k - j + 1) := by
      refine cong_le (e := e) ?_ ?_
      · rw [pow_one_mod e _ he]
        have : a - c + (e + 1) * (b + 1) = 1 + e * (q + b + 1) := by
          have p1 : (e + 1) * (b + 1) = e * b + e + b + 1 := by rw [Nat.add_mul, Nat.mul_add]; omega
          have p2 : e * (q + b + 1) = e * q + e * b + e := by rw [Nat.mul_add, Nat.mul_add]; omega
          omega
        rw [this, Nat.add_mul_mod_self_left]
        exact Nat.mod_eq_of_lt (by omega)
      · have p1 : (e + 1) * (b + 1) = (e + 1) * b + (e + 1) := by rw [Nat.mul_add]; omega
        omega
    by_cases h0 : a - c = 0
    · rw [h0] at hX ⊢
      have hb : 1 ≤ b := by omega
      have hjk : j < k := by
        rcases Nat.lt_or_ge j k with r | r
        · exact r
        · exfalso
          have e2 : k - j + 1 = 1 := by omega
          rw [e2, Nat.pow_one] at hX
          have : (e + 1) * 2 ≤ (e + 1) * (b + 1) := Nat.mul_le_mul_left _ (by omega)
          omega
      refine ⟨j + 1, b + 1, 0, by simp, by omega, by omega, by omega, ?_⟩
      have e2 : k - j + 1 = (k - (j + 1) + 1) + 1 := by omega
      rw [e2, Nat.pow_succ, Nat.mul_comm ((e + 1) ^ (k - (j + 1) + 1)) (e + 1), Nat.zero_add] at hX
      have := Nat.le_of_mul_le_mul_left hX (by omega)
      omega
    · exact ⟨j, a - c, b + 1, rfl, by omega, h2, h3, hX⟩
  · have hca : a < c := by omega
    have e1 : (List.replicate a j ++ List.replicate b (j + 1)).drop c ++ [(List.replicate a j ++ List.replicate b (j + 1)).getD (c - 1) 0 + 1] = List.replicate (a + b - c) (j + 1) ++ List.replicate 1 (j + 1 + 1) := by
      rw [List.drop_append, List.drop_replicate, List.drop_replicate, List.getD_eq_getElem?_getD, List.getElem?_append_right (by simp; omega), List.getElem?_replicate, if_pos (by simp; omega)]
      have p1 : a - c = 0 := by omega
      have p2 : b - (c - (List.replicate a j).length) = a + b - c := by rw [List.length_replicate]; omega
      rw [p1, p2]
      simp
    rw [e1]
    have hjk : j < k := by
      rcases Nat.lt_or_ge j k with r | r
      · exact r
      · exfalso
        have e2 : k - j + 1 = 1 := by omega
        rw [e2, Nat.pow_one] at h4
        have hb : b = 0 := by
          rcases Nat.eq_zero_or_pos b with z | z
          · exact z
          · exfalso
            have : (e + 1) * 1 ≤ (e + 1) * b := Nat.mul_le_mul_left _ z
            omega
        omega
    have e2 : k - j + 1 = (k - (j + 1) + 1) + 1 := by omega
    rw [e2, Nat.pow_succ, Nat.mul_comm ((e + 1) ^ (k - (j + 1) + 1)) (e + 1)] at h4
    refine ⟨j + 1, a + b - c, 1, rfl, by omega, by omega, by omega, ?_⟩
    generalize hD : (e + 1) ^ (k - (j + 1) + 1) = D at *
    have hDm : D % e = 1 := by rw [← hD]; exact pow_one_mod e _ he
    have hbD : b < D := Nat.lt_of_mul_lt_mul_left (a := e + 1) (by omega)
    rw [Nat.mul_one]
    refine cong_le (e := e) ?_ (by omega)
    rw [hDm]
    have : a + b - c + (e + 1) = 1 + e * (q + 1) := by rw [Nat.mul_add]; omega
    rw [this, Nat.add_mul_mod_self_left]
    exact Nat.mod_eq_of_lt (by omega)
end Go.Proofs.YtcbenpodohjbiaaGreat

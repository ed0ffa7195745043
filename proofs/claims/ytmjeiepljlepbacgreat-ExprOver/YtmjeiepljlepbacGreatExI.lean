import Derived.Test.YtmjeiepljlepbacGreatExE
import Derived.Test.YtmjeiepljlepbacGreatCellQ
set_option linter.unusedSimpArgs false
set_option linter.unusedVariables false
namespace Go.Proofs.YtmjeiepljlepbacGreat
open Go.RowKit Go.Sort

set_option maxHeartbeats 400000 in
set_option maxRecDepth 100000 in
theorem neg_any (x : Val) (w : World) (hx : VOk x) : Calls Tryz.prog 193 #[x.v] w fun e w' => e = .returned (reckV 8 (.num 0) x).v ∧ Below w.heap.size w w' := by
  have HR := hide (reckon_any 8 (.num 0) x ⟨by show -9223372036854775808 ≤ (0 : Int); decide, by show (0 : Int) ≤ 9223372036854775807; decide⟩ hx.1)
  have HZ : Hid (∀ W, Calls Tryz.prog 194 #[.int .i64 8, .agg #[.int .i64 1, .int .i64 0, .string ⟨#[]⟩], .agg #[.int .i64 x.k, .int .i64 x.n, .string x.s]] W fun e w' => e = .returned (reckV 8 (.num 0) x).v ∧ Below W.heap.size W w') := fun W => unhide HR W
  have HN := hide (expnum_any 0)
  generalize reckV 8 (.num 0) x = r at *
  have hB := below_alloc (below_alloc (Below.refl _ w) (.cells #[.int .i64 x.k, .int .i64 x.n, .string x.s] 38)) (.cells #[.int .i64 0, .int .i64 0, .string ⟨#[]⟩] 38)
  have hb0 : BoxAt ((w.alloc (.cells #[.int .i64 x.k, .int .i64 x.n, .string x.s] 38)).alloc (.cells #[.int .i64 0, .int .i64 0, .string ⟨#[]⟩] 38)) w.heap.size x := by refine ⟨?_, ?_, ?_⟩ <;> simp [go_sem]
  have hz0 := zeroAt_new (w.alloc (.cells #[.int .i64 x.k, .int .i64 x.n, .string x.s] 38))
  rw [show (w.alloc (.cells #[.int .i64 x.k, .int .i64 x.n, .string x.s] 38)).heap.size = w.heap.size + 1 by simp] at hz0
  rw [x.open_]
  clear HR hx
  go_enter Tryz.func193, Tryz.ntmps193
  go_upto_region 1 with fail
  obtain ⟨wa, hwa⟩ : ∃ wa, wa = (w.alloc (.cells #[.int .i64 x.k, .int .i64 x.n, .string x.s] 38)).alloc (.cells #[.int .i64 0, .int .i64 0, .string ⟨#[]⟩] 38) := ⟨_, rfl⟩
  rw [← hwa] at hB hb0 hz0 ⊢
  have HB := hide hB
  have HBX := hide hb0
  have HZ0 := hide hz0
  obtain ⟨c0, c1, c2⟩ := hb0
  obtain ⟨z0, z1, z2, z3, z4, z5⟩ := hz0
  clear hwa hB
  go_cut [] (fun wx => (wx.cell? ⟨w.heap.size + 1, 0, none⟩ = some (.int .i64 r.k) ∧ wx.cell? ⟨w.heap.size + 1, 1, none⟩ = some (.int .i64 r.n) ∧ wx.cell? ⟨w.heap.size + 1, 2, none⟩ = some (.string r.s)) ∧ Below w.heap.size w wx)
  case first =>
    go_region_with (first
      | (go_at_call 126; refine (unhide HN _).mono ?_; rintro e w1 ⟨rfl, hb1⟩; have hB1 := below_step ((Below.refl _ wa).drew) hb1; obtain ⟨c0, c1, c2⟩ := (unhide HBX).later hB1)
      | (go_at_call 194; refine (unhide HZ _).mono ?_; rintro e w2 ⟨rfl, hb2⟩; rw [Val.open_]; have hB2 := below_step hB1 hb2; obtain ⟨z0, z1, z2, z3, z4, z5⟩ := (unhide HZ0).later hB2))
    all_goals
      go_wp2
      go_meet
      refine ⟨⟨by simp [go_sem, *], by simp [go_sem, *], by simp [go_sem, *]⟩, ?_⟩
      exact put3 (below_step (unhide HB) hB2) (by omega) _ _ _
  case rest =>
    obtain ⟨⟨x0, x1, x2⟩, hbe⟩ := hcut
    have HBE := hide hbe
    clear hbe
    go_wp2
    exact bodyPost_ret (v := r.v) (by simp [results, Tryz.results193, go_sem, Val.v, *]) rfl ⟨rfl, unhide HBE⟩
set_option maxHeartbeats 400000 in
theorem isnull_any (x : Val) (w : World) : Calls Tryz.prog 196 #[x.v] w fun e w' => e = .returned (if x.k == 0 then Val.num 1 else Val.num 0).v ∧ Below w.heap.size w w' := by
  have hz0 := fun (W : World) hb => (zeroAt_new (w.alloc (.cells #[.int .i64 x.k, .int .i64 x.n, .string x.s] 38))).later (w1 := W) hb
  have HZ := hide hz0
  rw [show (w.alloc (.cells #[.int .i64 x.k, .int .i64 x.n, .string x.s] 38)).heap.size = w.heap.size + 1 by simp] at HZ
  rw [x.open_]
  clear hz0
  rcases Bool.eq_false_or_eq_true (x.k == 0) with h | h
  · go_enter Tryz.func196, Tryz.ntmps196
    go_wp2_with (go_at_call 126; refine (expnum_any _ _).mono ?_; rintro e w1 ⟨rfl, hb1⟩; obtain ⟨z0, z1, z2, z3, z4, z5⟩ := unhide HZ _ hb1)
    refine bodyPost_ret (v := (Val.num 1).v) (by simp [results, Tryz.results196, go_sem, Val.v, Val.num, *]) rfl ⟨by first | rfl | (rw [h]; rfl) | simp_all, ?_⟩
    exact put3 (below_one (below_one hb1)) (by omega) _ _ _
  · go_enter Tryz.func196, Tryz.ntmps196
    go_wp2_with (go_at_call 126; refine (expnum_any _ _).mono ?_; rintro e w1 ⟨rfl, hb1⟩; obtain ⟨z0, z1, z2, z3, z4, z5⟩ := unhide HZ _ hb1)
    refine bodyPost_ret (v := (Val.num 0).v) (by simp [results, Tryz.results196, go_sem, Val.v, Val.num, *]) rfl ⟨by first | rfl | (rw [h]; rfl) | simp_all, ?_⟩
    exact put3 (below_one (below_one hb1)) (by omega) _ _ _
set_option maxHeartbeats 400000 in
theorem length_any (x : Val) (w : World) (hx : x.s.size ≤ 140737488355328) : Calls Tryz.prog 197 #[x.v] w fun e w' => e = .returned (if x.k == 2 then Val.num x.s.size else Val.null).v ∧ Below w.heap.size w w' := by
  have HZ := hide (fun (W : World) hb => (zeroAt_new (w.alloc (.cells #[.int .i64 x.k, .int .i64 x.n, .string x.s] 38))).later (w1 := W) hb)
  rw [show (w.alloc (.cells #[.int .i64 x.k, .int .i64 x.n, .string x.s] 38)).heap.size = w.heap.size + 1 by simp] at HZ
  rw [x.open_]
  rcases Bool.eq_false_or_eq_true (x.k == 2) with h | h
  · have h2 : (x.k != 2) = false := by simp [bne, h]
    have hi : (x.s.size : Int) ≤ 140737488355328 := by omega
    go_enter Tryz.func197, Tryz.ntmps197
    go_wp2_with (go_at_call 126; refine (expnum_any _ _).mono ?_; rintro e w1 ⟨rfl, hb1⟩; obtain ⟨z0, z1, z2, z3, z4, z5⟩ := unhide HZ _ hb1)
    refine bodyPost_ret (v := (Val.num x.s.size).v) (by simp [results, Tryz.results197, go_sem, Val.v, Val.num, *]) rfl ⟨by first | rfl | (rw [h]; rfl) | simp_all, ?_⟩
    exact put3 (below_one (below_one hb1)) (by omega) _ _ _
  · have h2 : (x.k != 2) = true := by simp [bne, h]
    go_enter Tryz.func197, Tryz.ntmps197
    go_wp2
    refine bodyPost_ret (v := Val.null.v) (by simp [results, Tryz.results197, go_sem, Val.v, Val.null, *]) rfl ⟨by first | rfl | (rw [h]; rfl) | simp_all, ?_⟩
    exact below_alloc (below_alloc (Below.refl _ _) _) _
theorem both_any (op : Int) (a b : Val) (w : World) : Calls Tryz.prog 203 #[.int .i64 op, a.v, b.v] w fun e w' => e = .returned (bothV op a b).v ∧ Below w.heap.size w w' := by
  by_cases h1 : op = 19
  · subst h1; exact both_and a b w
  by_cases h2 : op = 20
  · subst h2; exact both_or a b w
  exact both_other op a b w (by simpa using h1) (by simpa using h2)
set_option maxHeartbeats 400000 in
theorem dbl65_any (op : Int) (B : Nat) (x y : Val) (w : World) (hB : Box1 w B (.int .i64 op)) (hx : VOk x) (hy : VOk y) : Calls Tryz.prog 198 #[x.v, y.v, .pointer (some ⟨B, 0, none⟩)] w fun e w' => e = .returned (reckV op x y).v ∧ Below w.heap.size w w' := by
  have HR : Hid (∀ W, Calls Tryz.prog 194 #[.int .i64 op, x.v, y.v] W fun e w' => e = .returned (reckV op x y).v ∧ Below W.heap.size W w') := fun W => reckon_any op x y hx.1 hy.1 W
  generalize reckV op x y = r at *
  rw [x.open_, y.open_] at HR ⊢
  have hBa := below_alloc (below_alloc (below_alloc (Below.refl _ w) (.cells #[.int .i64 x.k, .int .i64 x.n, .string x.s] 38)) (.cells #[.int .i64 y.k, .int .i64 y.n, .string y.s] 38)) (.cells #[.int .i64 0, .int .i64 0, .string ⟨#[]⟩] 38)
  have c0 := clater hB hBa
  have HZ := hide (fun (W : World) hb => (zeroAt_new ((w.alloc (.cells #[.int .i64 x.k, .int .i64 x.n, .string x.s] 38)).alloc (.cells #[.int .i64 y.k, .int .i64 y.n, .string y.s] 38))).later (w1 := W) hb)
  rw [show ((w.alloc (.cells #[.int .i64 x.k, .int .i64 x.n, .string x.s] 38)).alloc (.cells #[.int .i64 y.k, .int .i64 y.n, .string y.s] 38)).heap.size = w.heap.size + 1 + 1 by simp] at HZ
  clear hB hx hy hBa
  go_enter Tryz.func198, Tryz.ntmps198
  go_wp2_with (go_at_call 194; refine (unhide HR _).mono ?_; rintro e w1 ⟨rfl, hb1⟩; rw [Val.open_]; obtain ⟨z0, z1, z2, z3, z4, z5⟩ := unhide HZ _ hb1)
  refine bodyPost_ret (v := r.v) (by simp [results, Tryz.results198, go_sem, Val.v, *]) rfl ⟨rfl, ?_⟩
  exact put3 (below_one (below_one (below_one hb1))) (by omega) _ _ _
set_option maxHeartbeats 400000 in
theorem dbl66_any (op : Int) (B : Nat) (x y : Val) (w : World) (hB : Box1 w B (.int .i64 op)) (hx : VOk x) (hy : VOk y) : Calls Tryz.prog 199 #[x.v, y.v, .pointer (some ⟨B, 0, none⟩)] w fun e w' => e = .returned (testV op x y).v ∧ Below w.heap.size w w' := by
  have HR : Hid (∀ W, Calls Tryz.prog 200 #[.int .i64 op, x.v, y.v] W fun e w' => e = .returned (testV op x y).v ∧ Below W.heap.size W w') := fun W => test_any op x y W
  generalize testV op x y = r at *
  rw [x.open_, y.open_] at HR ⊢
  have hBa := below_alloc (below_alloc (below_alloc (Below.refl _ w) (.cells #[.int .i64 x.k, .int .i64 x.n, .string x.s] 38)) (.cells #[.int .i64 y.k, .int .i64 y.n, .string y.s] 38)) (.cells #[.int .i64 0, .int .i64 0, .string ⟨#[]⟩] 38)
  have c0 := clater hB hBa
  have HZ := hide (fun (W : World) hb => (zeroAt_new ((w.alloc (.cells #[.int .i64 x.k, .int .i64 x.n, .string x.s] 38)).alloc (.cells #[.int .i64 y.k, .int .i64 y.n, .string y.s] 38))).later (w1 := W) hb)
  rw [show ((w.alloc (.cells #[.int .i64 x.k, .int .i64 x.n, .string x.s] 38)).alloc (.cells #[.int .i64 y.k, .int .i64 y.n, .string y.s] 38)).heap.size = w.heap.size + 1 + 1 by simp] at HZ
  clear hB hx hy hBa
  go_enter Tryz.func199, Tryz.ntmps199
  go_wp2_with (go_at_call 200; refine (unhide HR _).mono ?_; rintro e w1 ⟨rfl, hb1⟩; rw [Val.open_]; obtain ⟨z0, z1, z2, z3, z4, z5⟩ := unhide HZ _ hb1)
  refine bodyPost_ret (v := r.v) (by simp [results, Tryz.results199, go_sem, Val.v, *]) rfl ⟨rfl, ?_⟩
  exact put3 (below_one (below_one (below_one hb1))) (by omega) _ _ _
set_option maxHeartbeats 400000 in
theorem dbl69_any (op : Int) (B : Nat) (x y : Val) (w : World) (hB : Box1 w B (.int .i64 op)) (hx : VOk x) (hy : VOk y) : Calls Tryz.prog 202 #[x.v, y.v, .pointer (some ⟨B, 0, none⟩)] w fun e w' => e = .returned (bothV op x y).v ∧ Below w.heap.size w w' := by
  have HR : Hid (∀ W, Calls Tryz.prog 203 #[.int .i64 op, x.v, y.v] W fun e w' => e = .returned (bothV op x y).v ∧ Below W.heap.size W w') := fun W => both_any op x y W
  generalize bothV op x y = r at *
  rw [x.open_, y.open_] at HR ⊢
  have hBa := below_alloc (below_alloc (below_alloc (Below.refl _ w) (.cells #[.int .i64 x.k, .int .i64 x.n, .string x.s] 38)) (.cells #[.int .i64 y.k, .int .i64 y.n, .string y.s] 38)) (.cells #[.int .i64 0, .int .i64 0, .string ⟨#[]⟩] 38)
  have c0 := clater hB hBa
  have HZ := hide (fun (W : World) hb => (zeroAt_new ((w.alloc (.cells #[.int .i64 x.k, .int .i64 x.n, .string x.s] 38)).alloc (.cells #[.int .i64 y.k, .int .i64 y.n, .string y.s] 38))).later (w1 := W) hb)
  rw [show ((w.alloc (.cells #[.int .i64 x.k, .int .i64 x.n, .string x.s] 38)).alloc (.cells #[.int .i64 y.k, .int .i64 y.n, .string y.s] 38)).heap.size = w.heap.size + 1 + 1 by simp] at HZ
  clear hB hx hy hBa
  go_enter Tryz.func202, Tryz.ntmps202
  go_wp2_with (go_at_call 203; refine (unhide HR _).mono ?_; rintro e w1 ⟨rfl, hb1⟩; rw [Val.open_]; obtain ⟨z0, z1, z2, z3, z4, z5⟩ := unhide HZ _ hb1)
  refine bodyPost_ret (v := r.v) (by simp [results, Tryz.results202, go_sem, Val.v, *]) rfl ⟨rfl, ?_⟩
  exact put3 (below_one (below_one (below_one hb1))) (by omega) _ _ _
theorem Fun1.of {W : World} {F : Value} {g g' : Val → Val} (h : Fun1 W F g) (e : g = g') : Fun1 W F g' := e ▸ h
theorem Fun2.of {W : World} {F : Value} {g g' : Val → Val → Val} (h : Fun2 W F g) (e : g = g') : Fun2 W F g' := e ▸ h
set_option maxHeartbeats 400000 in
theorem single_any (op : Int) (w : World) : Calls Tryz.prog 148 #[.int .i64 op] w fun e w' => (∃ F, e = .returned F ∧ Fun1 w F (oneV op)) ∧ w' = w := by
  by_cases h3 : op = 3
  · subst h3
    go_enter Tryz.func148, Tryz.ntmps148
    go_wp2
    go_ret
    exact ⟨⟨_, rfl, 193, #[], rfl, ent59, fun W' x _ hx => neg_any x W' hx⟩, rfl⟩
  by_cases h4 : op = 4
  · subst h4
    go_enter Tryz.func148, Tryz.ntmps148
    go_wp2
    go_ret
    exact ⟨⟨_, rfl, 195, #[], rfl, ent62, fun W' x _ hx => not_any x W'⟩, rfl⟩
  by_cases h5 : op = 5
  · subst h5
    go_enter Tryz.func148, Tryz.ntmps148
    go_wp2
    go_ret
    exact ⟨⟨_, rfl, 196, #[], rfl, ent63, fun W' x _ hx => isnull_any x W'⟩, rfl⟩
  have e3 : (op == 3) = false := by simpa using h3
  have e4 : (op == 4) = false := by simpa using h4
  have e5 : (op == 5) = false := by simpa using h5
  have eg : (fun x : Val => if x.k == 2 then Val.num x.s.size else Val.null) = oneV op := by
    funext x; unfold oneV; rw [e3, e4, e5]; rfl
  have HG := hide eg
  clear h3 h4 h5 eg
  go_enter Tryz.func148, Tryz.ntmps148
  go_wp2
  go_ret
  exact ⟨⟨_, rfl, Fun1.of ⟨197, #[], rfl, ent64, fun W' x _ hx => length_any x W' hx.2⟩ (unhide HG)⟩, rfl⟩
set_option maxHeartbeats 400000 in
theorem double_any (op : Int) (w : World) : Calls Tryz.prog 150 #[.int .i64 op] w fun e w' => ∃ F, e = .returned F ∧ Fun2 w' F (twoV op) ∧ Below w.heap.size w w' := by
  have hmf : ∀ (fn : Fn) (first cap : Array Value) (w : World), (Instr.makeFunc fn first cap).run Tryz.prog w = .ok (.func fn first cap) w := fun _ _ _ _ => rfl
  have HB := hide (below_alloc (Below.refl _ w) (.cells #[.int .i64 op] 3))
  have HX : Hid (Box1 (w.alloc (.cells #[.int .i64 op] 3)) w.heap.size (.int .i64 op)) := by show Box1 _ _ _; unfold Box1; simp [go_sem]
  by_cases h11 : op ≤ 11
  · have eg : reckV op = twoV op := by funext x y; unfold twoV; simp [h11]
    have HG := hide eg
    clear eg
    go_enter Tryz.func150, Tryz.ntmps150
    go_wp2
    go_ret
    exact ⟨_, rfl, Fun2.of ⟨198, _, rfl, ent65, fun W' x y hW hx hy => dbl65_any op w.heap.size x y W' ((unhide HX).later hW) hx hy⟩ (unhide HG), unhide HB⟩
  by_cases h17 : op ≤ 17
  · have eg : testV op = twoV op := by funext x y; unfold twoV; simp [h11, h17]
    have HG := hide eg
    clear eg
    go_enter Tryz.func150, Tryz.ntmps150
    go_wp2
    go_ret
    exact ⟨_, rfl, Fun2.of ⟨199, _, rfl, ent66, fun W' x y hW hx hy => dbl66_any op w.heap.size x y W' ((unhide HX).later hW) hx hy⟩ (unhide HG), unhide HB⟩
  by_cases h18 : op = 18
  · subst h18
    go_enter Tryz.func150, Tryz.ntmps150
    go_wp2
    go_ret
    exact ⟨_, rfl, ⟨201, _, rfl, ent68, fun W' x y hW hx hy => cat_any x y W' hx.2 hy.2⟩, unhide HB⟩
  have e18 : (op == 18) = false := by simpa using h18
  have eg : bothV op = twoV op := by funext x y; unfold twoV; simp [h11, h17, e18]
  have HG := hide eg
  clear eg h18
  go_enter Tryz.func150, Tryz.ntmps150
  go_wp2
  go_ret
  exact ⟨_, rfl, Fun2.of ⟨202, _, rfl, ent69, fun W' x y hW hx hy => dbl69_any op w.heap.size x y W' ((unhide HX).later hW) hx hy⟩ (unhide HG), unhide HB⟩
end Go.Proofs.YtmjeiepljlepbacGreat

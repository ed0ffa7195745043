import Derived.Test.YtmagpdblacgneaaGreatExE
import Derived.Test.YtmagpdblacgneaaGreatCellC
set_option linter.unusedSimpArgs false
set_option linter.unusedVariables false
namespace Go.Proofs.YtmagpdblacgneaaGreat
open Go.RowKit Go.Sort

set_option maxHeartbeats 400000 in
set_option maxRecDepth 100000 in
theorem neg_any (x : Val) (w : World) (hx : VOk x) : Calls Tryz.prog 82 #[x.v] w fun e w' => e = .returned (reckV 8 (.num 0) x).v ∧ Below w.heap.size w w' := by
  have HR := hide (reckon_any 8 (.num 0) x ⟨by show -9223372036854775808 ≤ (0 : Int); decide, by show (0 : Int) ≤ 9223372036854775807; decide⟩ hx.1)
  have HZ : Hid (∀ W, Calls Tryz.prog 83 #[.int .i64 8, .agg #[.int .i64 1, .int .i64 0, .string ⟨#[]⟩], .agg #[.int .i64 x.k, .int .i64 x.n, .string x.s]] W fun e w' => e = .returned (reckV 8 (.num 0) x).v ∧ Below W.heap.size W w') := fun W => unhide HR W
  have HN := hide (expnum_any 0)
  generalize reckV 8 (.num 0) x = r at *
  have hB := below_alloc (below_alloc (Below.refl _ w) (.cells #[.int .i64 x.k, .int .i64 x.n, .string x.s] 23)) (.cells #[.int .i64 0, .int .i64 0, .string ⟨#[]⟩] 23)
  have hb0 : BoxAt ((w.alloc (.cells #[.int .i64 x.k, .int .i64 x.n, .string x.s] 23)).alloc (.cells #[.int .i64 0, .int .i64 0, .string ⟨#[]⟩] 23)) w.heap.size x := by refine ⟨?_, ?_, ?_⟩ <;> simp [go_sem]
  have hz0 := zeroAt_new (w.alloc (.cells #[.int .i64 x.k, .int .i64 x.n, .string x.s] 23))
  rw [show (w.alloc (.cells #[.int .i64 x.k, .int .i64 x.n, .string x.s] 23)).heap.size = w.heap.size + 1 by simp] at hz0
  rw [x.open_]
  clear HR hx
  go_enter Tryz.func82, Tryz.ntmps82
  go_upto_region 1 with fail
  obtain ⟨wa, hwa⟩ : ∃ wa, wa = (w.alloc (.cells #[.int .i64 x.k, .int .i64 x.n, .string x.s] 23)).alloc (.cells #[.int .i64 0, .int .i64 0, .string ⟨#[]⟩] 23) := ⟨_, rfl⟩
  rw [← hwa] at hB hb0 hz0 ⊢
  have HB := hide hB
  have HBX := hide hb0
  have HZ0 := hide hz0
  obtain ⟨c0, c1, c2⟩ := hb0
  obtain ⟨z0, z1, z2, z3, z4, z5⟩ := hz0
  clear hwa hB
  go_cut [] (fun wx => (wx.cell? ⟨w.heap.size + 1, 0, none⟩ = some (.int .i64 r.k) ∧ wx.cell? ⟨w.heap.size + 1, 1, none⟩ = some (.int .i64 r.n) ∧ wx.cell? ⟨w.heap.size + 1, 2, none⟩ = some (.string r.s)) ∧ Below w.heap.size w wx)
  case first =>
    go_region_with (first
      | (go_at_call 49; refine (unhide HN _).mono ?_; rintro e w1 ⟨rfl, hb1⟩; have hB1 := below_step ((Below.refl _ wa).drew) hb1; obtain ⟨c0, c1, c2⟩ := (unhide HBX).later hB1)
      | (go_at_call 83; refine (unhide HZ _).mono ?_; rintro e w2 ⟨rfl, hb2⟩; rw [Val.open_]; have hB2 := below_step hB1 hb2; obtain ⟨z0, z1, z2, z3, z4, z5⟩ := (unhide HZ0).later hB2))
    all_goals
      go_wp2
      go_meet
      refine ⟨⟨by simp [go_sem, *], by simp [go_sem, *], by simp [go_sem, *]⟩, ?_⟩
      exact put3 (below_step (unhide HB) hB2) (by omega) _ _ _
  case rest =>
    obtain ⟨⟨x0, x1, x2⟩, hbe⟩ := hcut
    have HBE := hide hbe
    clear hbe
    go_wp2
    exact bodyPost_ret (v := r.v) (by simp [results, Tryz.results82, go_sem, Val.v, *]) rfl ⟨rfl, unhide HBE⟩
set_option maxHeartbeats 400000 in
theorem isnull_any (x : Val) (w : World) : Calls Tryz.prog 85 #[x.v] w fun e w' => e = .returned (if x.k == 0 then Val.num 1 else Val.num 0).v ∧ Below w.heap.size w w' := by
  have hz0 := fun (W : World) hb => (zeroAt_new (w.alloc (.cells #[.int .i64 x.k, .int .i64 x.n, .string x.s] 23))).later (w1 := W) hb
  have HZ := hide hz0
  rw [show (w.alloc (.cells #[.int .i64 x.k, .int .i64 x.n, .string x.s] 23)).heap.size = w.heap.size + 1 by simp] at HZ
  rw [x.open_]
  clear hz0
  rcases Bool.eq_false_or_eq_true (x.k == 0) with h | h
  · go_enter Tryz.func85, Tryz.ntmps85
    go_wp2_with (go_at_call 49; refine (expnum_any _ _).mono ?_; rintro e w1 ⟨rfl, hb1⟩; obtain ⟨z0, z1, z2, z3, z4, z5⟩ := unhide HZ _ hb1)
    refine bodyPost_ret (v := (Val.num 1).v) (by simp [results, Tryz.results85, go_sem, Val.v, Val.num, *]) rfl ⟨by first | rfl | (rw [h]; rfl) | simp_all, ?_⟩
    exact put3 (below_one (below_one hb1)) (by omega) _ _ _
  · go_enter Tryz.func85, Tryz.ntmps85
    go_wp2_with (go_at_call 49; refine (expnum_any _ _).mono ?_; rintro e w1 ⟨rfl, hb1⟩; obtain ⟨z0, z1, z2, z3, z4, z5⟩ := unhide HZ _ hb1)
    refine bodyPost_ret (v := (Val.num 0).v) (by simp [results, Tryz.results85, go_sem, Val.v, Val.num, *]) rfl ⟨by first | rfl | (rw [h]; rfl) | simp_all, ?_⟩
    exact put3 (below_one (below_one hb1)) (by omega) _ _ _
set_option maxHeartbeats 400000 in
theorem length_any (x : Val) (w : World) (hx : x.s.size ≤ 140737488355328) : Calls Tryz.prog 86 #[x.v] w fun e w' => e = .returned (if x.k == 2 then Val.num x.s.size else Val.null).v ∧ Below w.heap.size w w' := by
  have HZ := hide (fun (W : World) hb => (zeroAt_new (w.alloc (.cells #[.int .i64 x.k, .int .i64 x.n, .string x.s] 23))).later (w1 := W) hb)
  rw [show (w.alloc (.cells #[.int .i64 x.k, .int .i64 x.n, .string x.s] 23)).heap.size = w.heap.size + 1 by simp] at HZ
  rw [x.open_]
  rcases Bool.eq_false_or_eq_true (x.k == 2) with h | h
  · have h2 : (x.k != 2) = false := by simp [bne, h]
    have hi : (x.s.size : Int) ≤ 140737488355328 := by omega
    go_enter Tryz.func86, Tryz.ntmps86
    go_wp2_with (go_at_call 49; refine (expnum_any _ _).mono ?_; rintro e w1 ⟨rfl, hb1⟩; obtain ⟨z0, z1, z2, z3, z4, z5⟩ := unhide HZ _ hb1)
    refine bodyPost_ret (v := (Val.num x.s.size).v) (by simp [results, Tryz.results86, go_sem, Val.v, Val.num, *]) rfl ⟨by first | rfl | (rw [h]; rfl) | simp_all, ?_⟩
    exact put3 (below_one (below_one hb1)) (by omega) _ _ _
  · have h2 : (x.k != 2) = true := by simp [bne, h]
    go_enter Tryz.func86, Tryz.ntmps86
    go_wp2
    refine bodyPost_ret (v := Val.null.v) (by simp [results, Tryz.results86, go_sem, Val.v, Val.null, *]) rfl ⟨by first | rfl | (rw [h]; rfl) | simp_all, ?_⟩
    exact below_alloc (below_alloc (Below.refl _ _) _) _
theorem both_any (op : Int) (a b : Val) (w : World) : Calls Tryz.prog 92 #[.int .i64 op, a.v, b.v] w fun e w' => e = .returned (bothV op a b).v ∧ Below w.heap.size w w' := by
  by_cases h1 : op = 19
  · subst h1; exact both_and a b w
  by_cases h2 : op = 20
  · subst h2; exact both_or a b w
  exact both_other op a b w (by simpa using h1) (by simpa using h2)
set_option maxHeartbeats 400000 in
theorem dbl65_any (op : Int) (B : Nat) (x y : Val) (w : World) (hB : Box1 w B (.int .i64 op)) (hx : VOk x) (hy : VOk y) : Calls Tryz.prog 87 #[x.v, y.v, .pointer (some ⟨B, 0, none⟩)] w fun e w' => e = .returned (reckV op x y).v ∧ Below w.heap.size w w' := by
  have HR : Hid (∀ W, Calls Tryz.prog 83 #[.int .i64 op, x.v, y.v] W fun e w' => e = .returned (reckV op x y).v ∧ Below W.heap.size W w') := fun W => reckon_any op x y hx.1 hy.1 W
  generalize reckV op x y = r at *
  rw [x.open_, y.open_] at HR ⊢
  have hBa := below_alloc (below_alloc (below_alloc (Below.refl _ w) (.cells #[.int .i64 x.k, .int .i64 x.n, .string x.s] 23)) (.cells #[.int .i64 y.k, .int .i64 y.n, .string y.s] 23)) (.cells #[.int .i64 0, .int .i64 0, .string ⟨#[]⟩] 23)
  have c0 := clater hB hBa
  have HZ := hide (fun (W : World) hb => (zeroAt_new ((w.alloc (.cells #[.int .i64 x.k, .int .i64 x.n, .string x.s] 23)).alloc (.cells #[.int .i64 y.k, .int .i64 y.n, .string y.s] 23))).later (w1 := W) hb)
  rw [show ((w.alloc (.cells #[.int .i64 x.k, .int .i64 x.n, .string x.s] 23)).alloc (.cells #[.int .i64 y.k, .int .i64 y.n, .string y.s] 23)).heap.size = w.heap.size + 1 + 1 by simp] at HZ
  clear hB hx hy hBa
  go_enter Tryz.func87, Tryz.ntmps87
  go_wp2_with (go_at_call 83; refine (unhide HR _).mono ?_; rintro e w1 ⟨rfl, hb1⟩; rw [Val.open_]; obtain ⟨z0, z1, z2, z3, z4, z5⟩ := unhide HZ _ hb1)
  refine bodyPost_ret (v := r.v) (by simp [results, Tryz.results87, go_sem, Val.v, *]) rfl ⟨rfl, ?_⟩
  exact put3 (below_one (below_one (below_one hb1))) (by omega) _ _ _
set_option maxHeartbeats 400000 in
theorem dbl66_any (op : Int) (B : Nat) (x y : Val) (w : World) (hB : Box1 w B (.int .i64 op)) (hx : VOk x) (hy : VOk y) : Calls Tryz.prog 88 #[x.v, y.v, .pointer (some ⟨B, 0, none⟩)] w fun e w' => e = .returned (testV op x y).v ∧ Below w.heap.size w w' := by
  have HR : Hid (∀ W, Calls Tryz.prog 89 #[.int .i64 op, x.v, y.v] W fun e w' => e = .returned (testV op x y).v ∧ Below W.heap.size W w') := fun W => test_any op x y W
  generalize testV op x y = r at *
  rw [x.open_, y.open_] at HR ⊢
  have hBa := below_alloc (below_alloc (below_alloc (Below.refl _ w) (.cells #[.int .i64 x.k, .int .i64 x.n, .string x.s] 23)) (.cells #[.int .i64 y.k, .int .i64 y.n, .string y.s] 23)) (.cells #[.int .i64 0, .int .i64 0, .string ⟨#[]⟩] 23)
  have c0 := clater hB hBa
  have HZ := hide (fun (W : World) hb => (zeroAt_new ((w.alloc (.cells #[.int .i64 x.k, .int .i64 x.n, .string x.s] 23)).alloc (.cells #[.int .i64 y.k, .int .i64 y.n, .string y.s] 23))).later (w1 := W) hb)
  rw [show ((w.alloc (.cells #[.int .i64 x.k, .int .i64 x.n, .string x.s] 23)).alloc (.cells #[.int .i64 y.k, .int .i64 y.n, .string y.s] 23)).heap.size = w.heap.size + 1 + 1 by simp] at HZ
  clear hB hx hy hBa
  go_enter Tryz.func88, Tryz.ntmps88
  go_wp2_with (go_at_call 89; refine (unhide HR _).mono ?_; rintro e w1 ⟨rfl, hb1⟩; rw [Val.open_]; obtain ⟨z0, z1, z2, z3, z4, z5⟩ := unhide HZ _ hb1)
  refine bodyPost_ret (v := r.v) (by simp [results, Tryz.results88, go_sem, Val.v, *]) rfl ⟨rfl, ?_⟩
  exact put3 (below_one (below_one (below_one hb1))) (by omega) _ _ _
set_option maxHeartbeats 400000 in
theorem dbl69_any (op : Int) (B : Nat) (x y : Val) (w : World) (hB : Box1 w B (.int .i64 op)) (hx : VOk x) (hy : VOk y) : Calls Tryz.prog 91 #[x.v, y.v, .pointer (some ⟨B, 0, none⟩)] w fun e w' => e = .returned (bothV op x y).v ∧ Below w.heap.size w w' := by
  have HR : Hid (∀ W, Calls Tryz.prog 92 #[.int .i64 op, x.v, y.v] W fun e w' => e = .returned (bothV op x y).v ∧ Below W.heap.size W w') := fun W => both_any op x y W
  generalize bothV op x y = r at *
  rw [x.open_, y.open_] at HR ⊢
  have hBa := below_alloc (below_alloc (below_alloc (Below.refl _ w) (.cells #[.int .i64 x.k, .int .i64 x.n, .string x.s] 23)) (.cells #[.int .i64 y.k, .int .i64 y.n, .string y.s] 23)) (.cells #[.int .i64 0, .int .i64 0, .string ⟨#[]⟩] 23)
  have c0 := clater hB hBa
  have HZ := hide (fun (W : World) hb => (zeroAt_new ((w.alloc (.cells #[.int .i64 x.k, .int .i64 x.n, .string x.s] 23)).alloc (.cells #[.int .i64 y.k, .int .i64 y.n, .string y.s] 23))).later (w1 := W) hb)
  rw [show ((w.alloc (.cells #[.int .i64 x.k, .int .i64 x.n, .string x.s] 23)).alloc (.cells #[.int .i64 y.k, .int .i64 y.n, .string y.s] 23)).heap.size = w.heap.size + 1 + 1 by simp] at HZ
  clear hB hx hy hBa
  go_enter Tryz.func91, Tryz.ntmps91
  go_wp2_with (go_at_call 92; refine (unhide HR _).mono ?_; rintro e w1 ⟨rfl, hb1⟩; rw [Val.open_]; obtain ⟨z0, z1, z2, z3, z4, z5⟩ := unhide HZ _ hb1)
  refine bodyPost_ret (v := r.v) (by simp [results, Tryz.results91, go_sem, Val.v, *]) rfl ⟨rfl, ?_⟩
  exact put3 (below_one (below_one (below_one hb1))) (by omega) _ _ _
theorem Fun1.of {W : World} {F : Value} {g g' : Val → Val} (h : Fun1 W F g) (e : g = g') : Fun1 W F g' := e ▸ h
theorem Fun2.of {W : World} {F : Value} {g g' : Val → Val → Val} (h : Fun2 W F g) (e : g = g') : Fun2 W F g' := e ▸ h
set_option maxHeartbeats 400000 in
theorem single_any (op : Int) (w : World) : Calls Tryz.prog 59 #[.int .i64 op] w fun e w' => (∃ F, e = .returned F ∧ Fun1 w F (oneV op)) ∧ w' = w := by
  by_cases h3 : op = 3
  · subst h3
    go_enter Tryz.func59, Tryz.ntmps59
    go_wp2
    go_ret
    exact ⟨⟨_, rfl, 82, #[], rfl, ent59, fun W' x _ hx => neg_any x W' hx⟩, rfl⟩
  by_cases h4 : op = 4
  · subst h4
    go_enter Tryz.func59, Tryz.ntmps59
    go_wp2
    go_ret
    exact ⟨⟨_, rfl, 84, #[], rfl, ent62, fun W' x _ hx => not_any x W'⟩, rfl⟩
  by_cases h5 : op = 5
  · subst h5
    go_enter Tryz.func59, Tryz.ntmps59
    go_wp2
    go_ret
    exact ⟨⟨_, rfl, 85, #[], rfl, ent63, fun W' x _ hx => isnull_any x W'⟩, rfl⟩
  have e3 : (op == 3) = false := by simpa using h3
  have e4 : (op == 4) = false := by simpa using h4
  have e5 : (op == 5) = false := by simpa using h5
  have eg : (fun x : Val => if x.k == 2 then Val.num x.s.size else Val.null) = oneV op := by
    funext x; unfold oneV; rw [e3, e4, e5]; rfl
  have HG := hide eg
  clear h3 h4 h5 eg
  go_enter Tryz.func59, Tryz.ntmps59
  go_wp2
  go_ret
  exact ⟨⟨_, rfl, Fun1.of ⟨86, #[], rfl, ent64, fun W' x _ hx => length_any x W' hx.2⟩ (unhide HG)⟩, rfl⟩
set_option maxHeartbeats 400000 in
theorem double_any (op : Int) (w : World) : Calls Tryz.prog 61 #[.int .i64 op] w fun e w' => ∃ F, e = .returned F ∧ Fun2 w' F (twoV op) ∧ Below w.heap.size w w' := by
  have hmf : ∀ (fn : Fn) (first cap : Array Value) (w : World), (Instr.makeFunc fn first cap).run Tryz.prog w = .ok (.func fn first cap) w := fun _ _ _ _ => rfl
  have HB := hide (below_alloc (Below.refl _ w) (.cells #[.int .i64 op] 3))
  have HX : Hid (Box1 (w.alloc (.cells #[.int .i64 op] 3)) w.heap.size (.int .i64 op)) := by show Box1 _ _ _; unfold Box1; simp [go_sem]
  by_cases h11 : op ≤ 11
  · have eg : reckV op = twoV op := by funext x y; unfold twoV; simp [h11]
    have HG := hide eg
    clear eg
    go_enter Tryz.func61, Tryz.ntmps61
    go_wp2
    go_ret
    exact ⟨_, rfl, Fun2.of ⟨87, _, rfl, ent65, fun W' x y hW hx hy => dbl65_any op w.heap.size x y W' ((unhide HX).later hW) hx hy⟩ (unhide HG), unhide HB⟩
  by_cases h17 : op ≤ 17
  · have eg : testV op = twoV op := by funext x y; unfold twoV; simp [h11, h17]
    have HG := hide eg
    clear eg
    go_enter Tryz.func61, Tryz.ntmps61
    go_wp2
    go_ret
    exact ⟨_, rfl, Fun2.of ⟨88, _, rfl, ent66, fun W' x y hW hx hy => dbl66_any op w.heap.size x y W' ((unhide HX).later hW) hx hy⟩ (unhide HG), unhide HB⟩
  by_cases h18 : op = 18
  · subst h18
    go_enter Tryz.func61, Tryz.ntmps61
    go_wp2
    go_ret
    exact ⟨_, rfl, ⟨90, _, rfl, ent68, fun W' x y hW hx hy => cat_any x y W' hx.2 hy.2⟩, unhide HB⟩
  have e18 : (op == 18) = false := by simpa using h18
  have eg : bothV op = twoV op := by funext x y; unfold twoV; simp [h11, h17, e18]
  have HG := hide eg
  clear eg h18
  go_enter Tryz.func61, Tryz.ntmps61
  go_wp2
  go_ret
  exact ⟨_, rfl, Fun2.of ⟨91, _, rfl, ent69, fun W' x y hW hx hy => dbl69_any op w.heap.size x y W' ((unhide HX).later hW) hx hy⟩ (unhide HG), unhide HB⟩
end Go.Proofs.YtmagpdblacgneaaGreat
set_option linter.unusedSimpArgs false
set_option linter.unusedVariables false
namespace Go.Proofs.YtmagpdblacgneaaGreat
open Go.RowKit Go.Sort

theorem vok_truth (b : Bool) : VOk (truthV b) := by
  cases b
  · exact vok_num ⟨by decide, by decide⟩
  · exact vok_num ⟨by decide, by decide⟩
theorem fits_in {n : Int} (h : fitsB n = true) : In64 n := by
  unfold fitsB at h
  simp only [Bool.and_eq_true, decide_eq_true_eq] at h
  exact h
theorem ite_so {c : Prop} [Decidable c] {a n : Int} (h : (if c then some a else none) = some n) : c ∧ a = n := by
  by_cases hc : c
  · rw [if_pos hc] at h; injection h with h; exact ⟨hc, h⟩
  · rw [if_neg hc] at h; cases h
theorem tmod_in {x y : Int} (hx : In64 x) : In64 (x.tmod y) := by
  have h1 : (x.tmod y).natAbs ≤ x.natAbs := by rw [Int.natAbs_tmod]; exact Nat.mod_le _ _
  obtain ⟨h2, h3⟩ := hx
  by_cases h0 : 0 ≤ x
  · have := Int.tmod_nonneg y h0
    exact ⟨by omega, by omega⟩
  · have e : x.tmod y = -((-x).tmod y) := by rw [Int.neg_tmod]; omega
    have := Int.tmod_nonneg y (a := -x) (by omega)
    exact ⟨by omega, by omega⟩
theorem reck_in {op x y n : Int} (hx : In64 x) (h : reck op x y = some n) : In64 n := by
  unfold reck at h
  split at h
  · obtain ⟨h1, rfl⟩ := ite_so h; exact fits_in h1
  split at h
  · obtain ⟨h1, rfl⟩ := ite_so h; exact fits_in h1
  split at h
  · obtain ⟨h1, rfl⟩ := ite_so h; exact fits_in h1
  split at h
  · split at h
    · cases h
    · obtain ⟨h1, rfl⟩ := ite_so h; exact fits_in h1
  split at h
  · split at h
    · cases h
    · injection h with h; rw [← h]; exact tmod_in hx
  · cases h
theorem vok_reck (op : Int) (x y : Val) (hx : VOk x) : VOk (reckV op x y) := by
  unfold reckV
  split
  · cases h : reck op x.n y.n with
    | none => exact vok_null
    | some n => exact vok_num (reck_in hx.1 h)
  · exact vok_null
theorem vok_test (op : Int) (x y : Val) : VOk (testV op x y) := by
  unfold testV
  split
  · exact vok_null
  · unfold testR
    split
    · exact vok_truth _
    · exact vok_null
theorem vok_both (op : Int) (x y : Val) : VOk (bothV op x y) := by
  unfold bothV
  repeat' split
  all_goals first | exact vok_truth _ | exact vok_null
theorem vok_cat (x y : Val) : VOk (catV x y) := by
  unfold catV
  split
  · rename_i h
    simp only [Bool.and_eq_true, decide_eq_true_eq] at h
    refine ⟨⟨by show -9223372036854775808 ≤ (0 : Int); decide, by show (0 : Int) ≤ 9223372036854775807; decide⟩, ?_⟩
    show (x.s ++ y.s).size ≤ _
    rw [ByteArray.size_append]; omega
  · exact vok_null
theorem vok_not (x : Val) : VOk (notV x) := by
  unfold notV
  split
  · exact vok_truth _
  · exact vok_null
theorem vok_one (op : Int) {x : Val} (hx : VOk x) : VOk (oneV op x) := by
  unfold oneV
  split
  · exact vok_reck _ _ _ (vok_num ⟨by decide, by decide⟩)
  · split
    · exact vok_not x
    · split
      · split
        · exact vok_num ⟨by decide, by decide⟩
        · exact vok_num ⟨by decide, by decide⟩
      · split
        · have := hx.2
          exact vok_num ⟨by omega, by omega⟩
        · exact vok_null
theorem vok_two (op : Int) {x y : Val} (hx : VOk x) (hy : VOk y) : VOk (twoV op x y) := by
  unfold twoV
  split
  · exact vok_reck _ _ _ hx
  · split
    · exact vok_test _ _ _
    · split
      · exact vok_cat _ _
      · exact vok_both _ _ _
theorem vok_node {op n : Int} {v : Val} {row : List Val} (hv : VOk v) (hr : ∀ x ∈ row, VOk x) : ∀ (l : List Val), (∀ x ∈ l, VOk x) → VOk (nodeV op n v row l)
  | [], _ => by
    show VOk (if op == 2 then cleanV v else if decide ((row.length : Int) ≤ n) then .null else cleanV (row.getD n.toNat .null))
    split
    · exact vok_clean hv
    · split
      · exact vok_null
      · rw [List.getD_eq_getElem?_getD]
        cases h : row[n.toNat]? with
        | none => exact vok_clean vok_null
        | some x => exact vok_clean (hr x (List.mem_of_getElem? h))
  | [x], h => vok_one op (h x (by simp))
  | [x, y], h => vok_two op (h x (by simp)) (h y (by simp))
  | x :: y :: z :: t, h => by
    show VOk (if trueB x then y else z)
    split
    · exact h y (by simp)
    · exact h z (by simp)
mutual
theorem eval_ok {row : List Val} (hr : ∀ x ∈ row, VOk x) : ∀ (e : Ex), e.fin → VOk (evalE row e)
  | .mk op n v l, hf => by
    rw [Ex.fin] at hf
    rw [evalE]
    exact vok_node ⟨hf.1.2.2.1, hf.1.2.1⟩ hr _ (evalL_ok hr l hf.2)
theorem evalL_ok {row : List Val} (hr : ∀ x ∈ row, VOk x) : ∀ (l : List Ex), Ex.fins l → ∀ x ∈ evalL row l, VOk x
  | [], _ => by rw [evalL]; intro x hx; cases hx
  | e :: l, hf => by
    rw [Ex.fins] at hf
    rw [evalL]
    intro x hx
    rcases List.mem_cons.1 hx with rfl | hx
    · exact eval_ok hr e hf.1
    · exact evalL_ok hr l hf.2 x hx
end
theorem evalE_eq (row : List Val) (e : Ex) : evalE row e = nodeV e.op e.n e.v row (evalL row e.args) := by
  cases e with
  | mk op n v l => rw [evalE]; rfl
theorem no_args {e : Ex} (h : goodE e) (h0 : e.args = []) : (e.op = 1 ∧ 0 ≤ e.n) ∨ e.op = 2 := by
  have hs := (good_open h).1
  have hl := sound_len hs
  rw [h0] at hl
  have ha : arI e.op = 0 := hl.symm
  have h12 : e.op = 1 ∨ e.op = 2 := by
    by_cases h1 : e.op = 1
    · exact .inl h1
    by_cases h2 : e.op = 2
    · exact .inr h2
    unfold arI at ha
    have e1 : (e.op == 1) = false := by simpa using h1
    have e2 : (e.op == 2) = false := by simpa using h2
    rw [e1, e2] at ha
    simp only [Bool.false_eq_true, if_false] at ha
    split at ha
    · cases ha
    · split at ha
      · cases ha
      · split at ha <;> cases ha
  rcases h12 with h1 | h1
  · refine .inl ⟨h1, ?_⟩
    unfold soundE at hs
    rw [h1] at hs
    simp only [Bool.and_eq_true] at hs
    simpa using hs.2
  · exact .inr h1
set_option maxHeartbeats 400000 in
theorem leaf_any (e : Ex) (hg : goodE e) (h0 : e.args = []) (a : Option Addr) (c : Nat) (w : World) : Calls Tryz.prog 58 #[e.val a c] w fun r w' => ∃ F, r = .returned F ∧ Work w' F e ∧ Below w.heap.size w w' := by
  have hmf : ∀ (fn : Fn) (first cap : Array Value) (w : World), (Instr.makeFunc fn first cap).run Tryz.prog w = .ok (.func fn first cap) w := fun _ _ _ _ => rfl
  have hB := below_alloc (Below.refl _ w) (.cells #[.int .i64 e.op, .int .i64 e.n, .int .i64 e.v.k, .int .i64 e.v.n, .string e.v.s, .slice a e.args.length c] 26)
  have HB := hide hB
  obtain ⟨c0, c1, c2, c3, c4, c5⟩ : Six (w.alloc (.cells #[.int .i64 e.op, .int .i64 e.n, .int .i64 e.v.k, .int .i64 e.v.n, .string e.v.s, .slice a e.args.length c] 26)) w.heap.size e a c := Six.new w e a c
  have HEV : Hid (∀ row, evalE row e = nodeV e.op e.n e.v row []) := fun row => by rw [evalE_eq, h0, evalL]
  have HC := hide (clean_any e.v)
  rw [Val.open_] at HC
  rw [Ex.val_open]
  rcases no_args hg h0 with ⟨h1, hn⟩ | h2
  · have e2 : (e.op == 2) = false := by rw [h1]; rfl
    have HW : Hid (∀ row, evalE row e = if decide ((row.length : Int) ≤ e.n) then Val.null else cleanV (row.getD e.n.toNat .null)) := fun row => by
      rw [unhide HEV row]; show (if e.op == 2 then _ else _) = _; rw [e2]; rfl
    have HX : Hid (Box1 ((w.alloc (.cells #[.int .i64 e.op, .int .i64 e.n, .int .i64 e.v.k, .int .i64 e.v.n, .string e.v.s, .slice a e.args.length c] 26)).alloc (.cells #[.int .i64 e.n] 3)) (w.heap.size + 1) (.int .i64 e.n)) := by show Box1 _ _ _; unfold Box1; simp [go_sem]
    clear h0 hg hB h1 HC
    go_enter Tryz.func58, Tryz.ntmps58
    go_wp2
    go_ret
    refine ⟨_, rfl, ⟨81, _, rfl, ent58, fun W' a' c' row hW hr hv hl => ?_⟩, below_alloc (unhide HB) _⟩
    rw [unhide HW row]
    exact leaf2_any e.n (w.heap.size + 1) a' c' row W' hn hl ((unhide HX).later hW) hr
  · have e2 : (e.op == 2) = true := by rw [h2]; rfl
    have HW : Hid (∀ row, evalE row e = cleanV e.v) := fun row => by
      rw [unhide HEV row]; show (if e.op == 2 then _ else _) = _; rw [e2]; rfl
    generalize cleanV e.v = cv at *
    clear h0 hg hB h2
    go_enter Tryz.func58, Tryz.ntmps58
    go_wp2_with (go_at_call 57; refine (unhide HC _).mono ?_; rintro r w1 ⟨rfl, hb1⟩; rw [Val.open_])
    go_ret
    have hbx : BoxAt (w1.alloc (.cells #[.int .i64 cv.k, .int .i64 cv.n, .string cv.s] 23)) w1.heap.size cv := by refine ⟨?_, ?_, ?_⟩ <;> simp [go_sem]
    refine ⟨_, rfl, ⟨80, _, rfl, ent57, fun W' a' c' row hW hr hv hl => ?_⟩, below_alloc (below_one hb1) _⟩
    rw [unhide HW row]
    exact leaf1_any cv w1.heap.size a' row.length c' W' (hbx.later hW)
end Go.Proofs.YtmagpdblacgneaaGreat

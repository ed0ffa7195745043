import Derived.Test.YtmagpdblacgneaaGreatFoD
set_option linter.unusedSimpArgs false
set_option linter.unusedVariables false
set_option maxRecDepth 100000
namespace Go.Proofs.YtmagpdblacgneaaGreat
open Go.RowKit Go.Sort

theorem found_two {p : Ex → Bool} {x y : Ex} {r : Int} (h : FoundE p [x, y] r) : r = if p x then 0 else if p y then 1 else -1 := by
  rcases h with ⟨k, z, rfl, hz, hp, hn⟩ | ⟨rfl, h⟩
  · match k, hz, hn with
    | 0, hz, _ =>
      simp at hz
      subst hz
      rw [hp]
      rfl
    | 1, hz, hn =>
      simp at hz
      subst hz
      have := hn 0 x (by omega) rfl
      rw [this, hp]
      rfl
    | k + 2, hz, _ => simp at hz
  · rw [h 0 x rfl, h 1 y rfl]
    rfl
/-- Where a part lies. -/
theorem child_at {lo : Nat} {w : World} {vb vo i c : Nat} {l : List Ex} {x : Ex} (hK : ExK lo w (some ⟨vb, vo, none⟩) c l) (hx : l[i]? = some x) : ∃ a' c', Cells6 w vb (vo + i * 6) (x, a', c') ∧ ExK lo w a' c' x.args := by
  obtain ⟨b', o', ee, h1⟩ := Ex.all_get hK.now hx
  injection ee with ee
  injection ee with e1 e2
  subst e1 e2
  obtain ⟨a', c', hcs, _⟩ := Ex.at_open h1
  exact ⟨a', c', hcs, exk_child hK hx hcs.2.2.2.2.2⟩
set_option maxHeartbeats 1000000 in
set_option maxRecDepth 100000 in
theorem simp_and (e : Ex) (hf : e.fin) (hc : e.args.any notConst = true) (h19 : e.op = 19) (x y : Ex) (hxy : e.args = [x, y]) (a : Option Addr) (c : Nat) (lo : Nat) (w : World) (hK : ExK lo w a c e.args) : Calls Tryz.prog 24 #[e.val a c] w (SimpOk e lo w) := by
  have hse : simpE e = if isZeroE x then x else if isZeroE y then y else e := by
    unfold simpE
    rw [hc, h19, hxy]
    simp
  obtain ⟨⟨hlen, _, _, _⟩, hfl⟩ := Ex.fin_open hf
  have ha := hK.now
  have HC := hide (fun (W : World) (hW : Below w.heap.size w W) => containsE_any (.func (.func 44) #[] #[]) notConst a c e.args W hlen hfl (Ex.all_later _ ha hW) (test_const W))
  have HI : Hid (∀ (W : World) (hW : Below w.heap.size w W), Calls Tryz.prog 46 #[.slice a e.args.length c, .func (.func 47) #[] #[]] W fun r w' => r = .returned (.int .i64 (if isZeroE x then 0 else if isZeroE y then 1 else -1)) ∧ Below W.heap.size W w') := fun W hW =>
    (indexE_any (.func (.func 47) #[] #[]) isZeroE a c e.args W hlen hfl (Ex.all_later _ ha hW) (test_zero W)).mono fun r w' ⟨q, h1, h2, h3⟩ => by
      rw [hxy] at h2
      rw [found_two h2] at h1
      exact ⟨h1, h3⟩
  obtain ⟨vb, vo, rfl, _⟩ := Ex.all_get ha (i := 0) (e := x) (by rw [hxy]; rfl)
  obtain ⟨ax, cx, hcx, hkx⟩ := child_at hK (i := 0) (x := x) (by rw [hxy]; rfl)
  have HCX : Hid (∀ W, Below w.heap.size w W → Cells6 W vb vo (x, ax, cx)) := fun W hW => by
    rw [Nat.zero_mul, Nat.add_zero] at hcx
    obtain ⟨d0, d1, d2, d3, d4, d5⟩ := hcx
    exact ⟨clater d0 hW, clater d1 hW, clater d2 hW, clater d3 hW, clater d4 hW, clater d5 hW⟩
  have HKX := hide hkx
  obtain ⟨ay, cy, hcy, hky⟩ := child_at hK (i := 1) (x := y) (by rw [hxy]; rfl)
  have HCY : Hid (∀ W, Below w.heap.size w W → Cells6 W vb (vo + 6) (y, ay, cy)) := fun W hW => by
    rw [Nat.one_mul] at hcy
    obtain ⟨d0, d1, d2, d3, d4, d5⟩ := hcy
    exact ⟨clater d0 hW, clater d1 hW, clater d2 hW, clater d3 hW, clater d4 hW, clater d5 hW⟩
  have HKY := hide hky
  have HV := hide hse
  have HK := hide hK
  have HB0 : Hid (Below w.heap.size w ((w.alloc (.cells #[.int .i64 e.op, .int .i64 e.n, .int .i64 e.v.k, .int .i64 e.v.n, .string e.v.s, .slice (some ⟨vb, vo, none⟩) e.args.length c] 26)).alloc (.cells #[.int .i64 0, .int .i64 0, .int .i64 0, .int .i64 0, .string ⟨#[]⟩, .slice none 0 0] 26))) := below_alloc (below_alloc (Below.refl _ w) _) _
  have H6 : Hid (Six ((w.alloc (.cells #[.int .i64 e.op, .int .i64 e.n, .int .i64 e.v.k, .int .i64 e.v.n, .string e.v.s, .slice (some ⟨vb, vo, none⟩) e.args.length c] 26)).alloc (.cells #[.int .i64 0, .int .i64 0, .int .i64 0, .int .i64 0, .string ⟨#[]⟩, .slice none 0 0] 26)) w.heap.size e (some ⟨vb, vo, none⟩) c) := (Six.new w e (some ⟨vb, vo, none⟩) c).later (below_alloc (Below.refl _ _) _)
  have HZ : Hid (Box6 ((w.alloc (.cells #[.int .i64 e.op, .int .i64 e.n, .int .i64 e.v.k, .int .i64 e.v.n, .string e.v.s, .slice (some ⟨vb, vo, none⟩) e.args.length c] 26)).alloc (.cells #[.int .i64 0, .int .i64 0, .int .i64 0, .int .i64 0, .string ⟨#[]⟩, .slice none 0 0] 26)) (w.heap.size + 1) zeroE none 0) := by
    have h := Box6.new (w.alloc (.cells #[.int .i64 e.op, .int .i64 e.n, .int .i64 e.v.k, .int .i64 e.v.n, .string e.v.s, .slice (some ⟨vb, vo, none⟩) e.args.length c] 26)) zeroE none 0
    rw [show (w.alloc (.cells #[.int .i64 e.op, .int .i64 e.n, .int .i64 e.v.k, .int .i64 e.v.n, .string e.v.s, .slice (some ⟨vb, vo, none⟩) e.args.length c] 26)).heap.size = w.heap.size + 1 by simp [go_sem]] at h
    exact h
  have hln : e.args.length = 2 := by rw [hxy]; rfl
  rw [hc] at HC
  rw [Ex.val_open]
  rw [h19, hln] at HB0 H6 HZ ⊢
  rw [hln] at HC HI
  have HLN := hide hln
  clear ha hc hse hK hxy hlen hln hcx hcy hkx hky
  cases hx : isZeroE x with
  | true =>
    rw [hx] at HI HV
    simp only [if_true] at HI HV
    clear hx
    go_enter Tryz.func24, Tryz.ntmps24
    go_wp2_with (first
      | (go_at_call 26; refine (unhide HC _ (unhide HB0)).mono ?_; rintro r w1 ⟨rfl, hb1⟩; have hB1 := below_step (unhide HB0) hb1; obtain ⟨b0, b1, b2, b3, b4, b5⟩ := (unhide H6).later hb1; rw [unhide HLN] at b5)
      | (go_at_call 46; refine (unhide HI _ hB1).mono ?_; rintro r w2 ⟨rfl, hb2⟩; have hB2 := below_step hB1 hb2; obtain ⟨b0, b1, b2, b3, b4, b5⟩ := (unhide H6).later (below_step hb1 hb2); rw [unhide HLN] at b5; obtain ⟨⟨z0, z1, z2, z3, z4, z5⟩, f0, f1, f2, f3, f4, f5⟩ := (unhide HZ).later (below_step hb1 hb2); obtain ⟨x0, x1, x2, x3, x4, x5⟩ := unhide HCX _ hB2; obtain ⟨y0, y1, y2, y3, y4, y5⟩ := unhide HCY _ hB2))
    have hE := put6 hB2 (B := w.heap.size + 1) (by omega) (.int .i64 x.op) (.int .i64 x.n) (.int .i64 x.v.k) (.int .i64 x.v.n) (.string x.v.s) (.slice ax x.args.length cx)
    refine bodyPost_ret (v := x.val ax cx) (by simp [results, Tryz.results24, go_sem, Ex.val, *]) rfl ⟨ax, cx, by rw [unhide HV], by rw [unhide HV]; exact (unhide HKX).on (Kept.of_below _ _ hE), hE⟩
  | false =>
    rw [hx] at HI HV
    simp only [Bool.false_eq_true, if_false] at HI HV
    clear hx
    cases hy : isZeroE y with
    | true =>
      rw [hy] at HI HV
      simp only [if_true] at HI HV
      clear hy
      go_enter Tryz.func24, Tryz.ntmps24
      go_wp2_with (first
        | (go_at_call 26; refine (unhide HC _ (unhide HB0)).mono ?_; rintro r w1 ⟨rfl, hb1⟩; have hB1 := below_step (unhide HB0) hb1; obtain ⟨b0, b1, b2, b3, b4, b5⟩ := (unhide H6).later hb1; rw [unhide HLN] at b5)
        | (go_at_call 46; refine (unhide HI _ hB1).mono ?_; rintro r w2 ⟨rfl, hb2⟩; have hB2 := below_step hB1 hb2; obtain ⟨b0, b1, b2, b3, b4, b5⟩ := (unhide H6).later (below_step hb1 hb2); rw [unhide HLN] at b5; obtain ⟨⟨z0, z1, z2, z3, z4, z5⟩, f0, f1, f2, f3, f4, f5⟩ := (unhide HZ).later (below_step hb1 hb2); obtain ⟨x0, x1, x2, x3, x4, x5⟩ := unhide HCX _ hB2; obtain ⟨y0, y1, y2, y3, y4, y5⟩ := unhide HCY _ hB2))
      have hE := put6 hB2 (B := w.heap.size + 1) (by omega) (.int .i64 y.op) (.int .i64 y.n) (.int .i64 y.v.k) (.int .i64 y.v.n) (.string y.v.s) (.slice ay y.args.length cy)
      refine bodyPost_ret (v := y.val ay cy) (by simp [results, Tryz.results24, go_sem, Ex.val, *]) rfl ⟨ay, cy, by rw [unhide HV], by rw [unhide HV]; exact (unhide HKY).on (Kept.of_below _ _ hE), hE⟩
    | false =>
      rw [hy] at HI HV
      simp only [Bool.false_eq_true, if_false] at HI HV
      clear hy
      go_enter Tryz.func24, Tryz.ntmps24
      go_wp2_with (first
        | (go_at_call 26; refine (unhide HC _ (unhide HB0)).mono ?_; rintro r w1 ⟨rfl, hb1⟩; have hB1 := below_step (unhide HB0) hb1; obtain ⟨b0, b1, b2, b3, b4, b5⟩ := (unhide H6).later hb1; rw [unhide HLN] at b5)
        | (go_at_call 46; refine (unhide HI _ hB1).mono ?_; rintro r w2 ⟨rfl, hb2⟩; have hB2 := below_step hB1 hb2; obtain ⟨b0, b1, b2, b3, b4, b5⟩ := (unhide H6).later (below_step hb1 hb2); rw [unhide HLN] at b5; obtain ⟨⟨z0, z1, z2, z3, z4, z5⟩, f0, f1, f2, f3, f4, f5⟩ := (unhide HZ).later (below_step hb1 hb2); obtain ⟨x0, x1, x2, x3, x4, x5⟩ := unhide HCX _ hB2; obtain ⟨y0, y1, y2, y3, y4, y5⟩ := unhide HCY _ hB2))
      have hE := put6 hB2 (B := w.heap.size + 1) (by omega) (.int .i64 19) (.int .i64 e.n) (.int .i64 e.v.k) (.int .i64 e.v.n) (.string e.v.s) (.slice (some ⟨vb, vo, none⟩) 2 c)
      refine bodyPost_ret (v := e.val (some ⟨vb, vo, none⟩) c) (by simp [results, Tryz.results24, go_sem, Ex.val, unhide HLN, *]) rfl ⟨(some ⟨vb, vo, none⟩), c, by rw [unhide HV], by rw [unhide HV]; exact (unhide HK).on (Kept.of_below _ _ hE), hE⟩
end Go.Proofs.YtmagpdblacgneaaGreat
set_option linter.unusedSimpArgs false
set_option linter.unusedVariables false
set_option maxRecDepth 100000
namespace Go.Proofs.YtmagpdblacgneaaGreat
open Go.RowKit Go.Sort

set_option maxHeartbeats 1000000 in
set_option maxRecDepth 100000 in
theorem simp_if (e : Ex) (hf : e.fin) (hc : e.args.any notConst = true) (h21 : e.op = 21) (x y z : Ex) (hxy : e.args = [x, y, z]) (a : Option Addr) (c : Nat) (lo : Nat) (w : World) (hK : ExK lo w a c e.args) : Calls Tryz.prog 24 #[e.val a c] w (SimpOk e lo w) := by
  have hse : simpE e = if x.op == 2 then (if isTrueE x then y else z) else e := by
    unfold simpE
    rw [hc, h21, hxy]
    simp
  obtain ⟨⟨hlen, _, _, _⟩, hfl⟩ := Ex.fin_open hf
  have ha := hK.now
  have HC := hide (fun (W : World) (hW : Below w.heap.size w W) => containsE_any (.func (.func 44) #[] #[]) notConst a c e.args W hlen hfl (Ex.all_later _ ha hW) (test_const W))
  obtain ⟨vb, vo, rfl, _⟩ := Ex.all_get ha (i := 0) (e := x) (by rw [hxy]; rfl)
  obtain ⟨ax, cx, hcx, hkx⟩ := child_at hK (i := 0) (x := x) (by rw [hxy]; rfl)
  have HCX : Hid (∀ W, Below w.heap.size w W → Cells6 W vb vo (x, ax, cx)) := fun W hW => by
    rw [Nat.zero_mul, Nat.add_zero] at hcx
    obtain ⟨d0, d1, d2, d3, d4, d5⟩ := hcx
    exact ⟨clater d0 hW, clater d1 hW, clater d2 hW, clater d3 hW, clater d4 hW, clater d5 hW⟩
  have HKX := hide hkx
  obtain ⟨ay, cy, hcy, hky⟩ := child_at hK (i := 1) (x := y) (by rw [hxy]; rfl)
  have HCY : Hid (∀ W, Below w.heap.size w W → Cells6 W vb (vo + 6) (y, ay, cy)) := fun W hW => by
    rw [Nat.one_mul] at hcy
    obtain ⟨d0, d1, d2, d3, d4, d5⟩ := hcy
    exact ⟨clater d0 hW, clater d1 hW, clater d2 hW, clater d3 hW, clater d4 hW, clater d5 hW⟩
  have HKY := hide hky
  obtain ⟨az, cz, hcz, hkz⟩ := child_at hK (i := 2) (x := z) (by rw [hxy]; rfl)
  have HCZ : Hid (∀ W, Below w.heap.size w W → Cells6 W vb (vo + 12) (z, az, cz)) := fun W hW => by
    rw [show 2 * 6 = 12 by omega] at hcz
    obtain ⟨d0, d1, d2, d3, d4, d5⟩ := hcz
    exact ⟨clater d0 hW, clater d1 hW, clater d2 hW, clater d3 hW, clater d4 hW, clater d5 hW⟩
  have HKZ := hide hkz
  have HT := hide (fun W => istrue_any x ax cx W)
  have HV := hide hse
  have HK := hide hK
  have HB0 : Hid (Below w.heap.size w ((w.alloc (.cells #[.int .i64 e.op, .int .i64 e.n, .int .i64 e.v.k, .int .i64 e.v.n, .string e.v.s, .slice (some ⟨vb, vo, none⟩) e.args.length c] 26)).alloc (.cells #[.int .i64 0, .int .i64 0, .int .i64 0, .int .i64 0, .string ⟨#[]⟩, .slice none 0 0] 26))) := below_alloc (below_alloc (Below.refl _ w) _) _
  have H6 : Hid (Six ((w.alloc (.cells #[.int .i64 e.op, .int .i64 e.n, .int .i64 e.v.k, .int .i64 e.v.n, .string e.v.s, .slice (some ⟨vb, vo, none⟩) e.args.length c] 26)).alloc (.cells #[.int .i64 0, .int .i64 0, .int .i64 0, .int .i64 0, .string ⟨#[]⟩, .slice none 0 0] 26)) w.heap.size e (some ⟨vb, vo, none⟩) c) := (Six.new w e (some ⟨vb, vo, none⟩) c).later (below_alloc (Below.refl _ _) _)
  have HZ : Hid (Box6 ((w.alloc (.cells #[.int .i64 e.op, .int .i64 e.n, .int .i64 e.v.k, .int .i64 e.v.n, .string e.v.s, .slice (some ⟨vb, vo, none⟩) e.args.length c] 26)).alloc (.cells #[.int .i64 0, .int .i64 0, .int .i64 0, .int .i64 0, .string ⟨#[]⟩, .slice none 0 0] 26)) (w.heap.size + 1) zeroE none 0) := by
    have h := Box6.new (w.alloc (.cells #[.int .i64 e.op, .int .i64 e.n, .int .i64 e.v.k, .int .i64 e.v.n, .string e.v.s, .slice (some ⟨vb, vo, none⟩) e.args.length c] 26)) zeroE none 0
    rw [show (w.alloc (.cells #[.int .i64 e.op, .int .i64 e.n, .int .i64 e.v.k, .int .i64 e.v.n, .string e.v.s, .slice (some ⟨vb, vo, none⟩) e.args.length c] 26)).heap.size = w.heap.size + 1 by simp [go_sem]] at h
    exact h
  have hln : e.args.length = 3 := by rw [hxy]; rfl
  rw [hc] at HC
  rw [Ex.val_open] at HT ⊢
  rw [h21, hln] at HB0 H6 HZ ⊢
  rw [hln] at HC
  have HLN := hide hln
  clear ha hc hse hK hxy hlen hln hcx hcy hcz hkx hky hkz
  by_cases h2 : x.op = 2
  · rw [h2] at HV HT
    have hT2 := unhide HT
    cases ht : isTrueE x with
    | true =>
      rw [ht] at HT HV
      simp only [beq_self_eq_true, if_true] at HV
      clear ht hT2
      go_enter Tryz.func24, Tryz.ntmps24
      go_wp2_with (first
        | (go_at_call 26; refine (unhide HC _ (unhide HB0)).mono ?_; rintro r w1 ⟨rfl, hb1⟩; have hB1 := below_step (unhide HB0) hb1; obtain ⟨b0, b1, b2, b3, b4, b5⟩ := (unhide H6).later hb1; rw [unhide HLN] at b5; obtain ⟨x0, x1, x2, x3, x4, x5⟩ := unhide HCX _ hB1)
        | (go_at_call 48; refine (unhide HT w1).mono ?_; rintro r w2 ⟨rfl, hb2⟩; have hB2 := below_step hB1 hb2; obtain ⟨b0, b1, b2, b3, b4, b5⟩ := (unhide H6).later (below_step hb1 hb2); rw [unhide HLN] at b5; obtain ⟨⟨z0, z1, z2, z3, z4, z5⟩, f0, f1, f2, f3, f4, f5⟩ := (unhide HZ).later (below_step hb1 hb2); obtain ⟨y0, y1, y2, y3, y4, y5⟩ := unhide HCY _ hB2; obtain ⟨q0, q1, q2, q3, q4, q5⟩ := unhide HCZ _ hB2))
      have hE := put6 hB2 (B := w.heap.size + 1) (by omega) (.int .i64 y.op) (.int .i64 y.n) (.int .i64 y.v.k) (.int .i64 y.v.n) (.string y.v.s) (.slice ay y.args.length cy)
      refine bodyPost_ret (v := y.val ay cy) (by simp [results, Tryz.results24, go_sem, Ex.val, *]) rfl ⟨ay, cy, by rw [unhide HV], by rw [unhide HV]; exact (unhide HKY).on (Kept.of_below _ _ hE), hE⟩
    | false =>
      rw [ht] at HT HV
      simp only [beq_self_eq_true, if_true, Bool.false_eq_true, if_false] at HV
      clear ht hT2
      go_enter Tryz.func24, Tryz.ntmps24
      go_wp2_with (first
        | (go_at_call 26; refine (unhide HC _ (unhide HB0)).mono ?_; rintro r w1 ⟨rfl, hb1⟩; have hB1 := below_step (unhide HB0) hb1; obtain ⟨b0, b1, b2, b3, b4, b5⟩ := (unhide H6).later hb1; rw [unhide HLN] at b5; obtain ⟨x0, x1, x2, x3, x4, x5⟩ := unhide HCX _ hB1)
        | (go_at_call 48; refine (unhide HT w1).mono ?_; rintro r w2 ⟨rfl, hb2⟩; have hB2 := below_step hB1 hb2; obtain ⟨b0, b1, b2, b3, b4, b5⟩ := (unhide H6).later (below_step hb1 hb2); rw [unhide HLN] at b5; obtain ⟨⟨z0, z1, z2, z3, z4, z5⟩, f0, f1, f2, f3, f4, f5⟩ := (unhide HZ).later (below_step hb1 hb2); obtain ⟨y0, y1, y2, y3, y4, y5⟩ := unhide HCY _ hB2; obtain ⟨q0, q1, q2, q3, q4, q5⟩ := unhide HCZ _ hB2))
      have hE := put6 hB2 (B := w.heap.size + 1) (by omega) (.int .i64 z.op) (.int .i64 z.n) (.int .i64 z.v.k) (.int .i64 z.v.n) (.string z.v.s) (.slice az z.args.length cz)
      refine bodyPost_ret (v := z.val az cz) (by simp [results, Tryz.results24, go_sem, Ex.val, *]) rfl ⟨az, cz, by rw [unhide HV], by rw [unhide HV]; exact (unhide HKZ).on (Kept.of_below _ _ hE), hE⟩
  · have e2 : (x.op == 2) = false := by simpa using h2
    rw [e2] at HV
    simp only [Bool.false_eq_true, if_false] at HV
    clear e2
    go_enter Tryz.func24, Tryz.ntmps24
    go_wp2_with (go_at_call 26; refine (unhide HC _ (unhide HB0)).mono ?_; rintro r w1 ⟨rfl, hb1⟩; have hB1 := below_step (unhide HB0) hb1; obtain ⟨b0, b1, b2, b3, b4, b5⟩ := (unhide H6).later hb1; rw [unhide HLN] at b5; obtain ⟨x0, x1, x2, x3, x4, x5⟩ := unhide HCX _ hB1; obtain ⟨⟨z0, z1, z2, z3, z4, z5⟩, f0, f1, f2, f3, f4, f5⟩ := (unhide HZ).later hb1)
    have hE := put6 hB1 (B := w.heap.size + 1) (by omega) (.int .i64 21) (.int .i64 e.n) (.int .i64 e.v.k) (.int .i64 e.v.n) (.string e.v.s) (.slice (some ⟨vb, vo, none⟩) 3 c)
    refine bodyPost_ret (v := e.val (some ⟨vb, vo, none⟩) c) (by simp [results, Tryz.results24, go_sem, Ex.val, unhide HLN, *]) rfl ⟨(some ⟨vb, vo, none⟩), c, by rw [unhide HV], by rw [unhide HV]; exact (unhide HK).on (Kept.of_below _ _ hE), hE⟩
/-- simpler (36). -/
theorem simpler_any (e : Ex) (hg : goodE e) (hf : e.fin) (a : Option Addr) (c : Nat) (lo : Nat) (w : World) (hK : ExK lo w a c e.args) : Calls Tryz.prog 24 #[e.val a c] w (SimpOk e lo w) := by
  by_cases hl : e.args = []
  · rcases no_args hg hl with ⟨h1, _⟩ | h2
    · exact simp_same e hf (.inr hl) (by omega) (by omega) (by omega) a c lo w hK
    · exact simp_same e hf (.inr hl) (by omega) (by omega) (by omega) a c lo w hK
  · have hl0 : 0 < e.args.length := by
      cases h : e.args with
      | nil => exact absurd h hl
      | cons x l => simp
    cases hc : e.args.any notConst with
    | false => exact simp_all e hg hf hl0 hc a c lo w hK.now
    | true =>
      by_cases h19 : e.op = 19
      · obtain ⟨x, y, hxy⟩ := two_args hg (by rw [h19]; decide)
        exact simp_and e hf hc h19 x y hxy a c lo w hK
      · by_cases h20 : e.op = 20
        · exact simp_or e hf hc h20 a c lo w hK
        · by_cases h21 : e.op = 21
          · have hl3 := sound_len (good_open hg).1
            rw [h21, show arI 21 = 3 by decide] at hl3
            match he : e.args, hl3 with
            | [x, y, z], _ => exact simp_if e hf hc h21 x y z he a c lo w hK
            | [], hl3 => simp at hl3
            | [_], hl3 => simp at hl3
            | [_, _], hl3 => simp at hl3
            | _ :: _ :: _ :: _ :: _, hl3 => simp at hl3; omega
          · exact simp_same e hf (.inl hc) h19 h20 h21 a c lo w hK
end Go.Proofs.YtmagpdblacgneaaGreat
set_option linter.unusedSimpArgs false
set_option linter.unusedVariables false
set_option maxRecDepth 100000
namespace Go.Proofs.YtmagpdblacgneaaGreat
open Go.RowKit Go.Sort

theorem ent36 : Enters 24 := fun args w => by kernel_rfl
set_option maxRecDepth 100000 in
theorem by_simp (W : World) : By W (.func (.func 24) #[] #[]) simpE (fun e => goodE e ∧ e.fin) :=
  ⟨24, #[], rfl, ent36, fun W' lo e a c _ _ hP hK => simpler_any e hP.1 hP.2 a c lo W' hK⟩
theorem made_fold (e : Ex) (hb : builtE e = true) (hf : e.fin) (a : Option Addr) (c : Nat) (w : World) (ha : Ex.all w a e.args) :
    Calls Tryz.prog 23 #[e.val a c, .func (.func 24) #[] #[]] w fun r w' => ∃ a2 c2, r = .returned ((foldE e).val a2 c2) ∧ ExK w.heap.size w' a2 c2 (foldE e).args ∧ Below w.heap.size w w' :=
  made_all (F := .func (.func 24) #[] #[]) (g := simpE) (P := fun e => goodE e ∧ e.fin) (Q := fun e => goodE e ∧ e.fin)
    (fun x hq => ⟨fold_node x hq.1, node_fin x hq.2 fun y hy => fold_fin y (goodL_mem (good_open hq.1).2 hy) (Ex.fins_mem (Ex.fin_open hq.2).2 hy)⟩)
    (fun x y i hq hy => ⟨good_arg hq.1 hy, Ex.fin_arg hq.2 hy⟩) e.size e (Nat.le_refl _) (meas_short soundE e 400 40 (by omega) hb) ⟨built_good hb, hf⟩ a c w ha (by_simp w)
set_option maxHeartbeats 400000 in
set_option maxRecDepth 100000 in
/-- Fold (14). -/
theorem fold_any (e : Ex) (hf : e.fin) (hok : (measE allE e 33554432 131072).2.2 = true) (a : Option Addr) (c : Nat) (w : World) (ha : Ex.all w a e.args) :
    Calls Tryz.prog 6 #[e.val a c] w fun r w' => ∃ a2 c2, r = .returned ((foldB e).val a2 c2) ∧ ExK w.heap.size w' a2 c2 (foldB e).args ∧ Below w.heap.size w w' := by
  have HB := hide (fun (W : World) (hW : Below w.heap.size w W) => built_any e hf a c W (Ex.all_later _ ha hW))
  have HC := hide (fun (W : World) (hW : Below w.heap.size w W) => copied_any e hf a c W (Ex.all_later _ ha hW))
  have HOK := hide hok
  clear hok
  have HM := hide (fun (hb : builtE e = true) (W : World) (hW : Below w.heap.size w W) => made_fold e hb hf a c W (Ex.all_later _ ha hW))
  have HB0 : Hid (Below w.heap.size w ((w.alloc (.cells #[.int .i64 e.op, .int .i64 e.n, .int .i64 e.v.k, .int .i64 e.v.n, .string e.v.s, .slice a e.args.length c] 26)).alloc (.cells #[.int .i64 0, .int .i64 0, .int .i64 0, .int .i64 0, .string ⟨#[]⟩, .slice none 0 0] 26))) := below_alloc (below_alloc (Below.refl _ w) _) _
  have H6 : Hid (Six ((w.alloc (.cells #[.int .i64 e.op, .int .i64 e.n, .int .i64 e.v.k, .int .i64 e.v.n, .string e.v.s, .slice a e.args.length c] 26)).alloc (.cells #[.int .i64 0, .int .i64 0, .int .i64 0, .int .i64 0, .string ⟨#[]⟩, .slice none 0 0] 26)) w.heap.size e a c) := (Six.new w e a c).later (below_alloc (Below.refl _ _) _)
  have HZ : Hid (Box6 ((w.alloc (.cells #[.int .i64 e.op, .int .i64 e.n, .int .i64 e.v.k, .int .i64 e.v.n, .string e.v.s, .slice a e.args.length c] 26)).alloc (.cells #[.int .i64 0, .int .i64 0, .int .i64 0, .int .i64 0, .string ⟨#[]⟩, .slice none 0 0] 26)) (w.heap.size + 1) zeroE none 0) := by
    have h := Box6.new (w.alloc (.cells #[.int .i64 e.op, .int .i64 e.n, .int .i64 e.v.k, .int .i64 e.v.n, .string e.v.s, .slice a e.args.length c] 26)) zeroE none 0
    rw [show (w.alloc (.cells #[.int .i64 e.op, .int .i64 e.n, .int .i64 e.v.k, .int .i64 e.v.n, .string e.v.s, .slice a e.args.length c] 26)).heap.size = w.heap.size + 1 by simp [go_sem]] at h
    exact h
  have HS : Hid (((w.alloc (.cells #[.int .i64 e.op, .int .i64 e.n, .int .i64 e.v.k, .int .i64 e.v.n, .string e.v.s, .slice a e.args.length c] 26)).alloc (.cells #[.int .i64 0, .int .i64 0, .int .i64 0, .int .i64 0, .string ⟨#[]⟩, .slice none 0 0] 26)).heap.size = w.heap.size + 2) := by
    show _ = _
    simp [go_sem]
  rw [Ex.val_open] at HB HC HM ⊢
  clear ha
  cases hb : builtE e with
  | true =>
    have HM2 := hide (unhide HM hb)
    have HV : Hid (foldB e = foldE e) := by show _ = _; unfold foldB; rw [if_pos hb]
    rw [hb] at HB
    clear HM hb HC
    go_enter Tryz.func6, Tryz.ntmps6
    go_wp2_with (first
      | (go_at_call 21; refine (unhide HB _ (unhide HB0)).mono ?_; rintro r w1 ⟨rfl, hb1⟩; have hB1 := below_step (unhide HB0) hb1; obtain ⟨b0, b1, b2, b3, b4, b5⟩ := (unhide H6).later hb1)
      | (go_at_call 23; refine (unhide HM2 _ hB1).mono ?_; rintro r w2 ⟨a2, c2, rfl, hK2, hb2⟩; have HK2 := hide hK2; clear hK2; have hs1 := (unhide HS); have hs2 := hb1.size; obtain ⟨⟨z0, z1, z2, z3, z4, z5⟩, f0, f1, f2, f3, f4, f5⟩ := (unhide HZ).later (below_step hb1 hb2); rw [Ex.val_open]))
    have hE := put6 (below_step hB1 hb2) (B := w.heap.size + 1) (by omega) (.int .i64 (foldE e).op) (.int .i64 (foldE e).n) (.int .i64 (foldE e).v.k) (.int .i64 (foldE e).v.n) (.string (foldE e).v.s) (.slice a2 (foldE e).args.length c2)
    refine bodyPost_ret (v := (foldE e).val a2 c2) (by simp [results, Tryz.results6, go_sem, Ex.val, *]) rfl ⟨a2, c2, by rw [unhide HV], ?_, hE⟩
    rw [unhide HV]
    refine ((unhide HK2).on ((((((Kept.of_low _ _ _ _ ?_).trans (Kept.of_low _ _ _ _ ?_)).trans (Kept.of_low _ _ _ _ ?_)).trans (Kept.of_low _ _ _ _ ?_)).trans (Kept.of_low _ _ _ _ ?_)).trans (Kept.of_low _ _ _ _ ?_))).more (by omega) <;> omega
  | false =>
    have HV : Hid (foldB e = copyT e) := by show _ = _; unfold foldB; rw [hb]; rfl
    rw [hb] at HB
    clear HM hb
    have HMT := HOK
    go_enter Tryz.func6, Tryz.ntmps6
    go_wp2_with (first
      | (go_at_call 21; refine (unhide HB _ (unhide HB0)).mono ?_; rintro r w1 ⟨rfl, hb1⟩; have hB1 := below_step (unhide HB0) hb1; obtain ⟨b0, b1, b2, b3, b4, b5⟩ := (unhide H6).later hb1)
      | (go_at_call 22; refine (unhide HC _ hB1).mono ?_; rintro r w2 ⟨a2, c2, rfl, hK2, _, hb2⟩; have HK2 := hide (hK2 (unhide HMT)); clear hK2; have hs1 := (unhide HS); have hs2 := hb1.size; obtain ⟨⟨z0, z1, z2, z3, z4, z5⟩, f0, f1, f2, f3, f4, f5⟩ := (unhide HZ).later (below_step hb1 hb2); rw [Ex.val_open]))
    have hE := put6 (below_step hB1 hb2) (B := w.heap.size + 1) (by omega) (.int .i64 (copyT e).op) (.int .i64 (copyT e).n) (.int .i64 (copyT e).v.k) (.int .i64 (copyT e).v.n) (.string (copyT e).v.s) (.slice a2 (copyT e).args.length c2)
    refine bodyPost_ret (v := (copyT e).val a2 c2) (by simp [results, Tryz.results6, go_sem, Ex.val, *]) rfl ⟨a2, c2, by rw [unhide HV], ?_, hE⟩
    rw [unhide HV]
    refine ((unhide HK2).on ((((((Kept.of_low _ _ _ _ ?_).trans (Kept.of_low _ _ _ _ ?_)).trans (Kept.of_low _ _ _ _ ?_)).trans (Kept.of_low _ _ _ _ ?_)).trans (Kept.of_low _ _ _ _ ?_)).trans (Kept.of_low _ _ _ _ ?_))).more (by omega) <;> omega
end Go.Proofs.YtmagpdblacgneaaGreat

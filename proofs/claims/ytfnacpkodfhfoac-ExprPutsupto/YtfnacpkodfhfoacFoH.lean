import Derived.Test.YtfnacpkodfhfoacFoE
set_option linter.unusedSimpArgs false
set_option linter.unusedVariables false
namespace Go.Proofs.Ytfnacpkodfhfoac
open Go.RowKit Go.Sort

theorem found_two {p : Ex → Bool} {x y : Ex} {r : Int} (h : FoundE p [x, y] r) : r = if p x then 0 else if p y then 1 else -1 := by
  rcases h with ⟨k, z, rfl, hz, hp, hn⟩ | ⟨rfl, h⟩
  · match k, hz, hn with
    | 0, hz, _ =>
      simp at hz
      subst hz
      rw [hp]
      rfl
    | 1, hz, hn =>
      simp at hz
      subst hz
      have := hn 0 x (by omega) rfl
      rw [this, hp]
      rfl
    | k + 2, hz, _ => simp at hz
  · rw [h 0 x rfl, h 1 y rfl]
    rfl
/-- Where a part lies. -/
theorem child_at {lo : Nat} {w : World} {vb vo i : Nat} {l : List Ex} {x : Ex} (hK : ExK lo w (some ⟨vb, vo, none⟩) l) (hx : l[i]? = some x) : ∃ a' c', Cells6 w vb (vo + i * 6) (x, a', c') ∧ ExK lo w a' x.args := by
  obtain ⟨b', o', ee, h1⟩ := Ex.all_get hK.now hx
  injection ee with ee
  injection ee with e1 e2
  subst e1 e2
  obtain ⟨a', c', hcs, _⟩ := Ex.at_open h1
  exact ⟨a', c', hcs, exk_child hK hx hcs.2.2.2.2.2⟩
set_option maxHeartbeats 1000000 in
set_option maxRecDepth 100000 in
theorem simp_and (e : Ex) (hf : e.fin) (hc : e.args.any notConst = true) (h19 : e.op = 19) (x y : Ex) (hxy : e.args = [x, y]) (a : Option Addr) (c : Nat) (lo : Nat) (w : World) (hK : ExK lo w a e.args) : Calls Try.prog 36 #[e.val a c] w (SimpOk e lo w) := by
  have hse : simpE e = if isZeroE x then x else if isZeroE y then y else e := by
    unfold simpE
    rw [hc, h19, hxy]
    simp
  obtain ⟨⟨hlen, _, _, _⟩, hfl⟩ := Ex.fin_open hf
  have ha := hK.now
  have HC := hide (fun (W : World) (hW : Below w.heap.size w W) => containsE_any (.func (.func 51) #[] #[]) notConst a c e.args W hlen hfl (Ex.all_later _ ha hW) (test_const W))
  have HI : Hid (∀ (W : World) (hW : Below w.heap.size w W), Calls Try.prog 44 #[.slice a e.args.length c, .func (.func 53) #[] #[]] W fun r w' => r = .returned (.int .i64 (if isZeroE x then 0 else if isZeroE y then 1 else -1)) ∧ Below W.heap.size W w') := fun W hW =>
    (indexE_any (.func (.func 53) #[] #[]) isZeroE a c e.args W hlen hfl (Ex.all_later _ ha hW) (test_zero W)).mono fun r w' ⟨q, h1, h2, h3⟩ => by
      rw [hxy] at h2
      rw [found_two h2] at h1
      exact ⟨h1, h3⟩
  obtain ⟨vb, vo, rfl, _⟩ := Ex.all_get ha (i := 0) (e := x) (by rw [hxy]; rfl)
  obtain ⟨ax, cx, hcx, hkx⟩ := child_at hK (i := 0) (x := x) (by rw [hxy]; rfl)
  have HCX : Hid (∀ W, Below w.heap.size w W → Cells6 W vb vo (x, ax, cx)) := fun W hW => by
    rw [Nat.zero_mul, Nat.add_zero] at hcx
    obtain ⟨d0, d1, d2, d3, d4, d5⟩ := hcx
    exact ⟨clater d0 hW, clater d1 hW, clater d2 hW, clater d3 hW, clater d4 hW, clater d5 hW⟩
  have HKX := hide hkx
  obtain ⟨ay, cy, hcy, hky⟩ := child_at hK (i := 1) (x := y) (by rw [hxy]; rfl)
  have HCY : Hid (∀ W, Below w.heap.size w W → Cells6 W vb (vo + 6) (y, ay, cy)) := fun W hW => by
    rw [Nat.one_mul] at hcy
    obtain ⟨d0, d1, d2, d3, d4, d5⟩ := hcy
    exact ⟨clater d0 hW, clater d1 hW, clater d2 hW, clater d3 hW, clater d4 hW, clater d5 hW⟩
  have HKY := hide hky
  have HV := hide hse
  have HK := hide hK
  have HB0 : Hid (Below w.heap.size w ((w.alloc (.cells #[.int .i64 e.op, .int .i64 e.n, .int .i64 e.v.k, .int .i64 e.v.n, .string e.v.s, .slice (some ⟨vb, vo, none⟩) e.args.length c] 26)).alloc (.cells #[.int .i64 0, .int .i64 0, .int .i64 0, .int .i64 0, .string ⟨#[]⟩, .slice none 0 0] 26))) := below_alloc (below_alloc (Below.refl _ w) _) _
  have H6 : Hid (Six ((w.alloc (.cells #[.int .i64 e.op, .int .i64 e.n, .int .i64 e.v.k, .int .i64 e.v.n, .string e.v.s, .slice (some ⟨vb, vo, none⟩) e.args.length c] 26)).alloc (.cells #[.int .i64 0, .int .i64 0, .int .i64 0, .int .i64 0, .string ⟨#[]⟩, .slice none 0 0] 26)) w.heap.size e (some ⟨vb, vo, none⟩) c) := (Six.new w e (some ⟨vb, vo, none⟩) c).later (below_alloc (Below.refl _ _) _)
  have HZ : Hid (Box6 ((w.alloc (.cells #[.int .i64 e.op, .int .i64 e.n, .int .i64 e.v.k, .int .i64 e.v.n, .string e.v.s, .slice (some ⟨vb, vo, none⟩) e.args.length c] 26)).alloc (.cells #[.int .i64 0, .int .i64 0, .int .i64 0, .int .i64 0, .string ⟨#[]⟩, .slice none 0 0] 26)) (w.heap.size + 1) zeroE none 0) := by
    have h := Box6.new (w.alloc (.cells #[.int .i64 e.op, .int .i64 e.n, .int .i64 e.v.k, .int .i64 e.v.n, .string e.v.s, .slice (some ⟨vb, vo, none⟩) e.args.length c] 26)) zeroE none 0
    rw [show (w.alloc (.cells #[.int .i64 e.op, .int .i64 e.n, .int .i64 e.v.k, .int .i64 e.v.n, .string e.v.s, .slice (some ⟨vb, vo, none⟩) e.args.length c] 26)).heap.size = w.heap.size + 1 by simp [go_sem]] at h
    exact h
  have hln : e.args.length = 2 := by rw [hxy]; rfl
  rw [hc] at HC
  rw [Ex.val_open]
  rw [h19, hln] at HB0 H6 HZ ⊢
  rw [hln] at HC HI
  have HLN := hide hln
  clear ha hc hse hK hxy hlen hln hcx hcy hkx hky
  cases hx : isZeroE x with
  | true =>
    rw [hx] at HI HV
    simp only [if_true] at HI HV
    clear hx
    go_enter Try.func36, Try.ntmps36
    go_wp2_with (first
      | (go_at_call 25; refine (unhide HC _ (unhide HB0)).mono ?_; rintro r w1 ⟨rfl, hb1⟩; have hB1 := below_step (unhide HB0) hb1; obtain ⟨b0, b1, b2, b3, b4, b5⟩ := (unhide H6).later hb1; rw [unhide HLN] at b5)
      | (go_at_call 44; refine (unhide HI _ hB1).mono ?_; rintro r w2 ⟨rfl, hb2⟩; have hB2 := below_step hB1 hb2; obtain ⟨b0, b1, b2, b3, b4, b5⟩ := (unhide H6).later (below_step hb1 hb2); rw [unhide HLN] at b5; obtain ⟨⟨z0, z1, z2, z3, z4, z5⟩, f0, f1, f2, f3, f4, f5⟩ := (unhide HZ).later (below_step hb1 hb2); obtain ⟨x0, x1, x2, x3, x4, x5⟩ := unhide HCX _ hB2; obtain ⟨y0, y1, y2, y3, y4, y5⟩ := unhide HCY _ hB2))
    have hE := put6 hB2 (B := w.heap.size + 1) (by omega) (.int .i64 x.op) (.int .i64 x.n) (.int .i64 x.v.k) (.int .i64 x.v.n) (.string x.v.s) (.slice ax x.args.length cx)
    refine bodyPost_ret (v := x.val ax cx) (by simp [results, Try.results36, go_sem, Ex.val, *]) rfl ⟨ax, cx, by rw [unhide HV], by rw [unhide HV]; exact (unhide HKX).on (Kept.of_below _ _ hE), hE⟩
  | false =>
    rw [hx] at HI HV
    simp only [Bool.false_eq_true, if_false] at HI HV
    clear hx
    cases hy : isZeroE y with
    | true =>
      rw [hy] at HI HV
      simp only [if_true] at HI HV
      clear hy
      go_enter Try.func36, Try.ntmps36
      go_wp2_with (first
        | (go_at_call 25; refine (unhide HC _ (unhide HB0)).mono ?_; rintro r w1 ⟨rfl, hb1⟩; have hB1 := below_step (unhide HB0) hb1; obtain ⟨b0, b1, b2, b3, b4, b5⟩ := (unhide H6).later hb1; rw [unhide HLN] at b5)
        | (go_at_call 44; refine (unhide HI _ hB1).mono ?_; rintro r w2 ⟨rfl, hb2⟩; have hB2 := below_step hB1 hb2; obtain ⟨b0, b1, b2, b3, b4, b5⟩ := (unhide H6).later (below_step hb1 hb2); rw [unhide HLN] at b5; obtain ⟨⟨z0, z1, z2, z3, z4, z5⟩, f0, f1, f2, f3, f4, f5⟩ := (unhide HZ).later (below_step hb1 hb2); obtain ⟨x0, x1, x2, x3, x4, x5⟩ := unhide HCX _ hB2; obtain ⟨y0, y1, y2, y3, y4, y5⟩ := unhide HCY _ hB2))
      have hE := put6 hB2 (B := w.heap.size + 1) (by omega) (.int .i64 y.op) (.int .i64 y.n) (.int .i64 y.v.k) (.int .i64 y.v.n) (.string y.v.s) (.slice ay y.args.length cy)
      refine bodyPost_ret (v := y.val ay cy) (by simp [results, Try.results36, go_sem, Ex.val, *]) rfl ⟨ay, cy, by rw [unhide HV], by rw [unhide HV]; exact (unhide HKY).on (Kept.of_below _ _ hE), hE⟩
    | false =>
      rw [hy] at HI HV
      simp only [Bool.false_eq_true, if_false] at HI HV
      clear hy
      go_enter Try.func36, Try.ntmps36
      go_wp2_with (first
        | (go_at_call 25; refine (unhide HC _ (unhide HB0)).mono ?_; rintro r w1 ⟨rfl, hb1⟩; have hB1 := below_step (unhide HB0) hb1; obtain ⟨b0, b1, b2, b3, b4, b5⟩ := (unhide H6).later hb1; rw [unhide HLN] at b5)
        | (go_at_call 44; refine (unhide HI _ hB1).mono ?_; rintro r w2 ⟨rfl, hb2⟩; have hB2 := below_step hB1 hb2; obtain ⟨b0, b1, b2, b3, b4, b5⟩ := (unhide H6).later (below_step hb1 hb2); rw [unhide HLN] at b5; obtain ⟨⟨z0, z1, z2, z3, z4, z5⟩, f0, f1, f2, f3, f4, f5⟩ := (unhide HZ).later (below_step hb1 hb2); obtain ⟨x0, x1, x2, x3, x4, x5⟩ := unhide HCX _ hB2; obtain ⟨y0, y1, y2, y3, y4, y5⟩ := unhide HCY _ hB2))
      have hE := put6 hB2 (B := w.heap.size + 1) (by omega) (.int .i64 19) (.int .i64 e.n) (.int .i64 e.v.k) (.int .i64 e.v.n) (.string e.v.s) (.slice (some ⟨vb, vo, none⟩) 2 c)
      refine bodyPost_ret (v := e.val (some ⟨vb, vo, none⟩) c) (by simp [results, Try.results36, go_sem, Ex.val, unhide HLN, *]) rfl ⟨(some ⟨vb, vo, none⟩), c, by rw [unhide HV], by rw [unhide HV]; exact (unhide HK).on (Kept.of_below _ _ hE), hE⟩
end Go.Proofs.Ytfnacpkodfhfoac

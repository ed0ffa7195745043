import Derived.Test.YtfnacpkodfhfoacFoH
set_option linter.unusedSimpArgs false
set_option linter.unusedVariables false
namespace Go.Proofs.Ytfnacpkodfhfoac
open Go.RowKit Go.Sort

set_option maxHeartbeats 1000000 in
set_option maxRecDepth 100000 in
theorem simp_if (e : Ex) (hf : e.fin) (hc : e.args.any notConst = true) (h21 : e.op = 21) (x y z : Ex) (hxy : e.args = [x, y, z]) (a : Option Addr) (c : Nat) (lo : Nat) (w : World) (hK : ExK lo w a e.args) : Calls Try.prog 36 #[e.val a c] w (SimpOk e lo w) := by
  have hse : simpE e = if x.op == 2 then (if isTrueE x then y else z) else e := by
    unfold simpE
    rw [hc, h21, hxy]
    simp
  obtain ⟨⟨hlen, _, _, _⟩, hfl⟩ := Ex.fin_open hf
  have ha := hK.now
  have HC := hide (fun (W : World) (hW : Below w.heap.size w W) => containsE_any (.func (.func 51) #[] #[]) notConst a c e.args W hlen hfl (Ex.all_later _ ha hW) (test_const W))
  obtain ⟨vb, vo, rfl, _⟩ := Ex.all_get ha (i := 0) (e := x) (by rw [hxy]; rfl)
  obtain ⟨ax, cx, hcx, hkx⟩ := child_at hK (i := 0) (x := x) (by rw [hxy]; rfl)
  have HCX : Hid (∀ W, Below w.heap.size w W → Cells6 W vb vo (x, ax, cx)) := fun W hW => by
    rw [Nat.zero_mul, Nat.add_zero] at hcx
    obtain ⟨d0, d1, d2, d3, d4, d5⟩ := hcx
    exact ⟨clater d0 hW, clater d1 hW, clater d2 hW, clater d3 hW, clater d4 hW, clater d5 hW⟩
  have HKX := hide hkx
  obtain ⟨ay, cy, hcy, hky⟩ := child_at hK (i := 1) (x := y) (by rw [hxy]; rfl)
  have HCY : Hid (∀ W, Below w.heap.size w W → Cells6 W vb (vo + 6) (y, ay, cy)) := fun W hW => by
    rw [Nat.one_mul] at hcy
    obtain ⟨d0, d1, d2, d3, d4, d5⟩ := hcy
    exact ⟨clater d0 hW, clater d1 hW, clater d2 hW, clater d3 hW, clater d4 hW, clater d5 hW⟩
  have HKY := hide hky
  obtain ⟨az, cz, hcz, hkz⟩ := child_at hK (i := 2) (x := z) (by rw [hxy]; rfl)
  have HCZ : Hid (∀ W, Below w.heap.size w W → Cells6 W vb (vo + 12) (z, az, cz)) := fun W hW => by
    rw [show 2 * 6 = 12 by omega] at hcz
    obtain ⟨d0, d1, d2, d3, d4, d5⟩ := hcz
    exact ⟨clater d0 hW, clater d1 hW, clater d2 hW, clater d3 hW, clater d4 hW, clater d5 hW⟩
  have HKZ := hide hkz
  have HT := hide (fun W => istrue_any x ax cx W)
  have HV := hide hse
  have HK := hide hK
  have HB0 : Hid (Below w.heap.size w ((w.alloc (.cells #[.int .i64 e.op, .int .i64 e.n, .int .i64 e.v.k, .int .i64 e.v.n, .string e.v.s, .slice (some ⟨vb, vo, none⟩) e.args.length c] 26)).alloc (.cells #[.int .i64 0, .int .i64 0, .int .i64 0, .int .i64 0, .string ⟨#[]⟩, .slice none 0 0] 26))) := below_alloc (below_alloc (Below.refl _ w) _) _
  have H6 : Hid (Six ((w.alloc (.cells #[.int .i64 e.op, .int .i64 e.n, .int .i64 e.v.k, .int .i64 e.v.n, .string e.v.s, .slice (some ⟨vb, vo, none⟩) e.args.length c] 26)).alloc (.cells #[.int .i64 0, .int .i64 0, .int .i64 0, .int .i64 0, .string ⟨#[]⟩, .slice none 0 0] 26)) w.heap.size e (some ⟨vb, vo, none⟩) c) := (Six.new w e (some ⟨vb, vo, none⟩) c).later (below_alloc (Below.refl _ _) _)
  have HZ : Hid (Box6 ((w.alloc (.cells #[.int .i64 e.op, .int .i64 e.n, .int .i64 e.v.k, .int .i64 e.v.n, .string e.v.s, .slice (some ⟨vb, vo, none⟩) e.args.length c] 26)).alloc (.cells #[.int .i64 0, .int .i64 0, .int .i64 0, .int .i64 0, .string ⟨#[]⟩, .slice none 0 0] 26)) (w.heap.size + 1) zeroE none 0) := by
    have h := Box6.new (w.alloc (.cells #[.int .i64 e.op, .int .i64 e.n, .int .i64 e.v.k, .int .i64 e.v.n, .string e.v.s, .slice (some ⟨vb, vo, none⟩) e.args.length c] 26)) zeroE none 0
    rw [show (w.alloc (.cells #[.int .i64 e.op, .int .i64 e.n, .int .i64 e.v.k, .int .i64 e.v.n, .string e.v.s, .slice (some ⟨vb, vo, none⟩) e.args.length c] 26)).heap.size = w.heap.size + 1 by simp [go_sem]] at h
    exact h
  have hln : e.args.length = 3 := by rw [hxy]; rfl
  rw [hc] at HC
  rw [Ex.val_open] at HT ⊢
  rw [h21, hln] at HB0 H6 HZ ⊢
  rw [hln] at HC
  have HLN := hide hln
  clear ha hc hse hK hxy hlen hln hcx hcy hcz hkx hky hkz
  by_cases h2 : x.op = 2
  · rw [h2] at HV HT
    have hT2 := unhide HT
    cases ht : isTrueE x with
    | true =>
      rw [ht] at HT HV
      simp only [beq_self_eq_true, if_true] at HV
      clear ht hT2
      go_enter Try.func36, Try.ntmps36
      go_wp2_with (first
        | (go_at_call 25; refine (unhide HC _ (unhide HB0)).mono ?_; rintro r w1 ⟨rfl, hb1⟩; have hB1 := below_step (unhide HB0) hb1; obtain ⟨b0, b1, b2, b3, b4, b5⟩ := (unhide H6).later hb1; rw [unhide HLN] at b5; obtain ⟨x0, x1, x2, x3, x4, x5⟩ := unhide HCX _ hB1)
        | (go_at_call 54; refine (unhide HT w1).mono ?_; rintro r w2 ⟨rfl, hb2⟩; have hB2 := below_step hB1 hb2; obtain ⟨b0, b1, b2, b3, b4, b5⟩ := (unhide H6).later (below_step hb1 hb2); rw [unhide HLN] at b5; obtain ⟨⟨z0, z1, z2, z3, z4, z5⟩, f0, f1, f2, f3, f4, f5⟩ := (unhide HZ).later (below_step hb1 hb2); obtain ⟨y0, y1, y2, y3, y4, y5⟩ := unhide HCY _ hB2; obtain ⟨q0, q1, q2, q3, q4, q5⟩ := unhide HCZ _ hB2))
      have hE := put6 hB2 (B := w.heap.size + 1) (by omega) (.int .i64 y.op) (.int .i64 y.n) (.int .i64 y.v.k) (.int .i64 y.v.n) (.string y.v.s) (.slice ay y.args.length cy)
      refine bodyPost_ret (v := y.val ay cy) (by simp [results, Try.results36, go_sem, Ex.val, *]) rfl ⟨ay, cy, by rw [unhide HV], by rw [unhide HV]; exact (unhide HKY).on (Kept.of_below _ _ hE), hE⟩
    | false =>
      rw [ht] at HT HV
      simp only [beq_self_eq_true, if_true, Bool.false_eq_true, if_false] at HV
      clear ht hT2
      go_enter Try.func36, Try.ntmps36
      go_wp2_with (first
        | (go_at_call 25; refine (unhide HC _ (unhide HB0)).mono ?_; rintro r w1 ⟨rfl, hb1⟩; have hB1 := below_step (unhide HB0) hb1; obtain ⟨b0, b1, b2, b3, b4, b5⟩ := (unhide H6).later hb1; rw [unhide HLN] at b5; obtain ⟨x0, x1, x2, x3, x4, x5⟩ := unhide HCX _ hB1)
        | (go_at_call 54; refine (unhide HT w1).mono ?_; rintro r w2 ⟨rfl, hb2⟩; have hB2 := below_step hB1 hb2; obtain ⟨b0, b1, b2, b3, b4, b5⟩ := (unhide H6).later (below_step hb1 hb2); rw [unhide HLN] at b5; obtain ⟨⟨z0, z1, z2, z3, z4, z5⟩, f0, f1, f2, f3, f4, f5⟩ := (unhide HZ).later (below_step hb1 hb2); obtain ⟨y0, y1, y2, y3, y4, y5⟩ := unhide HCY _ hB2; obtain ⟨q0, q1, q2, q3, q4, q5⟩ := unhide HCZ _ hB2))
      have hE := put6 hB2 (B := w.heap.size + 1) (by omega) (.int .i64 z.op) (.int .i64 z.n) (.int .i64 z.v.k) (.int .i64 z.v.n) (.string z.v.s) (.slice az z.args.length cz)
      refine bodyPost_ret (v := z.val az cz) (by simp [results, Try.results36, go_sem, Ex.val, *]) rfl ⟨az, cz, by rw [unhide HV], by rw [unhide HV]; exact (unhide HKZ).on (Kept.of_below _ _ hE), hE⟩
  · have e2 : (x.op == 2) = false := by simpa using h2
    rw [e2] at HV
    simp only [Bool.false_eq_true, if_false] at HV
    clear e2
    go_enter Try.func36, Try.ntmps36
    go_wp2_with (go_at_call 25; refine (unhide HC _ (unhide HB0)).mono ?_; rintro r w1 ⟨rfl, hb1⟩; have hB1 := below_step (unhide HB0) hb1; obtain ⟨b0, b1, b2, b3, b4, b5⟩ := (unhide H6).later hb1; rw [unhide HLN] at b5; obtain ⟨x0, x1, x2, x3, x4, x5⟩ := unhide HCX _ hB1; obtain ⟨⟨z0, z1, z2, z3, z4, z5⟩, f0, f1, f2, f3, f4, f5⟩ := (unhide HZ).later hb1)
    have hE := put6 hB1 (B := w.heap.size + 1) (by omega) (.int .i64 21) (.int .i64 e.n) (.int .i64 e.v.k) (.int .i64 e.v.n) (.string e.v.s) (.slice (some ⟨vb, vo, none⟩) 3 c)
    refine bodyPost_ret (v := e.val (some ⟨vb, vo, none⟩) c) (by simp [results, Try.results36, go_sem, Ex.val, unhide HLN, *]) rfl ⟨(some ⟨vb, vo, none⟩), c, by rw [unhide HV], by rw [unhide HV]; exact (unhide HK).on (Kept.of_below _ _ hE), hE⟩
/-- simpler (36). -/
theorem simpler_any (e : Ex) (hg : goodE e) (hf : e.fin) (a : Option Addr) (c : Nat) (lo : Nat) (w : World) (hK : ExK lo w a e.args) : Calls Try.prog 36 #[e.val a c] w (SimpOk e lo w) := by
  by_cases hl : e.args = []
  · rcases no_args hg hl with ⟨h1, _⟩ | h2
    · exact simp_same e hf (.inr hl) (by omega) (by omega) (by omega) a c lo w hK
    · exact simp_same e hf (.inr hl) (by omega) (by omega) (by omega) a c lo w hK
  · have hl0 : 0 < e.args.length := by
      cases h : e.args with
      | nil => exact absurd h hl
      | cons x l => simp
    cases hc : e.args.any notConst with
    | false => exact simp_all e hg hf hl0 hc a c lo w hK.now
    | true =>
      by_cases h19 : e.op = 19
      · obtain ⟨x, y, hxy⟩ := two_args hg (by rw [h19]; decide)
        exact simp_and e hf hc h19 x y hxy a c lo w hK
      · by_cases h20 : e.op = 20
        · exact simp_or e hf hc h20 a c lo w hK
        · by_cases h21 : e.op = 21
          · have hl3 := sound_len (good_open hg).1
            rw [h21, show arI 21 = 3 by decide] at hl3
            match he : e.args, hl3 with
            | [x, y, z], _ => exact simp_if e hf hc h21 x y z he a c lo w hK
            | [], hl3 => simp at hl3
            | [_], hl3 => simp at hl3
            | [_, _], hl3 => simp at hl3
            | _ :: _ :: _ :: _ :: _, hl3 => simp at hl3; omega
          · exact simp_same e hf (.inl hc) h19 h20 h21 a c lo w hK
end Go.Proofs.Ytfnacpkodfhfoac

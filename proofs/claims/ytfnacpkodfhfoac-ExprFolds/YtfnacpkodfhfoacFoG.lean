import Derived.Test.YtfnacpkodfhfoacFoF
set_option linter.unusedSimpArgs false
set_option linter.unusedVariables false
namespace Go.Proofs.Ytfnacpkodfhfoac
open Go.RowKit Go.Sort

set_option maxHeartbeats 1000000 in
set_option maxRecDepth 100000 in
theorem simp_or (e : Ex) (hf : e.fin) (hc : e.args.any notConst = true) (h20 : e.op = 20) (a : Option Addr) (c : Nat) (lo : Nat) (w : World) (hK : ExK lo w a e.args) : Calls Try.prog 36 #[e.val a c] w (SimpOk e lo w) := by
  have hse : simpE e = if e.args.any isTrueE then conE (.num 1) else e := by
    unfold simpE
    rw [hc, h20]
    simp
  obtain ⟨⟨hlen, _, _, _⟩, hfl⟩ := Ex.fin_open hf
  have ha := hK.now
  have HC := hide (fun (W : World) (hW : Below w.heap.size w W) => containsE_any (.func (.func 51) #[] #[]) notConst a c e.args W hlen hfl (Ex.all_later _ ha hW) (test_const W))
  have HT := hide (fun (W : World) (hW : Below w.heap.size w W) => containsE_any (.func (.func 54) #[] #[]) isTrueE a c e.args W hlen hfl (Ex.all_later _ ha hW) (test_true W))
  have HN := hide (fun W => expnum0 1 W)
  have HCO := hide (fun W => constant_any (.num 1) W)
  have HV := hide hse
  have HK := hide hK
  have HB0 : Hid (Below w.heap.size w ((w.alloc (.cells #[.int .i64 e.op, .int .i64 e.n, .int .i64 e.v.k, .int .i64 e.v.n, .string e.v.s, .slice a e.args.length c] 26)).alloc (.cells #[.int .i64 0, .int .i64 0, .int .i64 0, .int .i64 0, .string ⟨#[]⟩, .slice none 0 0] 26))) := below_alloc (below_alloc (Below.refl _ w) _) _
  have H6 : Hid (Six ((w.alloc (.cells #[.int .i64 e.op, .int .i64 e.n, .int .i64 e.v.k, .int .i64 e.v.n, .string e.v.s, .slice a e.args.length c] 26)).alloc (.cells #[.int .i64 0, .int .i64 0, .int .i64 0, .int .i64 0, .string ⟨#[]⟩, .slice none 0 0] 26)) w.heap.size e a c) := (Six.new w e a c).later (below_alloc (Below.refl _ _) _)
  have HZ : Hid (Box6 ((w.alloc (.cells #[.int .i64 e.op, .int .i64 e.n, .int .i64 e.v.k, .int .i64 e.v.n, .string e.v.s, .slice a e.args.length c] 26)).alloc (.cells #[.int .i64 0, .int .i64 0, .int .i64 0, .int .i64 0, .string ⟨#[]⟩, .slice none 0 0] 26)) (w.heap.size + 1) zeroE none 0) := by
    have h := Box6.new (w.alloc (.cells #[.int .i64 e.op, .int .i64 e.n, .int .i64 e.v.k, .int .i64 e.v.n, .string e.v.s, .slice a e.args.length c] 26)) zeroE none 0
    rw [show (w.alloc (.cells #[.int .i64 e.op, .int .i64 e.n, .int .i64 e.v.k, .int .i64 e.v.n, .string e.v.s, .slice a e.args.length c] 26)).heap.size = w.heap.size + 1 by simp [go_sem]] at h
    exact h
  have hl2 : (0 : Int) < (e.args.length : Int) := by
    cases h : e.args with
    | nil => rw [h] at hc; cases hc
    | cons x l => simp
  rw [hc] at HC
  rw [Ex.val_open]
  rw [h20] at HB0 H6 HZ ⊢
  clear ha hc hse hK
  cases ht : e.args.any isTrueE with
  | true =>
    rw [ht] at HT HV
    simp only [if_true] at HV
    clear ht
    go_enter Try.func36, Try.ntmps36
    go_wp2_with (first
      | (go_at_call 25; refine (unhide HT _ hB1).mono ?_; rintro r w2 ⟨rfl, hb2⟩)
      | (go_at_call 25; refine (unhide HC _ (unhide HB0)).mono ?_; rintro r w1 ⟨rfl, hb1⟩; have hB1 := below_step (unhide HB0) hb1; obtain ⟨b0, b1, b2, b3, b4, b5⟩ := (unhide H6).later hb1)
      | (go_at_call 55; refine (unhide HN w2).mono ?_; rintro r w3 ⟨rfl, hb3⟩)
      | (go_at_call 34; refine (unhide HCO w3).mono ?_; rintro r w4 ⟨rfl, hb4⟩; rw [Ex.val_open]; obtain ⟨⟨z0, z1, z2, z3, z4, z5⟩, f0, f1, f2, f3, f4, f5⟩ := (unhide HZ).later (below_step (below_step (below_step hb1 hb2) hb3) hb4)))
    have hE := put6 (below_step (below_step (below_step hB1 hb2) hb3) hb4) (B := w.heap.size + 1) (by omega) (.int .i64 2) (.int .i64 0) (.int .i64 1) (.int .i64 1) (.string ⟨#[]⟩) (.slice none 0 0)
    refine bodyPost_ret (v := (conE (.num 1)).val none 0) (by simp [results, Try.results36, go_sem, Ex.val, Ex.op, Ex.n, Ex.v, Ex.args, Val.num, *]) rfl ⟨none, 0, by rw [unhide HV], by rw [unhide HV]; exact exk_nil _ _ _, hE⟩
  | false =>
    rw [ht] at HT HV
    simp only [Bool.false_eq_true, if_false] at HV
    clear ht
    go_enter Try.func36, Try.ntmps36
    go_wp2_with (first
      | (go_at_call 25; refine (unhide HT _ hB1).mono ?_; rintro r w2 ⟨rfl, hb2⟩; obtain ⟨b0, b1, b2, b3, b4, b5⟩ := (unhide H6).later (below_step hb1 hb2); obtain ⟨⟨z0, z1, z2, z3, z4, z5⟩, f0, f1, f2, f3, f4, f5⟩ := (unhide HZ).later (below_step hb1 hb2))
      | (go_at_call 25; refine (unhide HC _ (unhide HB0)).mono ?_; rintro r w1 ⟨rfl, hb1⟩; have hB1 := below_step (unhide HB0) hb1; obtain ⟨b0, b1, b2, b3, b4, b5⟩ := (unhide H6).later hb1))
    have hE := put6 (below_step hB1 hb2) (B := w.heap.size + 1) (by omega) (.int .i64 20) (.int .i64 e.n) (.int .i64 e.v.k) (.int .i64 e.v.n) (.string e.v.s) (.slice a e.args.length c)
    refine bodyPost_ret (v := e.val a c) (by simp [results, Try.results36, go_sem, Ex.val, *]) rfl ⟨a, c, by rw [unhide HV], by rw [unhide HV]; exact (unhide HK).on (Kept.of_below _ _ hE), hE⟩
end Go.Proofs.Ytfnacpkodfhfoac

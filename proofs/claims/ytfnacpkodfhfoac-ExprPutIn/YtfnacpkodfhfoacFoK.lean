import Derived.Test.YtfnacpkodfhfoacFoJ
import Derived.Test.YtfnacpkodfhfoacEsOpen
set_option linter.unusedSimpArgs false
set_option linter.unusedVariables false
namespace Go.Proofs.Ytfnacpkodfhfoac
open Go.RowKit Go.Sort

theorem neqV (x : Val) (w : World) : (binOp .neq 23 (.agg #[.int .i64 x.k, .int .i64 x.n, .string x.s]) (.agg #[.int .i64 x.k, .int .i64 x.n, .string x.s])).run Try.prog w = .ok (.bool false) w := by
  have h := eqV x x w
  rw [run_eql_struct] at h
  rw [run_neq_struct]
  generalize (Op.equalIn 10000 23 (.agg #[.int .i64 x.k, .int .i64 x.n, .string x.s]) (.agg #[.int .i64 x.k, .int .i64 x.n, .string x.s])).run Try.prog w = r at *
  cases r with
  | ok b w' =>
    simp only [Result.andThen_ok] at h ⊢
    injection h with h1 h2
    injection h1 with h1
    rw [h1, h2]
    simp
  | halt q w' => simp [Result.andThen] at h
/-- One and one. -/
def twoE : Ex := .mk 7 0 .null [.mk 2 0 (.num 1) [], .mk 2 0 (.num 1) []]
theorem two_fin : twoE.fin := by
  unfold twoE
  simp only [Ex.fin, Ex.fins]
  refine ⟨⟨by decide, by decide, ⟨by decide, by decide⟩, ⟨by decide, by decide⟩⟩, ⟨⟨by decide, by decide, ⟨by decide, by decide⟩, ⟨by decide, by decide⟩⟩, trivial⟩, ⟨⟨by decide, by decide, ⟨by decide, by decide⟩, ⟨by decide, by decide⟩⟩, trivial⟩, trivial⟩
theorem two_fold : foldB twoE = .mk 2 0 (.num 2) [] := by
  unfold foldB
  rw [if_pos (by decide)]
  kernel_rfl
theorem two_at (wc : World) : Ex.all ((wc.alloc (.cells #[.int .i64 2, .int .i64 0, .int .i64 1, .int .i64 1, .string ⟨#[]⟩, .slice none 0 0] 26)).alloc (.cells #[.int .i64 2, .int .i64 0, .int .i64 1, .int .i64 1, .string ⟨#[]⟩, .slice none 0 0, .int .i64 2, .int .i64 0, .int .i64 1, .int .i64 1, .string ⟨#[]⟩, .slice none 0 0] 26)) (some ⟨wc.heap.size + 1, 0, none⟩) twoE.args := by
  show Ex.all _ _ [.mk 2 0 (.num 1) [], .mk 2 0 (.num 1) []]
  simp only [Ex.all]
  refine ⟨_, _, rfl, ?_, _, _, rfl, ?_, trivial⟩
  · rw [Ex.at]
    refine ⟨none, 0, ⟨?_, ?_, ?_, ?_, ?_, ?_⟩, by rw [Ex.all]; trivial⟩ <;> simp [go_sem, Val.num]
  · rw [Ex.at]
    refine ⟨none, 0, ⟨?_, ?_, ?_, ?_, ?_, ?_⟩, by rw [Ex.all]; trivial⟩ <;> simp [go_sem, Val.num]
set_option maxHeartbeats 4000000 in
set_option maxRecDepth 100000 in
theorem law_ef (e : Ex) (hf : e.fin) (row : List Val) (hv : ∀ x ∈ row, VOk x) (hl : row.length ≤ 4398046511104) (a aR : Option Addr) (c cR : Nat) (w : World) (ha : Ex.all w a e.args) (hr : RowAt w aR row) :
    Calls Try.prog 4 #[e.val a c, .slice aR row.length cR] w fun r w' => r = .returned (.bool true) ∧ Below w.heap.size w w' := by
  obtain ⟨f, hfe⟩ : ∃ f, f = foldB e := ⟨_, rfl⟩
  obtain ⟨g, hge⟩ : ∃ g, g = foldB f := ⟨_, rfl⟩
  have hff : f.fin := by rw [hfe]; exact foldB_fin hf
  have hgf : g.fin := by rw [hge]; exact foldB_fin hff
  have HF := hide (fun (W : World) (hW : Below w.heap.size w W) => fold_any e hf a c W (Ex.all_later _ ha hW))
  have HS := hide (fun (W : World) (hW : Below w.heap.size w W) => size_any e hf a c W (Ex.all_later _ ha hW))
  have HE := hide (fun (W : World) (hW : Below w.heap.size w W) => evals_any e hf row hv (by omega) a aR c cR W (Ex.all_later _ ha hW) (hr.later hW))
  have HSF := hide (fun a' c' W (h : Ex.all W a' f.args) => size_any f hff a' c' W h)
  have HFF := hide (fun a' c' W (h : Ex.all W a' f.args) => fold_any f hff a' c' W h)
  have HSG := hide (fun a' c' W (h : Ex.all W a' g.args) => size_any g hgf a' c' W h)
  have HEF := hide (fun a' c' W (h : Ex.all W a' f.args) (hW : Below w.heap.size w W) => evals_any f hff row hv (by omega) a' aR c' cR W h (hr.later hW))
  have HEG := hide (fun a' c' W (h : Ex.all W a' g.args) (hW : Below w.heap.size w W) => evals_any g hgf row hv (by omega) a' aR c' cR W h (hr.later hW))
  rw [← hfe] at HF
  rw [← hge] at HFF
  have hz := foldB_size e
  rw [← hfe, ← hge] at hz
  have he1 : evalB row f = evalB row e := by rw [hfe]; exact foldB_eval row e
  have he2 : evalB row g = evalB row e := by rw [hge, foldB_eval, he1]
  rw [he1] at HEF
  rw [he2] at HEG
  have H6 : Hid (Six (w.alloc (.cells #[.int .i64 e.op, .int .i64 e.n, .int .i64 e.v.k, .int .i64 e.v.n, .string e.v.s, .slice a e.args.length c] 26)) w.heap.size e a c) := Six.new w e a c
  have HB0 := hide (below_alloc (Below.refl _ w) (.cells #[.int .i64 e.op, .int .i64 e.n, .int .i64 e.v.k, .int .i64 e.v.n, .string e.v.s, .slice a e.args.length c] 26))
  obtain ⟨n, hn⟩ : ∃ n, n = (sizeB e).1 := ⟨_, rfl⟩
  obtain ⟨h, hh⟩ : ∃ h, h = (sizeB e).2 := ⟨_, rfl⟩
  obtain ⟨m, hm⟩ : ∃ m, m = (sizeB f).1 := ⟨_, rfl⟩
  obtain ⟨q, hq⟩ : ∃ q, q = (sizeB f).2 := ⟨_, rfl⟩
  rw [← hn, ← hh] at HS
  rw [← hm, ← hq] at HSF
  rw [← hn, ← hh, ← hm, ← hq] at hz
  rw [hz.2.2] at HSG
  obtain ⟨kk, hkk⟩ : ∃ kk, kk = (sizeB g).2 := ⟨_, rfl⟩
  rw [← hkk] at HSG
  obtain ⟨z1, z2, _⟩ := hz
  generalize evalB row e = ev at *
  rw [Ex.val_open] at HF HS HE ⊢
  clear ha hr hv hn hh hm hq hkk hfe hge he1 he2 hf hff hgf
  go_enter Try.func4, Try.ntmps4
  go_upto_region 6 with (first
    | (go_at_call 15; refine (unhide HSG a4 c4 _ (Ex.all_later _ (unhide HG4) (below_alloc (Below.refl _ w4) (.cells #[.int .i64 g.op, .int .i64 g.n, .int .i64 g.v.k, .int .i64 g.v.n, .string g.v.s, .slice a4 g.args.length c4] 26)))).mono ?_; rintro r w5 ⟨rfl, hb5⟩; have hB5 := below_step (below_alloc hB4 (.cells #[.int .i64 g.op, .int .i64 g.n, .int .i64 g.v.k, .int .i64 g.v.n, .string g.v.s, .slice a4 g.args.length c4] 26)) hb5; have HG5 := hide (Ex.all_later _ (unhide HG4) (below_step (below_alloc (Below.refl _ w4) (.cells #[.int .i64 g.op, .int .i64 g.n, .int .i64 g.v.k, .int .i64 g.v.n, .string g.v.s, .slice a4 g.args.length c4] 26)) hb5)); have HZ5 : Hid (Six w5 w4.heap.size g a4 c4) := (Six.new w4 g a4 c4).later hb5; have HX5 := hide ((unhide HX4).later (below_step (below_alloc (Below.refl _ w4) (.cells #[.int .i64 g.op, .int .i64 g.n, .int .i64 g.v.k, .int .i64 g.v.n, .string g.v.s, .slice a4 g.args.length c4] 26)) hb5)); have HY5 := hide ((unhide HY4).later (below_step (below_alloc (Below.refl _ w4) (.cells #[.int .i64 g.op, .int .i64 g.n, .int .i64 g.v.k, .int .i64 g.v.n, .string g.v.s, .slice a4 g.args.length c4] 26)) hb5)); have HF5 := hide (Ex.all_later _ (unhide HF4) (below_step (below_alloc (Below.refl _ w4) (.cells #[.int .i64 g.op, .int .i64 g.n, .int .i64 g.v.k, .int .i64 g.v.n, .string g.v.s, .slice a4 g.args.length c4] 26)) hb5)))
    | (go_at_call 14; refine (unhide HFF a2 c2 w3 (unhide HF3)).mono ?_; rintro r w4 ⟨a4, c4, rfl, hg4, hb4⟩; have hB4 := below_step hB3 hb4; have HG4 := hide hg4; have HX4 := hide ((unhide HX3).later hb4); have HY4 := hide ((unhide HY3).later hb4); have HF4 := hide (Ex.all_later _ (unhide HF3) hb4); clear hg4; rw [Ex.val_open])
    | (go_at_call 15; refine (unhide HSF a2 c2 w2 (unhide HF2)).mono ?_; rintro r w3 ⟨rfl, hb3⟩; have hB3 := below_step hB2 hb3; have HF3 := hide (Ex.all_later _ (unhide HF2) hb3); have HX3 := hide ((unhide HX2).later hb3); have HY3 := hide ((unhide HY2).later hb3); obtain ⟨g0, g1, g2, g3, g4, g5⟩ := unhide HX3)
    | (go_at_call 15; refine (unhide HS _ (below_alloc hB1 _)).mono ?_; rintro r w2 ⟨rfl, hb2⟩; have hB2 := below_step (below_alloc hB1 (.cells #[.int .i64 f.op, .int .i64 f.n, .int .i64 f.v.k, .int .i64 f.v.n, .string f.v.s, .slice a2 f.args.length c2] 26)) hb2; have HF2 := hide (Ex.all_later _ (unhide HF1) (below_step (below_alloc (Below.refl _ w1) (.cells #[.int .i64 f.op, .int .i64 f.n, .int .i64 f.v.k, .int .i64 f.v.n, .string f.v.s, .slice a2 f.args.length c2] 26)) hb2)); have HX2 : Hid (Six w2 w1.heap.size f a2 c2) := (Six.new w1 f a2 c2).later hb2; have HY2 : Hid (Six w2 w.heap.size e a c) := (unhide HY1).later (below_step (below_alloc (Below.refl _ w1) (.cells #[.int .i64 f.op, .int .i64 f.n, .int .i64 f.v.k, .int .i64 f.v.n, .string f.v.s, .slice a2 f.args.length c2] 26)) hb2); obtain ⟨g0, g1, g2, g3, g4, g5⟩ := unhide HX2)
    | (go_at_call 14; refine (unhide HF _ (unhide HB0)).mono ?_; rintro r w1 ⟨a2, c2, rfl, hf1, hb1⟩; have hB1 := below_step (unhide HB0) hb1; have HF1 := hide hf1; have HY1 := hide ((unhide H6).later hb1); clear hf1; obtain ⟨b0, b1, b2, b3, b4, b5⟩ := (unhide HY1).later (below_alloc (Below.refl _ w1) (.cells #[.int .i64 f.op, .int .i64 f.n, .int .i64 f.v.k, .int .i64 f.v.n, .string f.v.s, .slice a2 f.args.length c2] 26)); rw [Ex.val_open]))
  have HEF2 := hide (fun (W : World) (hW : Below w5.heap.size w5 W) => unhide HEF a2 c2 W (Ex.all_later _ (unhide HF5) hW) (below_step hB5 hW))
  have HEG2 := hide (fun (W : World) (hW : Below w5.heap.size w5 W) => unhide HEG a4 c4 W (Ex.all_later _ (unhide HG5) hW) (below_step hB5 hW))
  have HEE2 := hide (fun (W : World) (hW : Below w5.heap.size w5 W) => unhide HE W (below_step hB5 hW))
  rw [Ex.val_open] at HEF2 HEG2
  have HB5 := hide hB5
  have n1 : ¬ n < m := by omega
  have n2 : ¬ h < q := by omega
  clear HF HS HE HSF HFF HSG HEF HEG HF1 HF2 HF3 HF4 HF5 HG4 HG5 HX2 HX3 HX4 HY1 HY2 HY3 HY4 H6 HB0 hB1 hB2 hB3 hB4 hB5 hb1 hb2 hb3 hb4 hb5 z1 z2
  go_cut [64] (fun v wx => v = .bool false ∧ Hid (Below w5.heap.size w5 wx))
  case first =>
    refine wp_region_noPanic ?_
    refine wp_region_G (S := fun w' : World => Below w5.heap.size w5 w') (k := 30) (by kernel_rfl) ?_
    refine anyG_takel (i := 0) (v := (.agg #[.int .i64 f.op, .int .i64 f.n, .int .i64 f.v.k, .int .i64 f.v.n, .string f.v.s, .slice a2 f.args.length c2])) [2, 6, 7, 11, 12, 16, 17, 21, 22, 30] rfl (by kernel_rfl) (by kernel_rfl) (by kernel_rfl) (by kernel_rfl) (fun _ _ _ h => h) (Or.inl ⟨by rfl, fun w' hSw => ?_⟩) ((Below.refl _ w5).drew) ?_
    · obtain ⟨e0, e1, e2, e3, e4, e5⟩ := (unhide HY5).later hSw; obtain ⟨f0, f1, f2, f3, f4, f5⟩ := (unhide HX5).later hSw; obtain ⟨k0, k1, k2, k3, k4, k5⟩ := (unhide HZ5).later hSw
      go_simp
    try simp only [Act.put, List.setIfInBounds_toArray, List.set_cons_zero, List.set_cons_succ]
    refine anyG_takel (i := 1) (v := (.slice aR row.length cR)) [2, 6, 7, 11, 12, 16, 17, 21, 22, 30] rfl (by kernel_rfl) (by kernel_rfl) (by kernel_rfl) (by kernel_rfl) (fun _ _ _ h => h) (Or.inl ⟨by rfl, fun w' hSw => ?_⟩) ((Below.refl _ w5).drew) ?_
    · obtain ⟨e0, e1, e2, e3, e4, e5⟩ := (unhide HY5).later hSw; obtain ⟨f0, f1, f2, f3, f4, f5⟩ := (unhide HX5).later hSw; obtain ⟨k0, k1, k2, k3, k4, k5⟩ := (unhide HZ5).later hSw
      go_simp
    try simp only [Act.put, List.setIfInBounds_toArray, List.set_cons_zero, List.set_cons_succ]
    refine anyG_takel (i := 3) (v := (.agg #[.int .i64 e.op, .int .i64 e.n, .int .i64 e.v.k, .int .i64 e.v.n, .string e.v.s, .slice a e.args.length c])) [5, 6, 7, 11, 12, 16, 17, 21, 22, 30] rfl (by kernel_rfl) (by kernel_rfl) (by kernel_rfl) (by kernel_rfl) (fun _ _ _ h => h) (Or.inl ⟨by rfl, fun w' hSw => ?_⟩) ((Below.refl _ w5).drew) ?_
    · obtain ⟨e0, e1, e2, e3, e4, e5⟩ := (unhide HY5).later hSw; obtain ⟨f0, f1, f2, f3, f4, f5⟩ := (unhide HX5).later hSw; obtain ⟨k0, k1, k2, k3, k4, k5⟩ := (unhide HZ5).later hSw
      go_simp
    try simp only [Act.put, List.setIfInBounds_toArray, List.set_cons_zero, List.set_cons_succ]
    refine anyG_takel (i := 4) (v := (.slice aR row.length cR)) [5, 6, 7, 11, 12, 16, 17, 21, 22, 30] rfl (by kernel_rfl) (by kernel_rfl) (by kernel_rfl) (by kernel_rfl) (fun _ _ _ h => h) (Or.inl ⟨by rfl, fun w' hSw => ?_⟩) ((Below.refl _ w5).drew) ?_
    · obtain ⟨e0, e1, e2, e3, e4, e5⟩ := (unhide HY5).later hSw; obtain ⟨f0, f1, f2, f3, f4, f5⟩ := (unhide HX5).later hSw; obtain ⟨k0, k1, k2, k3, k4, k5⟩ := (unhide HZ5).later hSw
      go_simp
    try simp only [Act.put, List.setIfInBounds_toArray, List.set_cons_zero, List.set_cons_succ]
    refine anyG_one (i := 2) (by kernel_rfl) ?_
    refine wpOp_lit rfl (by rfl) fun K' hK' => ?_
    go_simp
    refine (unhide HEF2 w5.drew ((Below.refl _ w5).drew)).mono ?_
    rintro r w6 ⟨rfl, hb6⟩
    go_simp
    have hS6 : Below w5.heap.size w5 w6 := below_step ((Below.refl _ w5).drew) hb6
    refine unhide hK' _ _ ⟨fun _ => hS6, ?_⟩
    clear hK' K'
    refine anyG_one (i := 5) (by kernel_rfl) ?_
    refine wpOp_lit rfl (by rfl) fun K' hK' => ?_
    go_simp
    refine (unhide HEE2 w6 hS6).mono ?_
    rintro r w7 ⟨rfl, hb7⟩
    go_simp
    have hS7 : Below w5.heap.size w5 w7 := below_step hS6 hb7
    refine unhide hK' _ _ ⟨fun _ => hS7, ?_⟩
    clear hK' K'
    refine anyG_takel (i := 6) (v := (.bool false)) [7, 11, 12, 16, 17, 21, 22, 30] rfl (by kernel_rfl) (by kernel_rfl) (by kernel_rfl) (by kernel_rfl) (fun _ _ _ h => h) (Or.inl ⟨by rfl, fun w' hSw => ?_⟩) hS7 ?_
    · rw [Val.open_]
      have hq := neqV ev w'
      have hg : (eqGuard .neq 23 (.tmp 36) (.tmp 39) (.agg #[.int .i64 ev.k, .int .i64 ev.n, .string ev.s]) (.agg #[.int .i64 ev.k, .int .i64 ev.n, .string ev.s])).run Try.prog w' = .ok () w' := run_eqGuard_agg w' .neq 23 (.tmp 36) (.tmp 39) _ _ (by kernel_rfl)
      unfold execOp
      simp only [Sem.run_bind]
      erw [hg]
      simp only [Result.andThen_ok]
      erw [hq]
      simp only [Result.andThen_ok, Sem.run_pure]
    try simp only [Act.put, List.setIfInBounds_toArray, List.set_cons_zero, List.set_cons_succ]
    refine anyG_takel (i := 7) (v := (.bool false)) [11, 12, 16, 17, 21, 22, 30] rfl (by kernel_rfl) (by kernel_rfl) (by kernel_rfl) (by kernel_rfl) (fun _ _ _ h => h) (Or.inl ⟨by rfl, fun w' hSw => ?_⟩) hS7 ?_
    · clear hS6 hS7
      go_simp
    try simp only [Act.put, List.setIfInBounds_toArray, List.set_cons_zero, List.set_cons_succ]
    refine anyG_takel (i := 8) (v := (.int .i64 m)) [10, 11, 12, 16, 17, 21, 22, 30] rfl (by kernel_rfl) (by kernel_rfl) (by kernel_rfl) (by kernel_rfl) (fun _ _ _ h => h) (Or.inl ⟨by rfl, fun w' hSw => ?_⟩) hS7 ?_
    · clear hS6 hS7
      go_simp
    try simp only [Act.put, List.setIfInBounds_toArray, List.set_cons_zero, List.set_cons_succ]
    refine anyG_takel (i := 9) (v := (.int .i64 n)) [10, 11, 12, 16, 17, 21, 22, 30] rfl (by kernel_rfl) (by kernel_rfl) (by kernel_rfl) (by kernel_rfl) (fun _ _ _ h => h) (Or.inl ⟨by rfl, fun w' hSw => ?_⟩) hS7 ?_
    · clear hS6 hS7
      go_simp
    try simp only [Act.put, List.setIfInBounds_toArray, List.set_cons_zero, List.set_cons_succ]
    refine anyG_takel (i := 10) (v := (.bool false)) [11, 12, 16, 17, 21, 22, 30] rfl (by kernel_rfl) (by kernel_rfl) (by kernel_rfl) (by kernel_rfl) (fun _ _ _ h => h) (Or.inl ⟨by rfl, fun w' hSw => ?_⟩) hS7 ?_
    · clear hS6 hS7
      go_simp
    try simp only [Act.put, List.setIfInBounds_toArray, List.set_cons_zero, List.set_cons_succ]
    refine anyG_takel (i := 11) (v := (.bool false)) [12, 16, 17, 21, 22, 30] rfl (by kernel_rfl) (by kernel_rfl) (by kernel_rfl) (by kernel_rfl) (fun _ _ _ h => h) (Or.inl ⟨by rfl, fun w' hSw => ?_⟩) hS7 ?_
    · clear hS6 hS7
      go_simp
    try simp only [Act.put, List.setIfInBounds_toArray, List.set_cons_zero, List.set_cons_succ]
    refine anyG_takel (i := 12) (v := (.bool false)) [16, 17, 21, 22, 30] rfl (by kernel_rfl) (by kernel_rfl) (by kernel_rfl) (by kernel_rfl) (fun _ _ _ h => h) (Or.inl ⟨by rfl, fun w' hSw => ?_⟩) hS7 ?_
    · clear hS6 hS7
      go_simp
    try simp only [Act.put, List.setIfInBounds_toArray, List.set_cons_zero, List.set_cons_succ]
    refine anyG_takel (i := 13) (v := (.int .i64 q)) [15, 16, 17, 21, 22, 30] rfl (by kernel_rfl) (by kernel_rfl) (by kernel_rfl) (by kernel_rfl) (fun _ _ _ h => h) (Or.inl ⟨by rfl, fun w' hSw => ?_⟩) hS7 ?_
    · clear hS6 hS7
      go_simp
    try simp only [Act.put, List.setIfInBounds_toArray, List.set_cons_zero, List.set_cons_succ]
    refine anyG_takel (i := 14) (v := (.int .i64 h)) [15, 16, 17, 21, 22, 30] rfl (by kernel_rfl) (by kernel_rfl) (by kernel_rfl) (by kernel_rfl) (fun _ _ _ h => h) (Or.inl ⟨by rfl, fun w' hSw => ?_⟩) hS7 ?_
    · clear hS6 hS7
      go_simp
    try simp only [Act.put, List.setIfInBounds_toArray, List.set_cons_zero, List.set_cons_succ]
    refine anyG_takel (i := 15) (v := (.bool false)) [16, 17, 21, 22, 30] rfl (by kernel_rfl) (by kernel_rfl) (by kernel_rfl) (by kernel_rfl) (fun _ _ _ h => h) (Or.inl ⟨by rfl, fun w' hSw => ?_⟩) hS7 ?_
    · clear hS6 hS7
      go_simp
    try simp only [Act.put, List.setIfInBounds_toArray, List.set_cons_zero, List.set_cons_succ]
    refine anyG_takel (i := 16) (v := (.bool false)) [17, 21, 22, 30] rfl (by kernel_rfl) (by kernel_rfl) (by kernel_rfl) (by kernel_rfl) (fun _ _ _ h => h) (Or.inl ⟨by rfl, fun w' hSw => ?_⟩) hS7 ?_
    · clear hS6 hS7
      go_simp
    try simp only [Act.put, List.setIfInBounds_toArray, List.set_cons_zero, List.set_cons_succ]
    refine anyG_takel (i := 17) (v := (.bool false)) [21, 22, 30] rfl (by kernel_rfl) (by kernel_rfl) (by kernel_rfl) (by kernel_rfl) (fun _ _ _ h => h) (Or.inl ⟨by rfl, fun w' hSw => ?_⟩) hS7 ?_
    · clear hS6 hS7
      go_simp
    try simp only [Act.put, List.setIfInBounds_toArray, List.set_cons_zero, List.set_cons_succ]
    refine anyG_takel (i := 18) (v := (.int .i64 m)) [20, 21, 22, 30] rfl (by kernel_rfl) (by kernel_rfl) (by kernel_rfl) (by kernel_rfl) (fun _ _ _ h => h) (Or.inl ⟨by rfl, fun w' hSw => ?_⟩) hS7 ?_
    · clear hS6 hS7
      go_simp
    try simp only [Act.put, List.setIfInBounds_toArray, List.set_cons_zero, List.set_cons_succ]
    refine anyG_takel (i := 19) (v := (.int .i64 m)) [20, 21, 22, 30] rfl (by kernel_rfl) (by kernel_rfl) (by kernel_rfl) (by kernel_rfl) (fun _ _ _ h => h) (Or.inl ⟨by rfl, fun w' hSw => ?_⟩) hS7 ?_
    · clear hS6 hS7
      go_simp
    try simp only [Act.put, List.setIfInBounds_toArray, List.set_cons_zero, List.set_cons_succ]
    refine anyG_takel (i := 20) (v := (.bool false)) [21, 22, 30] rfl (by kernel_rfl) (by kernel_rfl) (by kernel_rfl) (by kernel_rfl) (fun _ _ _ h => h) (Or.inl ⟨by rfl, fun w' hSw => ?_⟩) hS7 ?_
    · clear hS6 hS7
      go_simp
    try simp only [Act.put, List.setIfInBounds_toArray, List.set_cons_zero, List.set_cons_succ]
    refine anyG_takel (i := 21) (v := (.bool false)) [22, 30] rfl (by kernel_rfl) (by kernel_rfl) (by kernel_rfl) (by kernel_rfl) (fun _ _ _ h => h) (Or.inl ⟨by rfl, fun w' hSw => ?_⟩) hS7 ?_
    · clear hS6 hS7
      go_simp
    try simp only [Act.put, List.setIfInBounds_toArray, List.set_cons_zero, List.set_cons_succ]
    refine anyG_takel (i := 22) (v := (.bool false)) [30] rfl (by kernel_rfl) (by kernel_rfl) (by kernel_rfl) (by kernel_rfl) (fun _ _ _ h => h) (Or.inl ⟨by rfl, fun w' hSw => ?_⟩) hS7 ?_
    · clear hS6 hS7
      go_simp
    try simp only [Act.put, List.setIfInBounds_toArray, List.set_cons_zero, List.set_cons_succ]
    refine anyG_takel (i := 23) (v := (.agg #[.int .i64 g.op, .int .i64 g.n, .int .i64 g.v.k, .int .i64 g.v.n, .string g.v.s, .slice a4 g.args.length c4])) [25, 29, 30] rfl (by kernel_rfl) (by kernel_rfl) (by kernel_rfl) (by kernel_rfl) (fun _ _ _ h => h) (Or.inl ⟨by rfl, fun w' hSw => ?_⟩) hS7 ?_
    · obtain ⟨e0, e1, e2, e3, e4, e5⟩ := (unhide HY5).later hSw; obtain ⟨f0, f1, f2, f3, f4, f5⟩ := (unhide HX5).later hSw; obtain ⟨k0, k1, k2, k3, k4, k5⟩ := (unhide HZ5).later hSw
      go_simp
    try simp only [Act.put, List.setIfInBounds_toArray, List.set_cons_zero, List.set_cons_succ]
    refine anyG_takel (i := 24) (v := (.slice aR row.length cR)) [25, 29, 30] rfl (by kernel_rfl) (by kernel_rfl) (by kernel_rfl) (by kernel_rfl) (fun _ _ _ h => h) (Or.inl ⟨by rfl, fun w' hSw => ?_⟩) hS7 ?_
    · obtain ⟨e0, e1, e2, e3, e4, e5⟩ := (unhide HY5).later hSw; obtain ⟨f0, f1, f2, f3, f4, f5⟩ := (unhide HX5).later hSw; obtain ⟨k0, k1, k2, k3, k4, k5⟩ := (unhide HZ5).later hSw
      go_simp
    try simp only [Act.put, List.setIfInBounds_toArray, List.set_cons_zero, List.set_cons_succ]
    refine anyG_takel (i := 26) (v := (.agg #[.int .i64 e.op, .int .i64 e.n, .int .i64 e.v.k, .int .i64 e.v.n, .string e.v.s, .slice a e.args.length c])) [28, 29, 30] rfl (by kernel_rfl) (by kernel_rfl) (by kernel_rfl) (by kernel_rfl) (fun _ _ _ h => h) (Or.inl ⟨by rfl, fun w' hSw => ?_⟩) hS7 ?_
    · obtain ⟨e0, e1, e2, e3, e4, e5⟩ := (unhide HY5).later hSw; obtain ⟨f0, f1, f2, f3, f4, f5⟩ := (unhide HX5).later hSw; obtain ⟨k0, k1, k2, k3, k4, k5⟩ := (unhide HZ5).later hSw
      go_simp
    try simp only [Act.put, List.setIfInBounds_toArray, List.set_cons_zero, List.set_cons_succ]
    refine anyG_takel (i := 27) (v := (.slice aR row.length cR)) [28, 29, 30] rfl (by kernel_rfl) (by kernel_rfl) (by kernel_rfl) (by kernel_rfl) (fun _ _ _ h => h) (Or.inl ⟨by rfl, fun w' hSw => ?_⟩) hS7 ?_
    · obtain ⟨e0, e1, e2, e3, e4, e5⟩ := (unhide HY5).later hSw; obtain ⟨f0, f1, f2, f3, f4, f5⟩ := (unhide HX5).later hSw; obtain ⟨k0, k1, k2, k3, k4, k5⟩ := (unhide HZ5).later hSw
      go_simp
    try simp only [Act.put, List.setIfInBounds_toArray, List.set_cons_zero, List.set_cons_succ]
    refine anyG_one (i := 25) (by kernel_rfl) ?_
    refine wpOp_lit rfl (by rfl) fun K' hK' => ?_
    go_simp
    refine (unhide HEG2 w7 hS7).mono ?_
    rintro r w8 ⟨rfl, hb8⟩
    go_simp
    have hS8 : Below w5.heap.size w5 w8 := below_step hS7 hb8
    refine unhide hK' _ _ ⟨fun _ => hS8, ?_⟩
    clear hK' K'
    refine anyG_one (i := 28) (by kernel_rfl) ?_
    refine wpOp_lit rfl (by rfl) fun K' hK' => ?_
    go_simp
    refine (unhide HEE2 w8 hS8).mono ?_
    rintro r w9 ⟨rfl, hb9⟩
    go_simp
    have hS9 : Below w5.heap.size w5 w9 := below_step hS8 hb9
    refine unhide hK' _ _ ⟨fun _ => hS9, ?_⟩
    clear hK' K'
    refine anyG_takel (i := 29) (v := (.bool false)) [30] rfl (by kernel_rfl) (by kernel_rfl) (by kernel_rfl) (by kernel_rfl) (fun _ _ _ h => h) (Or.inl ⟨by rfl, fun w' hSw => ?_⟩) hS9 ?_
    · rw [Val.open_]
      have hq := neqV ev w'
      have hg : (eqGuard .neq 23 (.tmp 59) (.tmp 62) (.agg #[.int .i64 ev.k, .int .i64 ev.n, .string ev.s]) (.agg #[.int .i64 ev.k, .int .i64 ev.n, .string ev.s])).run Try.prog w' = .ok () w' := run_eqGuard_agg w' .neq 23 (.tmp 59) (.tmp 62) _ _ (by kernel_rfl)
      unfold execOp
      simp only [Sem.run_bind]
      erw [hg]
      simp only [Result.andThen_ok]
      erw [hq]
      simp only [Result.andThen_ok, Sem.run_pure]
    try simp only [Act.put, List.setIfInBounds_toArray, List.set_cons_zero, List.set_cons_succ]
    refine anyG_one (i := 30) (by kernel_rfl) ?_
    refine wpOp_lit rfl (by rfl) fun K' hK' => ?_
    go_simp
    refine unhide hK' _ _ ⟨fun hh => absurd hh (by decide), ?_⟩
    clear hK' K'
    refine anyG_done (by kernel_rfl) ?_ _
    refine NoPanic.normal ?_
    go_wp2
    go_meet
    exact ⟨rfl, hS9⟩
  case rest =>
    obtain ⟨rfl, HBC⟩ := hcut
    have H2 := hide (fold_any twoE two_fin _ 2 _ (two_at wc))
    rw [two_fold, Ex.val_open] at H2
    have HB7 : Hid (Below wc.heap.size wc ((wc.alloc (.cells #[.int .i64 2, .int .i64 0, .int .i64 1, .int .i64 1, .string ⟨#[]⟩, .slice none 0 0] 26)).alloc (.cells #[.int .i64 2, .int .i64 0, .int .i64 1, .int .i64 1, .string ⟨#[]⟩, .slice none 0 0, .int .i64 2, .int .i64 0, .int .i64 1, .int .i64 1, .string ⟨#[]⟩, .slice none 0 0] 26))) := below_alloc (below_alloc (Below.refl _ _) _) _
    go_wp2_with (go_at_call 14; refine (unhide H2).mono ?_; rintro r w10 ⟨a9, c9, rfl, _, hb10⟩; rw [Ex.val_open])
    go_ret
    exact ⟨rfl, below_alloc (below_step (below_step (below_step (unhide HB5) (unhide HBC)) (unhide HB7)) hb10) _⟩
end Go.Proofs.Ytfnacpkodfhfoac

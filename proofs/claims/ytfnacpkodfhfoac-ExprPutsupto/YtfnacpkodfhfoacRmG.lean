import Derived.Test.YtfnacpkodfhfoacRmF
set_option linter.unusedSimpArgs false
set_option linter.unusedVariables false
namespace Go.Proofs.Ytfnacpkodfhfoac
open Go.RowKit Go.Sort

set_option maxHeartbeats 400000 in
/-- tallyref.Column (24). -/
theorem rcolumn_any (n : Int) (w : World) : Calls Try.prog 24 #[.int .i64 n] w fun r w' => r = .returned ((Ex.mk 1 n .null []).val none 0) ∧ Below w.heap.size w w' := by
  go_enter Try.func24, Try.ntmps24
  go_wp2
  refine bodyPost_ret (v := (Ex.mk 1 n .null []).val none 0) (by simp [results, Try.results24, go_sem, Ex.val, Ex.op, Ex.n, Ex.v, Ex.args, Val.null]) rfl ?_
  exact ⟨rfl, by first | exact Below.refl _ _ | exact below_alloc (Below.refl _ _) _ | exact below_alloc (below_alloc (Below.refl _ _) _) _⟩
set_option maxHeartbeats 1000000 in
set_option maxRecDepth 100000 in
theorem same_step (e : Ex) (hs : e.short) (a b : Option Addr) (c d : Nat) (w : World) (ha : Ex.all w a e.args) (hb : Ex.all w b e.args)
    (IH : ∀ (i : Nat) (x : Ex), e.args[i]? = some x → ∀ (a b : Option Addr) (c d : Nat) (W : World), Ex.all W a x.args → Ex.all W b x.args → Calls Try.prog 9 #[x.val a c, x.val b d] W fun r w' => r = .returned (.bool true) ∧ Below W.heap.size W w') :
    Calls Try.prog 9 #[e.val a c, e.val b d] w fun r w' => r = .returned (.bool true) ∧ Below w.heap.size w w' := by
  have hl := (Ex.short_open hs).1
  have HIH := hide IH
  have HA := hide ha
  have HB := hide hb
  clear IH ha hb hs
  have hsz : (w.alloc (.cells #[.int .i64 e.op, .int .i64 e.n, .int .i64 e.v.k, .int .i64 e.v.n, .string e.v.s, .slice a e.args.length c] 26)).heap.size = w.heap.size + 1 := by simp [go_sem]
  obtain ⟨wa, hwa⟩ : ∃ wa, wa = (w.alloc (.cells #[.int .i64 e.op, .int .i64 e.n, .int .i64 e.v.k, .int .i64 e.v.n, .string e.v.s, .slice a e.args.length c] 26)).alloc (.cells #[.int .i64 e.op, .int .i64 e.n, .int .i64 e.v.k, .int .i64 e.v.n, .string e.v.s, .slice b e.args.length d] 26) := ⟨_, rfl⟩
  have HBA : Hid (Below w.heap.size w wa) := by rw [hwa]; exact below_alloc (below_alloc (Below.refl _ w) _) _
  have HSA : Hid (Six wa w.heap.size e a c) := by rw [hwa]; exact (Six.new w e a c).later (below_alloc (Below.refl _ _) _)
  have HSB : Hid (Six wa (w.heap.size + 1) e b d) := by
    have h := Six.new (w.alloc (.cells #[.int .i64 e.op, .int .i64 e.n, .int .i64 e.v.k, .int .i64 e.v.n, .string e.v.s, .slice a e.args.length c] 26)) e b d
    rw [hsz] at h
    rw [hwa]
    exact h
  rw [Ex.val_open, Ex.val_open]
  clear hsz
  go_enter Try.func9, Try.ntmps9
  go_upto_region 1 with fail
  rw [← hwa]
  clear hwa
  obtain ⟨s0, s1, s2, s3, s4, s5⟩ := unhide HSA
  obtain ⟨t0, t1, t2, t3, t4, t5⟩ := unhide HSB
  go_upto_region 4 with fail
  clear s0 s1 s2 s3 s4 s5 t0 t1 t2 t3 t4 t5
  go_loopw [37] (fun i wr => ∃ k : Nat, k ≤ e.args.length ∧ i = .int .i64 (k : Int) ∧ Hid (Below wa.heap.size wa wr)) (fun i _ => e.args.length - (intOf i).toNat)
  case atStart => exact ⟨0, Nat.zero_le _, rfl, Below.refl _ _⟩
  case round =>
    obtain ⟨k, hk, rfl, HI⟩ := hrel
    by_cases hlt : k < e.args.length
    · have h9 : (k : Int) < (e.args.length : Int) := by omega
      obtain ⟨x, hx⟩ : ∃ x, e.args[k]? = some x := ⟨_, List.getElem?_eq_getElem hlt⟩
      have hBW := below_step (unhide HBA) (unhide HI)
      obtain ⟨vb, vo, ea, hat⟩ := Ex.all_get (Ex.all_later _ (unhide HA) hBW) hx
      obtain ⟨a', c', ⟨d0, d1, d2, d3, d4, d5⟩, hal⟩ := Ex.at_open hat
      obtain ⟨ub, uo, eb, hbt⟩ := Ex.all_get (Ex.all_later _ (unhide HB) hBW) hx
      obtain ⟨b', d', ⟨g0, g1, g2, g3, g4, g5⟩, hbl⟩ := Ex.at_open hbt
      have HC := hide (fun (W : World) (hW : Below wr.heap.size wr W) => unhide HIH k x hx a' b' c' d' W (Ex.all_later _ hal hW) (Ex.all_later _ hbl hW))
      rw [Ex.val_open, Ex.val_open] at HC
      have s5 := ((unhide HSA).later (unhide HI)).2.2.2.2.2
      have t5 := ((unhide HSB).later (unhide HI)).2.2.2.2.2
      subst ea eb
      clear hx hat hbt hal hbl hBW HIH HA HB
      go_upto_region 6 with fail
      have HD := hide (And.intro d0 (And.intro d1 (And.intro d2 (And.intro d3 (And.intro d4 d5)))))
      have HG := hide (And.intro g0 (And.intro g1 (And.intro g2 (And.intro g3 (And.intro g4 g5)))))
      have HS5 := hide s5
      have HT5 := hide t5
      clear d0 d1 d2 d3 d4 d5 g0 g1 g2 g3 g4 g5 s5 t5
      have hl9 : (k : Int) < 1000000000 := by omega
      have HS0 := hide ((Below.refl wr.heap.size wr).drew)
      refine wp_region_noPanic ?_
      refine wp_region_G (S := fun w' : World => Below wr.heap.size wr w') (k := 10) (by kernel_rfl) ?_
      refine anyG_takel (i := 0) (v := (.pointer (some ⟨w.heap.size, 5, none⟩))) [1, 3, 4, 10] rfl (by kernel_rfl) (by kernel_rfl) (by kernel_rfl) (by kernel_rfl) (fun _ _ _ h => h) (Or.inl ⟨by rfl, fun w' hSw => ?_⟩) (unhide HS0) ?_
      · go_simp
      try simp only [Act.put, List.setIfInBounds_toArray, List.set_cons_zero, List.set_cons_succ]
      refine anyG_takel (i := 1) (v := (.slice (some ⟨vb, vo, none⟩) e.args.length c)) [3, 4, 10] rfl (by kernel_rfl) (by kernel_rfl) (by kernel_rfl) (by kernel_rfl) (fun _ _ _ h => h) (Or.inl ⟨by rfl, fun w' hSw => ?_⟩) (unhide HS0) ?_
      · have e5 := clater (unhide HS5) hSw; go_simp
      try simp only [Act.put, List.setIfInBounds_toArray, List.set_cons_zero, List.set_cons_succ]
      refine anyG_takel (i := 2) (v := (.int .i64 (k : Int))) [3, 4, 10] rfl (by kernel_rfl) (by kernel_rfl) (by kernel_rfl) (by kernel_rfl) (fun _ _ _ h => h) (Or.inl ⟨by rfl, fun w' hSw => ?_⟩) (unhide HS0) ?_
      · go_simp
      try simp only [Act.put, List.setIfInBounds_toArray, List.set_cons_zero, List.set_cons_succ]
      refine anyG_takel (i := 3) (v := (.pointer (some ⟨vb, vo + k * 6, none⟩))) [4, 10] rfl (by kernel_rfl) (by kernel_rfl) (by kernel_rfl) (by kernel_rfl) (fun _ _ _ h => h) (Or.inl ⟨by rfl, fun w' hSw => ?_⟩) (unhide HS0) ?_
      · go_simp
      try simp only [Act.put, List.setIfInBounds_toArray, List.set_cons_zero, List.set_cons_succ]
      refine anyG_takel (i := 4) (v := (.agg #[.int .i64 x.op, .int .i64 x.n, .int .i64 x.v.k, .int .i64 x.v.n, .string x.v.s, .slice a' x.args.length c'])) [10] rfl (by kernel_rfl) (by kernel_rfl) (by kernel_rfl) (by kernel_rfl) (fun _ _ _ h => h) (Or.inl ⟨by rfl, fun w' hSw => ?_⟩) (unhide HS0) ?_
      · obtain ⟨d0, d1, d2, d3, d4, d5⟩ := unhide HD; have e0 := clater d0 hSw; have e1 := clater d1 hSw; have e2 := clater d2 hSw; have e3 := clater d3 hSw; have e4 := clater d4 hSw; have e5 := clater d5 hSw; clear d0 d1 d2 d3 d4 d5; go_simp
      try simp only [Act.put, List.setIfInBounds_toArray, List.set_cons_zero, List.set_cons_succ]
      refine anyG_takel (i := 5) (v := (.pointer (some ⟨w.heap.size + 1, 5, none⟩))) [6, 8, 9, 10] rfl (by kernel_rfl) (by kernel_rfl) (by kernel_rfl) (by kernel_rfl) (fun _ _ _ h => h) (Or.inl ⟨by rfl, fun w' hSw => ?_⟩) (unhide HS0) ?_
      · go_simp
      try simp only [Act.put, List.setIfInBounds_toArray, List.set_cons_zero, List.set_cons_succ]
      refine anyG_takel (i := 6) (v := (.slice (some ⟨ub, uo, none⟩) e.args.length d)) [8, 9, 10] rfl (by kernel_rfl) (by kernel_rfl) (by kernel_rfl) (by kernel_rfl) (fun _ _ _ h => h) (Or.inl ⟨by rfl, fun w' hSw => ?_⟩) (unhide HS0) ?_
      · have e5 := clater (unhide HT5) hSw; go_simp
      try simp only [Act.put, List.setIfInBounds_toArray, List.set_cons_zero, List.set_cons_succ]
      refine anyG_takel (i := 7) (v := (.int .i64 (k : Int))) [8, 9, 10] rfl (by kernel_rfl) (by kernel_rfl) (by kernel_rfl) (by kernel_rfl) (fun _ _ _ h => h) (Or.inl ⟨by rfl, fun w' hSw => ?_⟩) (unhide HS0) ?_
      · go_simp
      try simp only [Act.put, List.setIfInBounds_toArray, List.set_cons_zero, List.set_cons_succ]
      refine anyG_takel (i := 8) (v := (.pointer (some ⟨ub, uo + k * 6, none⟩))) [9, 10] rfl (by kernel_rfl) (by kernel_rfl) (by kernel_rfl) (by kernel_rfl) (fun _ _ _ h => h) (Or.inl ⟨by rfl, fun w' hSw => ?_⟩) (unhide HS0) ?_
      · go_simp
      try simp only [Act.put, List.setIfInBounds_toArray, List.set_cons_zero, List.set_cons_succ]
      refine anyG_takel (i := 9) (v := (.agg #[.int .i64 x.op, .int .i64 x.n, .int .i64 x.v.k, .int .i64 x.v.n, .string x.v.s, .slice b' x.args.length d'])) [10] rfl (by kernel_rfl) (by kernel_rfl) (by kernel_rfl) (by kernel_rfl) (fun _ _ _ h => h) (Or.inl ⟨by rfl, fun w' hSw => ?_⟩) (unhide HS0) ?_
      · obtain ⟨d0, d1, d2, d3, d4, d5⟩ := unhide HG; have e0 := clater d0 hSw; have e1 := clater d1 hSw; have e2 := clater d2 hSw; have e3 := clater d3 hSw; have e4 := clater d4 hSw; have e5 := clater d5 hSw; clear d0 d1 d2 d3 d4 d5; go_simp
      try simp only [Act.put, List.setIfInBounds_toArray, List.set_cons_zero, List.set_cons_succ]
      refine anyG_one (i := 10) (by kernel_rfl) ?_
      refine wpOp_lit rfl (by rfl) fun K' hK' => ?_
      go_simp
      refine (unhide HC _ (unhide HS0)).mono ?_
      rintro r w3 ⟨rfl, hb3⟩
      go_simp
      have HB3 := hide (below_step (unhide HI) (below_step (unhide HS0) hb3))
      refine unhide hK' _ _ ⟨fun hh => absurd hh (by decide), ?_⟩
      clear hK' K'
      refine anyG_one (i := 11) (by kernel_rfl) ?_
      refine wpOp_lit rfl (by rfl) fun K' hK' => ?_
      go_simp
      refine unhide hK' _ _ ⟨fun hh => absurd hh (by decide), ?_⟩
      clear hK' K'
      refine anyG_done (by kernel_rfl) ?_ _
      refine NoPanic.normal ?_
      go_wp2
      exact ⟨⟨k + 1, by omega, by go_num, HB3⟩, by simp [intOf]; omega⟩
    · have h9 : ¬ (k : Int) < (e.args.length : Int) := by omega
      go_wp2
      refine bodyPost_ret (v := .bool true) (by simp [results, Try.results9, go_sem]) rfl ⟨rfl, below_step (unhide HBA) (unhide HI)⟩
/-- tallyref.SameExpr (9): what is one expression, wherever it lies, is the same. -/
theorem same_all : ∀ (n : Nat) (e : Ex), e.size ≤ n → e.short → ∀ (a b : Option Addr) (c d : Nat) (w : World), Ex.all w a e.args → Ex.all w b e.args → Calls Try.prog 9 #[e.val a c, e.val b d] w fun r w' => r = .returned (.bool true) ∧ Below w.heap.size w w'
  | 0, e, hs, _, _, _, _, _, _, _, _ => by rw [Ex.size_mk] at hs; omega
  | n + 1, e, hs, hf, a, b, c, d, w, ha, hb => same_step e hf a b c d w ha hb fun i x hx a' b' c' d' W hW hW' => same_all n x (by have := Ex.size_arg hx; omega) (Ex.short_arg hf hx) a' b' c' d' W hW hW'
theorem rsame_any (e : Ex) (hs : e.short) (a b : Option Addr) (c d : Nat) (w : World) (ha : Ex.all w a e.args) (hb : Ex.all w b e.args) : Calls Try.prog 9 #[e.val a c, e.val b d] w fun r w' => r = .returned (.bool true) ∧ Below w.heap.size w w' := same_all e.size e (Nat.le_refl _) hs a b c d w ha hb
end Go.Proofs.Ytfnacpkodfhfoac

import Derived.Test.YtmagpdblacgneaaGreatSpF
import Derived.Test.YtmagpdblacgneaaGreatPaI
set_option linter.unusedSimpArgs false
set_option linter.unusedVariables false
set_option maxRecDepth 100000
namespace Go.Proofs.YtmagpdblacgneaaGreat
open Go.RowKit Go.Sort

set_option maxHeartbeats 1000000 in
set_option maxRecDepth 100000 in
theorem same_step (e : Ex) (hs : e.short) (a b : Option Addr) (c d : Nat) (w : World) (ha : Ex.all w a e.args) (hb : Ex.all w b e.args)
    (IH : ∀ (i : Nat) (x : Ex), e.args[i]? = some x → ∀ (a b : Option Addr) (c d : Nat) (W : World), Ex.all W a x.args → Ex.all W b x.args → Calls Tryz.prog 13 #[x.val a c, x.val b d] W fun r w' => r = .returned (.bool true) ∧ Below W.heap.size W w') :
    Calls Tryz.prog 13 #[e.val a c, e.val b d] w fun r w' => r = .returned (.bool true) ∧ Below w.heap.size w w' := by
  have hl := (Ex.short_open hs).1
  have HIH := hide IH
  have HA := hide ha
  have HB := hide hb
  clear IH ha hb hs
  have hsz : (w.alloc (.cells #[.int .i64 e.op, .int .i64 e.n, .int .i64 e.v.k, .int .i64 e.v.n, .string e.v.s, .slice a e.args.length c] 26)).heap.size = w.heap.size + 1 := by simp [go_sem]
  obtain ⟨wa, hwa⟩ : ∃ wa, wa = (w.alloc (.cells #[.int .i64 e.op, .int .i64 e.n, .int .i64 e.v.k, .int .i64 e.v.n, .string e.v.s, .slice a e.args.length c] 26)).alloc (.cells #[.int .i64 e.op, .int .i64 e.n, .int .i64 e.v.k, .int .i64 e.v.n, .string e.v.s, .slice b e.args.length d] 26) := ⟨_, rfl⟩
  have HBA : Hid (Below w.heap.size w wa) := by rw [hwa]; exact below_alloc (below_alloc (Below.refl _ w) _) _
  have HSA : Hid (Six wa w.heap.size e a c) := by rw [hwa]; exact (Six.new w e a c).later (below_alloc (Below.refl _ _) _)
  have HSB : Hid (Six wa (w.heap.size + 1) e b d) := by
    have h := Six.new (w.alloc (.cells #[.int .i64 e.op, .int .i64 e.n, .int .i64 e.v.k, .int .i64 e.v.n, .string e.v.s, .slice a e.args.length c] 26)) e b d
    rw [hsz] at h
    rw [hwa]
    exact h
  rw [Ex.val_open, Ex.val_open]
  clear hsz
  go_enter Tryz.func13, Tryz.ntmps13
  go_upto_region 1 with fail
  rw [← hwa]
  clear hwa
  obtain ⟨s0, s1, s2, s3, s4, s5⟩ := unhide HSA
  obtain ⟨t0, t1, t2, t3, t4, t5⟩ := unhide HSB
  go_upto_region 4 with fail
  clear s0 s1 s2 s3 s4 s5 t0 t1 t2 t3 t4 t5
  go_loopw [37] (fun i wr => ∃ k : Nat, k ≤ e.args.length ∧ i = .int .i64 (k : Int) ∧ Hid (Below wa.heap.size wa wr)) (fun i _ => e.args.length - (intOf i).toNat)
  case atStart => exact ⟨0, Nat.zero_le _, rfl, Below.refl _ _⟩
  case round =>
    obtain ⟨k, hk, rfl, HI⟩ := hrel
    by_cases hlt : k < e.args.length
    · have h9 : (k : Int) < (e.args.length : Int) := by omega
      obtain ⟨x, hx⟩ : ∃ x, e.args[k]? = some x := ⟨_, List.getElem?_eq_getElem hlt⟩
      have hBW := below_step (unhide HBA) (unhide HI)
      obtain ⟨vb, vo, ea, hat⟩ := Ex.all_get (Ex.all_later _ (unhide HA) hBW) hx
      obtain ⟨a', c', ⟨d0, d1, d2, d3, d4, d5⟩, hal⟩ := Ex.at_open hat
      obtain ⟨ub, uo, eb, hbt⟩ := Ex.all_get (Ex.all_later _ (unhide HB) hBW) hx
      obtain ⟨b', d', ⟨g0, g1, g2, g3, g4, g5⟩, hbl⟩ := Ex.at_open hbt
      have HC := hide (fun (W : World) (hW : Below wr.heap.size wr W) => unhide HIH k x hx a' b' c' d' W (Ex.all_later _ hal hW) (Ex.all_later _ hbl hW))
      rw [Ex.val_open, Ex.val_open] at HC
      have s5 := ((unhide HSA).later (unhide HI)).2.2.2.2.2
      have t5 := ((unhide HSB).later (unhide HI)).2.2.2.2.2
      subst ea eb
      clear hx hat hbt hal hbl hBW HIH HA HB
      go_upto_region 6 with fail
      have HD := hide (And.intro d0 (And.intro d1 (And.intro d2 (And.intro d3 (And.intro d4 d5)))))
      have HG := hide (And.intro g0 (And.intro g1 (And.intro g2 (And.intro g3 (And.intro g4 g5)))))
      have HS5 := hide s5
      have HT5 := hide t5
      clear d0 d1 d2 d3 d4 d5 g0 g1 g2 g3 g4 g5 s5 t5
      have hl9 : (k : Int) < 1000000000 := by omega
      have HS0 := hide ((Below.refl wr.heap.size wr).drew)
      refine wp_region_noPanic ?_
      refine wp_region_G (S := fun w' : World => Below wr.heap.size wr w') (k := 10) (by kernel_rfl) ?_
      refine anyG_takel (i := 0) (v := (.pointer (some ⟨w.heap.size, 5, none⟩))) [1, 3, 4, 10] rfl (by kernel_rfl) (by kernel_rfl) (by kernel_rfl) (by kernel_rfl) (fun _ _ _ h => h) (Or.inl ⟨by rfl, fun w' hSw => ?_⟩) (unhide HS0) ?_
      · go_simp
      try simp only [Act.put, List.setIfInBounds_toArray, List.set_cons_zero, List.set_cons_succ]
      refine anyG_takel (i := 1) (v := (.slice (some ⟨vb, vo, none⟩) e.args.length c)) [3, 4, 10] rfl (by kernel_rfl) (by kernel_rfl) (by kernel_rfl) (by kernel_rfl) (fun _ _ _ h => h) (Or.inl ⟨by rfl, fun w' hSw => ?_⟩) (unhide HS0) ?_
      · have e5 := clater (unhide HS5) hSw; go_simp
      try simp only [Act.put, List.setIfInBounds_toArray, List.set_cons_zero, List.set_cons_succ]
      refine anyG_takel (i := 2) (v := (.int .i64 (k : Int))) [3, 4, 10] rfl (by kernel_rfl) (by kernel_rfl) (by kernel_rfl) (by kernel_rfl) (fun _ _ _ h => h) (Or.inl ⟨by rfl, fun w' hSw => ?_⟩) (unhide HS0) ?_
      · go_simp
      try simp only [Act.put, List.setIfInBounds_toArray, List.set_cons_zero, List.set_cons_succ]
      refine anyG_takel (i := 3) (v := (.pointer (some ⟨vb, vo + k * 6, none⟩))) [4, 10] rfl (by kernel_rfl) (by kernel_rfl) (by kernel_rfl) (by kernel_rfl) (fun _ _ _ h => h) (Or.inl ⟨by rfl, fun w' hSw => ?_⟩) (unhide HS0) ?_
      · go_simp
      try simp only [Act.put, List.setIfInBounds_toArray, List.set_cons_zero, List.set_cons_succ]
      refine anyG_takel (i := 4) (v := (.agg #[.int .i64 x.op, .int .i64 x.n, .int .i64 x.v.k, .int .i64 x.v.n, .string x.v.s, .slice a' x.args.length c'])) [10] rfl (by kernel_rfl) (by kernel_rfl) (by kernel_rfl) (by kernel_rfl) (fun _ _ _ h => h) (Or.inl ⟨by rfl, fun w' hSw => ?_⟩) (unhide HS0) ?_
      · obtain ⟨d0, d1, d2, d3, d4, d5⟩ := unhide HD; have e0 := clater d0 hSw; have e1 := clater d1 hSw; have e2 := clater d2 hSw; have e3 := clater d3 hSw; have e4 := clater d4 hSw; have e5 := clater d5 hSw; clear d0 d1 d2 d3 d4 d5; go_simp
      try simp only [Act.put, List.setIfInBounds_toArray, List.set_cons_zero, List.set_cons_succ]
      refine anyG_takel (i := 5) (v := (.pointer (some ⟨w.heap.size + 1, 5, none⟩))) [6, 8, 9, 10] rfl (by kernel_rfl) (by kernel_rfl) (by kernel_rfl) (by kernel_rfl) (fun _ _ _ h => h) (Or.inl ⟨by rfl, fun w' hSw => ?_⟩) (unhide HS0) ?_
      · go_simp
      try simp only [Act.put, List.setIfInBounds_toArray, List.set_cons_zero, List.set_cons_succ]
      refine anyG_takel (i := 6) (v := (.slice (some ⟨ub, uo, none⟩) e.args.length d)) [8, 9, 10] rfl (by kernel_rfl) (by kernel_rfl) (by kernel_rfl) (by kernel_rfl) (fun _ _ _ h => h) (Or.inl ⟨by rfl, fun w' hSw => ?_⟩) (unhide HS0) ?_
      · have e5 := clater (unhide HT5) hSw; go_simp
      try simp only [Act.put, List.setIfInBounds_toArray, List.set_cons_zero, List.set_cons_succ]
      refine anyG_takel (i := 7) (v := (.int .i64 (k : Int))) [8, 9, 10] rfl (by kernel_rfl) (by kernel_rfl) (by kernel_rfl) (by kernel_rfl) (fun _ _ _ h => h) (Or.inl ⟨by rfl, fun w' hSw => ?_⟩) (unhide HS0) ?_
      · go_simp
      try simp only [Act.put, List.setIfInBounds_toArray, List.set_cons_zero, List.set_cons_succ]
      refine anyG_takel (i := 8) (v := (.pointer (some ⟨ub, uo + k * 6, none⟩))) [9, 10] rfl (by kernel_rfl) (by kernel_rfl) (by kernel_rfl) (by kernel_rfl) (fun _ _ _ h => h) (Or.inl ⟨by rfl, fun w' hSw => ?_⟩) (unhide HS0) ?_
      · go_simp
      try simp only [Act.put, List.setIfInBounds_toArray, List.set_cons_zero, List.set_cons_succ]
      refine anyG_takel (i := 9) (v := (.agg #[.int .i64 x.op, .int .i64 x.n, .int .i64 x.v.k, .int .i64 x.v.n, .string x.v.s, .slice b' x.args.length d'])) [10] rfl (by kernel_rfl) (by kernel_rfl) (by kernel_rfl) (by kernel_rfl) (fun _ _ _ h => h) (Or.inl ⟨by rfl, fun w' hSw => ?_⟩) (unhide HS0) ?_
      · obtain ⟨d0, d1, d2, d3, d4, d5⟩ := unhide HG; have e0 := clater d0 hSw; have e1 := clater d1 hSw; have e2 := clater d2 hSw; have e3 := clater d3 hSw; have e4 := clater d4 hSw; have e5 := clater d5 hSw; clear d0 d1 d2 d3 d4 d5; go_simp
      try simp only [Act.put, List.setIfInBounds_toArray, List.set_cons_zero, List.set_cons_succ]
      refine anyG_one (i := 10) (by kernel_rfl) ?_
      refine wpOp_lit rfl (by rfl) fun K' hK' => ?_
      go_simp
      refine (unhide HC _ (unhide HS0)).mono ?_
      rintro r w3 ⟨rfl, hb3⟩
      go_simp
      have HB3 := hide (below_step (unhide HI) (below_step (unhide HS0) hb3))
      refine unhide hK' _ _ ⟨fun hh => absurd hh (by decide), ?_⟩
      clear hK' K'
      refine anyG_one (i := 11) (by kernel_rfl) ?_
      refine wpOp_lit rfl (by rfl) fun K' hK' => ?_
      go_simp
      refine unhide hK' _ _ ⟨fun hh => absurd hh (by decide), ?_⟩
      clear hK' K'
      refine anyG_done (by kernel_rfl) ?_ _
      refine NoPanic.normal ?_
      go_wp2
      exact ⟨⟨k + 1, by omega, by go_num, HB3⟩, by simp [intOf]; omega⟩
    · have h9 : ¬ (k : Int) < (e.args.length : Int) := by omega
      go_wp2
      refine bodyPost_ret (v := .bool true) (by simp [results, Tryz.results13, go_sem]) rfl ⟨rfl, below_step (unhide HBA) (unhide HI)⟩
/-- tallyref.SameExpr (9): what is one expression, wherever it lies, is the same. -/
theorem same_all : ∀ (n : Nat) (e : Ex), e.size ≤ n → e.short → ∀ (a b : Option Addr) (c d : Nat) (w : World), Ex.all w a e.args → Ex.all w b e.args → Calls Tryz.prog 13 #[e.val a c, e.val b d] w fun r w' => r = .returned (.bool true) ∧ Below w.heap.size w w'
  | 0, e, hs, _, _, _, _, _, _, _, _ => by rw [Ex.size_mk] at hs; omega
  | n + 1, e, hs, hf, a, b, c, d, w, ha, hb => same_step e hf a b c d w ha hb fun i x hx a' b' c' d' W hW hW' => same_all n x (by have := Ex.size_arg hx; omega) (Ex.short_arg hf hx) a' b' c' d' W hW hW'
theorem rsame_any (e : Ex) (hs : e.short) (a b : Option Addr) (c d : Nat) (w : World) (ha : Ex.all w a e.args) (hb : Ex.all w b e.args) : Calls Tryz.prog 13 #[e.val a c, e.val b d] w fun r w' => r = .returned (.bool true) ∧ Below w.heap.size w w' := same_all e.size e (Nat.le_refl _) hs a b c d w ha hb
end Go.Proofs.YtmagpdblacgneaaGreat
set_option linter.unusedSimpArgs false
set_option linter.unusedVariables false
set_option maxRecDepth 100000
namespace Go.Proofs.YtmagpdblacgneaaGreat
open Go.RowKit Go.Sort

set_option maxHeartbeats 2000000 in
theorem cpe_step (e : Ex) (a : Option Addr) (c : Nat) (w : World) (ha : Ex.all w a e.args) (IH : ∀ W, Ex.all W a e.args → Calls Tryz.prog 5 #[.slice a e.args.length c] W (CpL e.args W)) : Calls Tryz.prog 4 #[e.val a c] w (CpE e w) := by
  obtain ⟨wa, hwa⟩ : ∃ wa, wa = ((w.alloc (.cells #[.int .i64 e.op, .int .i64 e.n, .int .i64 e.v.k, .int .i64 e.v.n, .string e.v.s, .slice a e.args.length c] 26)).alloc (.cells #[.int .i64 0, .int .i64 0, .int .i64 0, .int .i64 0, .string ⟨#[]⟩, .slice none 0 0] 26)).alloc (.cells #[.int .i64 e.op, .int .i64 e.n, .int .i64 e.v.k, .int .i64 e.v.n, .string e.v.s, .slice a e.args.length c] 26) := ⟨_, rfl⟩
  have HBA : Hid (Below w.heap.size w wa) := by rw [hwa]; exact below_alloc (below_alloc (below_alloc (Below.refl _ w) _) _) _
  have hsa : wa.heap.size = w.heap.size + 3 := by rw [hwa]; simp [go_sem]
  have H6 : Hid (Six wa w.heap.size e a c) := by rw [hwa]; exact (Six.new w e a c).later (below_alloc (below_alloc (Below.refl _ _) _) _)
  have HZ : Hid (Box6 wa (w.heap.size + 1) zeroE none 0) := by
    have h := Box6.new (w.alloc (.cells #[.int .i64 e.op, .int .i64 e.n, .int .i64 e.v.k, .int .i64 e.v.n, .string e.v.s, .slice a e.args.length c] 26)) zeroE none 0
    rw [show (w.alloc (.cells #[.int .i64 e.op, .int .i64 e.n, .int .i64 e.v.k, .int .i64 e.v.n, .string e.v.s, .slice a e.args.length c] 26)).heap.size = w.heap.size + 1 by simp [go_sem]] at h
    rw [hwa]
    exact h.later (below_alloc (Below.refl _ _) _)
  have H3 : Hid (Box6 wa (w.heap.size + 2) e a c) := by
    have h := Box6.new ((w.alloc (.cells #[.int .i64 e.op, .int .i64 e.n, .int .i64 e.v.k, .int .i64 e.v.n, .string e.v.s, .slice a e.args.length c] 26)).alloc (.cells #[.int .i64 0, .int .i64 0, .int .i64 0, .int .i64 0, .string ⟨#[]⟩, .slice none 0 0] 26)) e a c
    rw [show ((w.alloc (.cells #[.int .i64 e.op, .int .i64 e.n, .int .i64 e.v.k, .int .i64 e.v.n, .string e.v.s, .slice a e.args.length c] 26)).alloc (.cells #[.int .i64 0, .int .i64 0, .int .i64 0, .int .i64 0, .string ⟨#[]⟩, .slice none 0 0] 26)).heap.size = w.heap.size + 2 by simp [go_sem]] at h
    rw [hwa]
    exact h
  have HC := hide (IH wa (Ex.all_later _ ha (unhide HBA)))
  rw [Ex.val_open]
  clear ha IH
  go_enter Tryz.func4, Tryz.ntmps4
  go_upto_region 2 with fail
  rw [← hwa]
  clear hwa
  obtain ⟨b0, b1, b2, b3, b4, b5⟩ := unhide H6
  go_wp2_with (go_at_call 5; refine (unhide HC).mono ?_; rintro r w2 ⟨a2, c2, rfl, hK2, hb2⟩; have HK2 := hide hK2; have HB2 := hide hb2; obtain ⟨⟨x0, x1, x2, x3, x4, x5⟩, y0, y1, y2, y3, y4, y5⟩ := (unhide H3).later hb2; obtain ⟨⟨z0, z1, z2, z3, z4, z5⟩, f0, f1, f2, f3, f4, f5⟩ := (unhide HZ).later hb2; clear hK2 hb2 b0 b1 b2 b3 b4 b5)
  have hs2 := (unhide HB2).size
  refine bodyPost_ret (v := e.val a2 c2) (by simp [results, Tryz.results4, go_sem, Ex.val, *]) rfl ⟨a2, c2, rfl, ?_, ?_⟩
  · refine (((unhide HK2).on (((((((Kept.of_low _ _ _ _ ?_).trans (Kept.of_low _ _ _ _ ?_)).trans (Kept.of_low _ _ _ _ ?_)).trans (Kept.of_low _ _ _ _ ?_)).trans (Kept.of_low _ _ _ _ ?_)).trans (Kept.of_low _ _ _ _ ?_)).trans (Kept.of_low _ _ _ _ ?_))).more (by omega)) <;> omega
  · exact put6 ((below_step (unhide HBA) (unhide HB2)).setCell (by show w.heap.size ≤ w.heap.size + 1 + 1; omega) _) (by omega) _ _ _ _ _ _
theorem cpl_all : ∀ (k : Nat) (l : List Ex), Ex.sizes l ≤ k → Ex.sizes l ≤ 2097152 → ∀ (a : Option Addr) (c : Nat) (w : World), Ex.all w a l → Calls Tryz.prog 5 #[.slice a l.length c] w (CpL l w)
  | 0, l, hk, hl, a, c, w, ha => by
    obtain rfl : l = [] := List.eq_nil_of_length_eq_zero (by have := sizes_len l; omega)
    exact cpl_step [] a c w (Nat.zero_le _) ha fun i x hx => by simp at hx
  | k + 1, l, hk, hl, a, c, w, ha => cpl_step l a c w (Nat.le_trans (sizes_len l) hl) ha fun i x hx a' c' W hW =>
    cpe_step x a' c' W hW fun W' hW' => cpl_all k x.args (by have := Ex.size_mem (List.mem_of_getElem? hx); rw [Ex.size_mk] at this; omega) (by have := Ex.size_mem (List.mem_of_getElem? hx); rw [Ex.size_mk] at this; omega) a' c' W' hW'
/-- copiedExprs (5). -/
theorem cpl_any (l : List Ex) (hl : Ex.sizes l ≤ 2097152) (a : Option Addr) (c : Nat) (w : World) (ha : Ex.all w a l) : Calls Tryz.prog 5 #[.slice a l.length c] w (CpL l w) := cpl_all _ l (Nat.le_refl _) hl a c w ha
/-- copiedExpr (4). -/
theorem cpe_any (e : Ex) (hl : e.size ≤ 2097152) (a : Option Addr) (c : Nat) (w : World) (ha : Ex.all w a e.args) : Calls Tryz.prog 4 #[e.val a c] w (CpE e w) := cpe_step e a c w ha fun W hW => cpl_any e.args (by rw [Ex.size_mk] at hl; omega) a c W hW

set_option maxHeartbeats 400000 in
set_option maxRecDepth 100000 in
/-- tallylaw.SameNums (32) of two lists that are one. -/
theorem samenums_one (xs : List Int) (a b : Option Addr) (c d : Nat) (w : World) (hl : xs.length ≤ 140737488355328) (ha : IntsAt w a xs) (hb : IntsAt w b xs) :
    Calls Tryz.prog 15 #[.slice a xs.length c, .slice b xs.length d] w fun r w' => r = .returned (.bool true) ∧ Below w.heap.size w w' := by
  have HA := hide (fun W (hW : Below w.heap.size w W) => ha.later hW)
  have HB := hide (fun W (hW : Below w.heap.size w W) => hb.later hW)
  clear ha hb
  go_enter Tryz.func15, Tryz.ntmps15
  go_wp2
  go_loopw [13] (fun i wr => ∃ k : Nat, k ≤ xs.length ∧ i = .int .i64 (k : Int) ∧ Hid (Below w.heap.size w wr)) (fun i _ => xs.length - (intOf i).toNat)
  case atStart => exact ⟨0, Nat.zero_le _, rfl, Below.refl _ _⟩
  case round =>
    obtain ⟨k, hk, rfl, HBr⟩ := hrel
    by_cases hlt : k < xs.length
    · have h9 : (k : Int) < (xs.length : Int) := by omega
      obtain ⟨x, hx⟩ : ∃ x, xs[k]? = some x := ⟨_, List.getElem?_eq_getElem hlt⟩
      obtain ⟨g, o, ea, d0⟩ := (unhide HA _ (unhide HBr)).get hx
      obtain ⟨g', o', ea', d1⟩ := (unhide HB _ (unhide HBr)).get hx
      subst ea ea'
      clear hx
      have HBd := hide (below_step (unhide HBr) (Below.refl _ wr).drew)
      clear HA HB
      go_upto_region 6 with fail
      go_cut [24] (fun v wx => v = .bool false ∧ Hid (Below w.heap.size w wx))
      case first =>
        go_region_with fail
        all_goals (go_wp2; go_meet; exact ⟨rfl, unhide HBd⟩)
      case rest =>
        obtain ⟨rfl, HB2⟩ := hcut
        go_wp2
        exact ⟨⟨k + 1, by omega, by go_num, unhide HB2⟩, by simp [intOf]; omega⟩
    · have h9 : ¬ (k : Int) < (xs.length : Int) := by omega
      go_wp2
      go_ret
      exact ⟨rfl, unhide HBr⟩
/-- What SameExpr (40) answers of an expression and itself. -/
def SameC (x : Ex) : Prop := ∀ (a a' : Option Addr) (c c' : Nat) (W : World), Ex.all W a x.args → Ex.all W a' x.args → Calls Tryz.prog 40 #[x.val a c, x.val a' c'] W fun r w' => r = .returned (.bool true) ∧ Below W.heap.size W w'
set_option maxHeartbeats 1000000 in
set_option maxRecDepth 100000 in
/-- tallylaw.SameExprs (35) of two lists that are one. -/
theorem sameexprs_one (xs : List Ex) (hs : ∀ x ∈ xs, x.short) (a b : Option Addr) (c d : Nat) (w : World) (hl : xs.length ≤ 140737488355328) (ha : Ex.all w a xs) (hb : Ex.all w b xs) :
    Calls Tryz.prog 14 #[.slice a xs.length c, .slice b xs.length d] w fun r w' => r = .returned (.bool true) ∧ Below w.heap.size w w' := by
  have HA := hide (fun W (hW : Below w.heap.size w W) => Ex.all_later _ ha hW)
  have HB := hide (fun W (hW : Below w.heap.size w W) => Ex.all_later _ hb hW)
  have HS := hide hs
  clear ha hb hs
  go_enter Tryz.func14, Tryz.ntmps14
  go_wp2
  go_loopw [13] (fun i wr => ∃ k : Nat, k ≤ xs.length ∧ i = .int .i64 (k : Int) ∧ Hid (Below w.heap.size w wr)) (fun i _ => xs.length - (intOf i).toNat)
  case atStart => exact ⟨0, Nat.zero_le _, rfl, Below.refl _ _⟩
  case round =>
    obtain ⟨k, hk, rfl, HBr⟩ := hrel
    by_cases hlt : k < xs.length
    · have h9 : (k : Int) < (xs.length : Int) := by omega
      obtain ⟨x, hx⟩ : ∃ x, xs[k]? = some x := ⟨_, List.getElem?_eq_getElem hlt⟩
      obtain ⟨g, o, ea, hat⟩ := Ex.all_get (unhide HA _ (unhide HBr)) hx
      obtain ⟨a1, c1, ⟨d0, d1, d2, d3, d4, d5⟩, hal⟩ := Ex.at_open hat
      obtain ⟨g', o', ea', hat'⟩ := Ex.all_get (unhide HB _ (unhide HBr)) hx
      obtain ⟨a2, c2, ⟨e0, e1, e2, e3, e4, e5⟩, hal'⟩ := Ex.at_open hat'
      have HC := hide (rsame_any x (unhide HS x (List.mem_of_getElem? hx)) a1 a2 c1 c2 wr.drew (Ex.all_later _ hal (Below.refl _ _).drew) (Ex.all_later _ hal' (Below.refl _ _).drew))
      rw [Ex.val_open, Ex.val_open] at HC
      have HBd := hide (below_step (unhide HBr) (Below.refl _ wr).drew)
      subst ea ea'
      clear hx hat hat' hal hal' HS HA HB
      go_upto_region 6 with fail
      go_cut [25] (fun v wx => v = .bool false ∧ Hid (Below w.heap.size w wx))
      case first =>
        go_region_with (go_at_call 13; refine (unhide HC).mono ?_; rintro r w1 ⟨rfl, hb1⟩)
        all_goals (go_wp2; go_meet; exact ⟨rfl, below_step (unhide HBd) hb1⟩)
      case rest =>
        obtain ⟨rfl, HB2⟩ := hcut
        go_wp2
        exact ⟨⟨k + 1, by omega, by go_num, unhide HB2⟩, by simp [intOf]; omega⟩
    · have h9 : ¬ (k : Int) < (xs.length : Int) := by omega
      go_wp2
      go_ret
      exact ⟨rfl, unhide HBr⟩
end Go.Proofs.YtmagpdblacgneaaGreat

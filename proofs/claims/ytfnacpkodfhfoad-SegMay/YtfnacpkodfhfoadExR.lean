import Derived.Test.YtfnacpkodfhfoadExP
import Derived.Laws.EntriesVeiled
set_option linter.unusedSimpArgs false
set_option linter.unusedVariables false
namespace Go.Proofs.Ytfnacpkodfhfoad
open Go.RowKit Go.Sort

set_option maxHeartbeats 1000000 in
set_option maxRecDepth 100000 in
/-- ready (15) where there is one part. -/
theorem ready1 (e x : Ex) (hx : e.args = [x]) (hxf : x.fin) (a : Option Addr) (c : Nat) (w : World) (ha : Ex.all w a e.args)
    (IH : ∀ (a' : Option Addr) (c' : Nat) (W : World), Ex.all W a' x.args → Calls Try.prog 28 #[x.val a' c'] W fun r w' => ∃ F, r = .returned F ∧ WorkK W.heap.size [] w' F x ∧ Below W.heap.size W w') :
    Calls Try.prog 28 #[e.val a c] w fun r w' => ∃ F, r = .returned F ∧ WorkK w.heap.size [] w' F e ∧ Below w.heap.size w w' := by
  have hmf : ∀ (fn : Fn) (first cap : Array Value) (w : World), (Instr.makeFunc fn first cap).run Try.prog w = .ok (.func fn first cap) w := fun _ _ _ _ => rfl
  have hln : e.args.length = 1 := by rw [hx]; rfl
  have hBa := below_alloc (Below.refl _ w) (.cells #[.int .i64 e.op, .int .i64 e.n, .int .i64 e.v.k, .int .i64 e.v.n, .string e.v.s, .slice a 1 c] 26)
  have h6 : Six (w.alloc (.cells #[.int .i64 e.op, .int .i64 e.n, .int .i64 e.v.k, .int .i64 e.v.n, .string e.v.s, .slice a e.args.length c] 26)) w.heap.size e a c := Six.new w e a c
  rw [hln] at h6
  obtain ⟨vb, vo, ea, hx0⟩ := Ex.all_get (i := 0) (e := x) (Ex.all_later _ ha hBa) (by rw [hx]; rfl)
  obtain ⟨a1, cc1, ⟨d0, d1, d2, d3, d4, d5⟩, hal1⟩ := Ex.at_open hx0
  rw [Nat.zero_mul, Nat.add_zero] at d0 d1 d2 d3 d4 d5
  obtain ⟨c0, c1, c2, c3, c4, c5⟩ := h6
  rw [hln] at c5
  subst ea
  rw [Ex.val_open, hln]
  have HEV : Hid (∀ row, evalE row e = oneV e.op (evalE row x)) := fun row => by rw [evalE_eq, hx]; rfl
  clear hx0 ha hx hln
  go_enter Try.func28, Try.ntmps28
  go_upto_region 5 with fail
  obtain ⟨wa, hwa⟩ : ∃ wa, wa = w.alloc (.cells #[.int .i64 e.op, .int .i64 e.n, .int .i64 e.v.k, .int .i64 e.v.n, .string e.v.s, .slice (some ⟨vb, vo, none⟩) 1 c] 26) := ⟨_, rfl⟩
  rw [← hwa] at hBa hal1 c0 c1 c2 c3 c4 c5 d0 d1 d2 d3 d4 d5 ⊢
  have hszl : w.heap.size ≤ wa.heap.size := hBa.size
  clear hwa
  have HBA := hide hBa
  have HAL := hide hal1
  have HIH := hide IH
  clear hBa hal1 IH
  go_cut [3, 4] (fun p q wx => ∃ B1 B2 F1 F2, p = .pointer (some ⟨B1, 0, none⟩) ∧ q = .pointer (some ⟨B2, 0, none⟩) ∧ Hid (w.heap.size ≤ B1 ∧ w.heap.size ≤ B2 ∧ Box1 wx B1 F1 ∧ Box1 wx B2 F2 ∧ (∀ W, Fun1 W F1 (oneV e.op)) ∧ WorkK w.heap.size [] wx F2 x ∧ Below w.heap.size w wx))
  case first =>
    refine wp_region_noPanic ?_
    refine wp_region_G (S := fun w' : World => Below wa.heap.size wa w') (k := 10) (by kernel_rfl) ?_
    refine anyG_takel (i := 0) (v := (.pointer (some ⟨w.heap.size, 0, none⟩))) [1, 2, 10, 11] rfl (by kernel_rfl) (by kernel_rfl) (by kernel_rfl) (by kernel_rfl) (fun _ _ _ h => h) (Or.inl ⟨by rfl, fun w' hSw => ?_⟩) ((Below.refl _ wa).drew) ?_
    · have e0 := clater c0 hSw; have e5 := clater c5 hSw; have f0 := clater d0 hSw; have f1 := clater d1 hSw; have f2 := clater d2 hSw; have f3 := clater d3 hSw; have f4 := clater d4 hSw; have f5 := clater d5 hSw
      clear c0 c1 c2 c3 c4 c5 d0 d1 d2 d3 d4 d5
      go_simp
    try simp only [Act.put, List.setIfInBounds_toArray, List.set_cons_zero, List.set_cons_succ]
    refine anyG_takel (i := 1) (v := (.int .i64 e.op)) [2, 10, 11] rfl (by kernel_rfl) (by kernel_rfl) (by kernel_rfl) (by kernel_rfl) (fun _ _ _ h => h) (Or.inl ⟨by rfl, fun w' hSw => ?_⟩) ((Below.refl _ wa).drew) ?_
    · have e0 := clater c0 hSw; have e5 := clater c5 hSw; have f0 := clater d0 hSw; have f1 := clater d1 hSw; have f2 := clater d2 hSw; have f3 := clater d3 hSw; have f4 := clater d4 hSw; have f5 := clater d5 hSw
      clear c0 c1 c2 c3 c4 c5 d0 d1 d2 d3 d4 d5
      go_simp
    try simp only [Act.put, List.setIfInBounds_toArray, List.set_cons_zero, List.set_cons_succ]
    refine anyG_takel (i := 3) (v := (.pointer (some ⟨w.heap.size, 5, none⟩))) [4, 5, 6, 7, 10, 11] rfl (by kernel_rfl) (by kernel_rfl) (by kernel_rfl) (by kernel_rfl) (fun _ _ _ h => h) (Or.inl ⟨by rfl, fun w' hSw => ?_⟩) ((Below.refl _ wa).drew) ?_
    · have e0 := clater c0 hSw; have e5 := clater c5 hSw; have f0 := clater d0 hSw; have f1 := clater d1 hSw; have f2 := clater d2 hSw; have f3 := clater d3 hSw; have f4 := clater d4 hSw; have f5 := clater d5 hSw
      clear c0 c1 c2 c3 c4 c5 d0 d1 d2 d3 d4 d5
      go_simp
    try simp only [Act.put, List.setIfInBounds_toArray, List.set_cons_zero, List.set_cons_succ]
    refine anyG_takel (i := 4) (v := (.slice (some ⟨vb, vo, none⟩) 1 c)) [5, 6, 7, 10, 11] rfl (by kernel_rfl) (by kernel_rfl) (by kernel_rfl) (by kernel_rfl) (fun _ _ _ h => h) (Or.inl ⟨by rfl, fun w' hSw => ?_⟩) ((Below.refl _ wa).drew) ?_
    · have e0 := clater c0 hSw; have e5 := clater c5 hSw; have f0 := clater d0 hSw; have f1 := clater d1 hSw; have f2 := clater d2 hSw; have f3 := clater d3 hSw; have f4 := clater d4 hSw; have f5 := clater d5 hSw
      clear c0 c1 c2 c3 c4 c5 d0 d1 d2 d3 d4 d5
      go_simp
    try simp only [Act.put, List.setIfInBounds_toArray, List.set_cons_zero, List.set_cons_succ]
    refine anyG_takel (i := 5) (v := (.pointer (some ⟨vb, vo, none⟩))) [6, 7, 10, 11] rfl (by kernel_rfl) (by kernel_rfl) (by kernel_rfl) (by kernel_rfl) (fun _ _ _ h => h) (Or.inl ⟨by rfl, fun w' hSw => ?_⟩) ((Below.refl _ wa).drew) ?_
    · have e0 := clater c0 hSw; have e5 := clater c5 hSw; have f0 := clater d0 hSw; have f1 := clater d1 hSw; have f2 := clater d2 hSw; have f3 := clater d3 hSw; have f4 := clater d4 hSw; have f5 := clater d5 hSw
      clear c0 c1 c2 c3 c4 c5 d0 d1 d2 d3 d4 d5
      go_simp
    try simp only [Act.put, List.setIfInBounds_toArray, List.set_cons_zero, List.set_cons_succ]
    refine anyG_takel (i := 6) (v := (.agg #[.int .i64 x.op, .int .i64 x.n, .int .i64 x.v.k, .int .i64 x.v.n, .string x.v.s, .slice a1 x.args.length cc1])) [7, 10, 11] rfl (by kernel_rfl) (by kernel_rfl) (by kernel_rfl) (by kernel_rfl) (fun _ _ _ h => h) (Or.inl ⟨by rfl, fun w' hSw => ?_⟩) ((Below.refl _ wa).drew) ?_
    · have e0 := clater c0 hSw; have e5 := clater c5 hSw; have f0 := clater d0 hSw; have f1 := clater d1 hSw; have f2 := clater d2 hSw; have f3 := clater d3 hSw; have f4 := clater d4 hSw; have f5 := clater d5 hSw
      clear c0 c1 c2 c3 c4 c5 d0 d1 d2 d3 d4 d5
      go_simp
    try simp only [Act.put, List.setIfInBounds_toArray, List.set_cons_zero, List.set_cons_succ]
    refine lat_any (R0 := fun _ _ _ _ => True) (R1 := fun _ _ _ v => ∀ W, Fun1 W v (oneV e.op)) (R2 := fun lo N w v => WorkK lo N w v x) goes_true (goes_fun1 _) (goes_work x) false w.heap.size wa 1
      (fun t0 t1 t2 p0 p1 p2 => #[.agg #[.int .i64 e.op, .int .i64 e.n, .int .i64 e.v.k, .int .i64 e.v.n, .string e.v.s, .slice (some ⟨vb, vo, none⟩) 1 c], .pointer (some ⟨w.heap.size, 0, none⟩), .nilFunc, p0, p1, undef, undef, undef, undef, undef, undef, .pointer (some ⟨w.heap.size, 5, none⟩), .slice (some ⟨vb, vo, none⟩) 1 c, .int .i64 1, .bool false, .bool false, undef, undef, .bool true, .bool true, .pointer (some ⟨w.heap.size, 0, none⟩), .int .i64 e.op, t1, .pointer (some ⟨w.heap.size, 5, none⟩), .slice (some ⟨vb, vo, none⟩) 1 c, .pointer (some ⟨vb, vo, none⟩), .agg #[.int .i64 x.op, .int .i64 x.n, .int .i64 x.v.k, .int .i64 x.v.n, .string x.v.s, .slice a1 x.args.length cc1], t2, undef, undef, undef, undef, undef, undef, undef, undef, undef, undef, undef, undef, undef, undef, undef, undef, undef, undef, undef, undef, undef, undef, undef, undef, undef, undef, undef, undef, undef, undef, undef, undef, undef]) (fun d b0 b1 _ => #[true, true, decide (2 ≤ d), true, true, true, true, decide (3 ≤ d), b0, b1, false, false]) (fun d b0 b1 _ => (3 - d) + (if b0 then 0 else 1) + (if b1 then 0 else 1) + 2) (fun d => if d = 1 then 2 else 7) 8 9 100 68 56 0
      (fun w' h => h) ?ok (fun h => absurd h (by decide)) ?c1 ?c2 ?a0 ?a1 (fun h => absurd h (by decide)) ?fin (d := 1) (b0 := false) (b1 := false) (b2 := true) (t0 := undef) (t1 := undef) (t2 := undef) (p0 := undef) (p1 := undef) (p2 := undef) (N := []) (by decide) (by decide) (by decide) ?lat ?hf ?hL ?ha
    case ok =>
      intro d b0 b1 b2 h1 h2 h3 h4
      have hd : d = 1 ∨ d = 2 ∨ d = 3 := by omega
      rcases hd with rfl | rfl | rfl <;> cases b0 <;> cases b1 <;> cases b2 <;> first | (exact absurd h3 (by decide)) | (exact absurd h4 (by decide)) | (show stOk _ _ _ _ _ _ _ _ _ _ _ _ = true; clear h1 h2 h3 h4; kernel_rfl)
    case hf => rfl
    case hL => rfl
    case ha => rfl
    case lat =>
      exact ⟨(Below.refl _ wa).drew, hszl, fun b h => absurd h (by simp), fun _ => trivial, fun h => absurd h (by decide), fun h => absurd h (by decide), fun h => absurd h (by decide), fun h => absurd h (by decide), fun _ h => absurd h (by decide), fun h => absurd h (by decide), fun _ _ h => absurd h (by decide), fun _ _ h => absurd h (by decide)⟩
    case c1 =>
      intro t0 t1 t2 p0 p1 p2 w' K hb hK
      refine wpOp_lit rfl (by rfl) fun K' hK' => ?_
      have HS := hide (single_k e.op w')
      clear c0 c1 c2 c3 c4 c5 d0 d1 d2 d3 d4 d5
      go_simp
      refine (unhide HS).mono ?_
      rintro r w1 ⟨⟨F, rfl, hF⟩, rfl⟩
      go_simp
      exact unhide hK' _ _ (hK F _ (Below.refl _ _) hF)
    case c2 =>
      intro t0 t1 t2 p0 p1 p2 w' K hb hK
      refine wpOp_lit rfl (by rfl) fun K' hK' => ?_
      have HS := hide (unhide HIH a1 cc1 w' (Ex.all_later _ (unhide HAL) hb))
      rw [Ex.val_open] at HS
      clear c0 c1 c2 c3 c4 c5 d0 d1 d2 d3 d4 d5
      go_simp
      refine (unhide HS).mono ?_
      rintro r w1 ⟨F, rfl, hF, hb1⟩
      go_simp
      exact unhide hK' _ _ (hK F _ hb1 hF)
    case a0 =>
      intro t0 t1 t2 p0 p1 p2 w' K hK
      refine wpOp_lit rfl (by rfl) fun K' hK' => ?_
      clear c0 c1 c2 c3 c4 c5 d0 d1 d2 d3 d4 d5
      go_simp
      exact unhide hK' _ _ hK
    case a1 =>
      intro t0 t1 t2 p0 p1 p2 w' K hK
      refine wpOp_lit rfl (by rfl) fun K' hK' => ?_
      clear c0 c1 c2 c3 c4 c5 d0 d1 d2 d3 d4 d5
      go_simp
      exact unhide hK' _ _ hK
    case fin =>
      intro t0 t1 t2 p0 p1 p2 N w' h
      obtain ⟨B1, hN1, rfl, x1, y1⟩ := h.q0 rfl
      obtain ⟨B2, hN2, rfl, x2, y2⟩ := h.q1 rfl
      have hne : B1 ≠ B2 := fun he => h.n01 rfl rfl (by rw [he])
      have hne' : B2 ≠ B1 := fun he => hne he.symm
      have HF1 := hide (h.r1 (by decide))
      have HF2 := hide (((h.r2 (by decide)).on (Kept.of_store w' _ 0 t1 hN1)).on (Kept.of_store _ _ 0 t2 hN2))
      have hl1 := h.new B1 hN1
      have hl2 := h.new B2 hN2
      have HBE := hide (((below_step (unhide HBA) h.bel).setCell (p := ⟨B1, 0, none⟩) (by show w.heap.size ≤ B1; omega) t1).setCell (p := ⟨B2, 0, none⟩) (by show w.heap.size ≤ B2; omega) t2)
      have HL := hide (show w.heap.size ≤ B1 ∧ w.heap.size ≤ B2 by omega)
      unfold Box1 at x1 x2
      obtain ⟨n1, k1, ht1, _⟩ := h.r1 (by decide) w'
      obtain ⟨n2, k2, ht2, _⟩ := h.r2 (by decide)
      subst ht1 ht2
      have x3 : (w'.setCell ⟨B1, 0, none⟩ (.func (.func n1) #[] k1)).cell? ⟨B2, 0, none⟩ = some .nilFunc := by simp [go_sem, *]
      have y3 : (w'.setCell ⟨B1, 0, none⟩ (.func (.func n1) #[] k1)).frozen? ⟨B2, 0, none⟩ = false := by simp [go_sem, *]
      have X4 : Hid (Box1 ((w'.setCell ⟨B1, 0, none⟩ (.func (.func n1) #[] k1)).setCell ⟨B2, 0, none⟩ (.func (.func n2) #[] k2)) B1 (.func (.func n1) #[] k1) ∧ Box1 ((w'.setCell ⟨B1, 0, none⟩ (.func (.func n1) #[] k1)).setCell ⟨B2, 0, none⟩ (.func (.func n2) #[] k2)) B2 (.func (.func n2) #[] k2)) := by
        show _ ∧ _
        unfold Box1
        constructor <;> simp [go_sem, *]
      clear h hl1 hl2 hN1 hN2 c0 c1 c2 c3 c4 c5 d0 d1 d2 d3 d4 d5
      dsimp only
      refine anyG_one (i := 10) (by kernel_rfl) ?_
      refine wpOp_lit rfl (by rfl) fun K hK => ?_
      go_simp
      refine unhide hK _ _ ⟨fun hh => absurd hh (by decide), ?_⟩
      clear hK K
      refine anyG_one (i := 11) (by kernel_rfl) ?_
      refine wpOp_lit rfl (by rfl) fun K hK => ?_
      go_simp
      refine unhide hK _ _ ⟨fun hh => absurd hh (by decide), ?_⟩
      clear hK K
      refine anyG_done (by kernel_rfl) ?_ _
      refine NoPanic.normal ?_
      clear x1 x2 x3
      go_wp2
      go_meet
      exact ⟨B1, B2, _, _, rfl, rfl, (unhide HL).1, (unhide HL).2, (unhide X4).1, (unhide X4).2, unhide HF1, (unhide HF2).more (Nat.le_refl _) (by simp), unhide HBE⟩
  case rest =>
    obtain ⟨B1, B2, F1, F2, rfl, rfl, H⟩ := hcut
    clear c0 c1 c2 c3 c4 c5 d0 d1 d2 d3 d4 d5
    go_wp2
    go_ret
    obtain ⟨l1, l2, x1, x2, hF1, hF2, hbe⟩ := unhide H
    refine ⟨_, rfl, ⟨55, _, rfl, ent29, fun W' a' c' row hW hr hv hl => ?_⟩, hbe⟩
    rw [unhide HEV row]
    exact w29 (oneV e.op) hxf (x1.kept hW l1 (by simp)) (x2.kept hW l2 (by simp)) (hF1 W') (hF2.on hW).work a' c' row hr hv hl
end Go.Proofs.Ytfnacpkodfhfoad

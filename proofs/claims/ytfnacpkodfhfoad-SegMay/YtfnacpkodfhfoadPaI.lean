import Derived.Test.YtfnacpkodfhfoadPaE
set_option linter.unusedSimpArgs false
set_option linter.unusedVariables false
namespace Go.Proofs.Ytfnacpkodfhfoad
open Go.RowKit Go.Sort

theorem op_append_nodes {o : Oper} {a : Act} {w : World} {K : Act → World → Prop} {Q : Exit → Act → World → Prop} (s x : Operand) (ho : o.op = .call { callee := .builtin .append, args := #[s, x], argTypes := #[24, 24] })
    (base base2 : Nat) (v : Value) (L1 L2 : List Nd) (hs : a.eval s = v) (hown : OwnE w base v L1) (g2 c2 : Nat) (hx : a.eval x = .slice (some ⟨g2, 0, none⟩) L2.length c2) (hown2 : OwnE w base2 (.slice (some ⟨g2, 0, none⟩) L2.length c2) L2)
    (hl : L1.length + L2.length ≤ 1000000000) (hbase : base ≤ w.heap.size)
    (h : ∀ v' w', OwnE w' base v' (L1 ++ L2) → w.grownBy w' v.ownBlock → (v'.ownBlock = v.ownBlock ∨ v'.ownBlock = some w.heap.size) → K (a.put o.dst v') w') : o.wp Try.prog a w K Q := by
  obtain ⟨i4, hi4, z40, z41, z42⟩ := info_parts info26
  obtain ⟨v', w', hr, h2, h3, h4, h5⟩ := run_append_own_at (P := Try.prog) w base 24 o.type 26 i4 (.agg #[.int .i64 0, .int .i64 0, .int .i64 0, .int .i64 0, .string ⟨#[]⟩, .slice none 0 0]) 6 72 Try.underlying24 hi4 z40 z41 z42 rfl (by decide) v L1.length (L1.flatMap sh) hown ⟨g2, 0, none⟩ L2.length c2 (L2.flatMap sh) (sh_len L2) (World.ownsRow.cells hown2 rfl) (sh_all L2) (by unfold maxLen; omega) (by omega) hbase
  unfold Oper.wp execOp
  simp only [ho, resolve, invoke, builtin, Sem.run_bind, Sem.run_pure, Result.andThen_ok, List.map_toArray, List.map_cons, List.map_nil, hs, hx, hr]
  refine h v' w' ?_ h3 h5
  unfold OwnE
  rw [List.length_append, List.flatMap_append]
  exact h2
/-- Two lists joined: the first one's block grows, or a new one is taken. -/
theorem joined_ok {w wA wB wC wD w3 : World} {e x y : Ex} {v' : Value} {g1 c1 g2 : Nat} {L1 L2 : List Nd} (hA : Below w.heap.size w wA) (hpe : partsE e = partsE x ++ partsE y)
    (m1 : L1.map (·.1) = partsE x) (k1 : ∀ q ∈ L1, ExN wA.heap.size [g1] wB q.2.1 q.1.args) (b1 : Below wA.heap.size wA wB) (o1 : OwnE wB wA.heap.size (.slice (some ⟨g1, 0, none⟩) L1.length c1) L1)
    (hBC : Below wB.heap.size wB wC)
    (m2 : L2.map (·.1) = partsE y) (k2 : ∀ q ∈ L2, ExN wC.heap.size [g2] wD q.2.1 q.1.args) (b2 : Below wC.heap.size wC wD)
    (o3 : OwnE w3 wA.heap.size v' (L1 ++ L2)) (gr : wD.grownBy w3 (some g1)) (hv : v'.ownBlock = some g1 ∨ v'.ownBlock = some wD.heap.size) (hpos : 0 < (L1 ++ L2).length) : PartsK w e (.returned v') w3 := by
  obtain ⟨g1', e1, hg1, hg1B⟩ := o1.some (by
    have : 0 < (partsE x).length := parts_pos x
    rw [← m1, List.length_map] at this
    exact this)
  injection e1 with e1
  injection e1 with e1 _
  subst e1
  obtain ⟨a3, cap3, rfl⟩ := o3.slice
  obtain ⟨g3, rfl, hg3, _⟩ := o3.some hpos
  have sA := hA.size
  have sB := b1.size
  have sC := hBC.size
  have sD := b2.size
  have hv : g3 = g1 ∨ g3 = wD.heap.size := by
    simp only [Value.ownBlock, Option.some.injEq] at hv
    exact hv
  have hb13 : Below wA.heap.size wA w3 := (below_step (below_step b1 hBC) b2).trans (grown_below gr (by omega) (fun g h => by injection h with h; omega))
  refine ⟨g3, cap3, L1 ++ L2, rfl, ?_, by rw [List.map_append, m1, m2, hpe], ?_, below_step hA hb13⟩
  · obtain ⟨h1, h2⟩ := o3
    refine ⟨h1, ?_⟩
    rcases h2 with h2 | ⟨g, cap, cur, q1, q2, q3⟩
    · exact .inl h2
    · exact .inr ⟨g, cap, cur, q1, by omega, q3⟩
  · intro q hq W' hK
    rcases List.mem_append.1 hq with hq | hq
    · refine k1 q hq W' ⟨by have := hK.size; have := gr.size; omega, fun b h1 h2 h3 => ?_⟩
      rw [List.mem_singleton] at h3
      rw [hK.block b (by omega) (by have := gr.size; omega) (by rw [List.mem_singleton]; omega), gr.block b (by omega) (by simp; exact h3), b2.block b (by omega), hBC.block b h2]
    · refine k2 q hq W' ⟨by have := hK.size; have := gr.size; omega, fun b h1 h2 h3 => ?_⟩
      rw [hK.block b (by omega) (by have := gr.size; omega) (by rw [List.mem_singleton]; omega), gr.block b h2 (by simp; omega)]
set_option maxHeartbeats 1000000 in
set_option maxRecDepth 100000 in
theorem parts_and (e : Ex) (hf : e.fin) (h19 : e.op = 19) (hbt : builtE e = true) (x y : Ex) (hxy : e.args = [x, y]) (a : Option Addr) (c : Nat) (w : World) (ha : Ex.all w a e.args)
    (IHx : ∀ (a' : Option Addr) (c' : Nat) (W : World), Ex.all W a' x.args → Calls Try.prog 9 #[x.val a' c'] W (PartsK W x))
    (IHy : ∀ (a' : Option Addr) (c' : Nat) (W : World), Ex.all W a' y.args → Calls Try.prog 9 #[y.val a' c'] W (PartsK W y)) :
    Calls Try.prog 9 #[e.val a c] w (PartsK w e) := by
  have HB := hide (fun (W : World) (hW : Below w.heap.size w W) => built_any e hf a c W (Ex.all_later _ ha hW))
  have HB0 := hide (below_alloc (Below.refl _ w) (.cells #[.int .i64 e.op, .int .i64 e.n, .int .i64 e.v.k, .int .i64 e.v.n, .string e.v.s, .slice a e.args.length c] 26))
  have H6 : Hid (Six (w.alloc (.cells #[.int .i64 e.op, .int .i64 e.n, .int .i64 e.v.k, .int .i64 e.v.n, .string e.v.s, .slice a e.args.length c] 26)) w.heap.size e a c) := Six.new w e a c
  obtain ⟨vb, vo, rfl, hx0⟩ := Ex.all_get ha (i := 0) (e := x) (by rw [hxy]; rfl)
  obtain ⟨vb', vo', ee, hy0⟩ := Ex.all_get ha (i := 1) (e := y) (by rw [hxy]; rfl)
  injection ee with ee
  injection ee with e1 e2
  subst e1 e2
  have HX := hide (fun (W : World) (hW : Below w.heap.size w W) => Ex.at_open (Ex.at_later _ hx0 hW))
  have HY := hide (fun (W : World) (hW : Below w.heap.size w W) => Ex.at_open (Ex.at_later _ hy0 hW))
  have hln : e.args.length = 2 := by rw [hxy]; rfl
  have HPE : Hid (partsE e = partsE x ++ partsE y) := by
    show _ = _
    rw [partsE_eq, h19, hbt, hxy, partsL, partsL, partsL, List.append_nil]
    rfl
  have hpl := parts_400 hbt
  rw [unhide HPE, List.length_append] at hpl
  have HIX := hide IHx
  have HIY := hide IHy
  rw [Ex.val_open] at HB ⊢
  rw [hbt] at HB
  rw [h19, hln] at HB HB0 H6 ⊢
  clear ha IHx IHy hx0 hy0 hxy hbt hf
  go_enter Try.func9, Try.ntmps9
  go_wp2_with (go_at_call 13; refine (unhide HB _ (unhide HB0)).mono ?_; rintro r w1 ⟨rfl, hb1⟩; have hB1 := below_step (unhide HB0) hb1; obtain ⟨b0, b1, b2, b3, b4, b5⟩ := (unhide H6).later hb1)
  obtain ⟨ax, cx, ⟨x0, x1, x2, x3, x4, x5⟩, hax⟩ := unhide HX w1 hB1
  obtain ⟨ay, cy, ⟨y0, y1, y2, y3, y4, y5⟩, hay⟩ := unhide HY w1 hB1
  rw [Nat.zero_mul, Nat.add_zero] at x0 x1 x2 x3 x4 x5
  rw [Nat.one_mul] at y0 y1 y2 y3 y4 y5
  have HAX := hide hax
  have HAY := hide hay
  have HB1 := hide hB1
  rw [hln] at b5
  clear hax hay hB1 hb1 HX HY HB H6 HB0 hln
  go_cut [2] (fun v wx => Hid (PartsK w e (.returned v) wx))
  case first =>
    refine wp_region_noPanic ?_
    refine wp_region_G (S := fun w' : World => Below w1.heap.size w1 w') (k := 11) (by kernel_rfl) ?_
    refine anyG_takel (i := 0) (v := (.pointer (some ⟨w.heap.size, 5, none⟩))) [1, 2, 3, 4, 10, 11] rfl (by kernel_rfl) (by kernel_rfl) (by kernel_rfl) (by kernel_rfl) (fun _ _ _ h => h) (Or.inl ⟨by rfl, fun w' hSw => ?_⟩) ((Below.refl _ w1).drew) ?_
    · have e5 := clater b5 hSw; have f0 := clater x0 hSw; have f1 := clater x1 hSw; have f2 := clater x2 hSw; have f3 := clater x3 hSw; have f4 := clater x4 hSw; have f5 := clater x5 hSw; have f6 := clater y0 hSw; have f7 := clater y1 hSw; have f8 := clater y2 hSw; have f9 := clater y3 hSw; have f10 := clater y4 hSw; have f11 := clater y5 hSw
      clear b0 b1 b2 b3 b4 b5 x0 x1 x2 x3 x4 x5 y0 y1 y2 y3 y4 y5
      go_simp
    try simp only [Act.put, List.setIfInBounds_toArray, List.set_cons_zero, List.set_cons_succ]
    refine anyG_takel (i := 1) (v := (.slice (some ⟨vb, vo, none⟩) 2 c)) [2, 3, 4, 10, 11] rfl (by kernel_rfl) (by kernel_rfl) (by kernel_rfl) (by kernel_rfl) (fun _ _ _ h => h) (Or.inl ⟨by rfl, fun w' hSw => ?_⟩) ((Below.refl _ w1).drew) ?_
    · have e5 := clater b5 hSw; have f0 := clater x0 hSw; have f1 := clater x1 hSw; have f2 := clater x2 hSw; have f3 := clater x3 hSw; have f4 := clater x4 hSw; have f5 := clater x5 hSw; have f6 := clater y0 hSw; have f7 := clater y1 hSw; have f8 := clater y2 hSw; have f9 := clater y3 hSw; have f10 := clater y4 hSw; have f11 := clater y5 hSw
      clear b0 b1 b2 b3 b4 b5 x0 x1 x2 x3 x4 x5 y0 y1 y2 y3 y4 y5
      go_simp
    try simp only [Act.put, List.setIfInBounds_toArray, List.set_cons_zero, List.set_cons_succ]
    refine anyG_takel (i := 2) (v := (.pointer (some ⟨vb, vo, none⟩))) [3, 4, 10, 11] rfl (by kernel_rfl) (by kernel_rfl) (by kernel_rfl) (by kernel_rfl) (fun _ _ _ h => h) (Or.inl ⟨by rfl, fun w' hSw => ?_⟩) ((Below.refl _ w1).drew) ?_
    · have e5 := clater b5 hSw; have f0 := clater x0 hSw; have f1 := clater x1 hSw; have f2 := clater x2 hSw; have f3 := clater x3 hSw; have f4 := clater x4 hSw; have f5 := clater x5 hSw; have f6 := clater y0 hSw; have f7 := clater y1 hSw; have f8 := clater y2 hSw; have f9 := clater y3 hSw; have f10 := clater y4 hSw; have f11 := clater y5 hSw
      clear b0 b1 b2 b3 b4 b5 x0 x1 x2 x3 x4 x5 y0 y1 y2 y3 y4 y5
      go_simp
    try simp only [Act.put, List.setIfInBounds_toArray, List.set_cons_zero, List.set_cons_succ]
    refine anyG_takel (i := 3) (v := (.agg #[.int .i64 x.op, .int .i64 x.n, .int .i64 x.v.k, .int .i64 x.v.n, .string x.v.s, .slice ax x.args.length cx])) [4, 10, 11] rfl (by kernel_rfl) (by kernel_rfl) (by kernel_rfl) (by kernel_rfl) (fun _ _ _ h => h) (Or.inl ⟨by rfl, fun w' hSw => ?_⟩) ((Below.refl _ w1).drew) ?_
    · have e5 := clater b5 hSw; have f0 := clater x0 hSw; have f1 := clater x1 hSw; have f2 := clater x2 hSw; have f3 := clater x3 hSw; have f4 := clater x4 hSw; have f5 := clater x5 hSw; have f6 := clater y0 hSw; have f7 := clater y1 hSw; have f8 := clater y2 hSw; have f9 := clater y3 hSw; have f10 := clater y4 hSw; have f11 := clater y5 hSw
      clear b0 b1 b2 b3 b4 b5 x0 x1 x2 x3 x4 x5 y0 y1 y2 y3 y4 y5
      go_simp
    try simp only [Act.put, List.setIfInBounds_toArray, List.set_cons_zero, List.set_cons_succ]
    refine anyG_takel (i := 5) (v := (.pointer (some ⟨w.heap.size, 5, none⟩))) [6, 7, 8, 9, 10, 11] rfl (by kernel_rfl) (by kernel_rfl) (by kernel_rfl) (by kernel_rfl) (fun _ _ _ h => h) (Or.inl ⟨by rfl, fun w' hSw => ?_⟩) ((Below.refl _ w1).drew) ?_
    · have e5 := clater b5 hSw; have f0 := clater x0 hSw; have f1 := clater x1 hSw; have f2 := clater x2 hSw; have f3 := clater x3 hSw; have f4 := clater x4 hSw; have f5 := clater x5 hSw; have f6 := clater y0 hSw; have f7 := clater y1 hSw; have f8 := clater y2 hSw; have f9 := clater y3 hSw; have f10 := clater y4 hSw; have f11 := clater y5 hSw
      clear b0 b1 b2 b3 b4 b5 x0 x1 x2 x3 x4 x5 y0 y1 y2 y3 y4 y5
      go_simp
    try simp only [Act.put, List.setIfInBounds_toArray, List.set_cons_zero, List.set_cons_succ]
    refine anyG_takel (i := 6) (v := (.slice (some ⟨vb, vo, none⟩) 2 c)) [7, 8, 9, 10, 11] rfl (by kernel_rfl) (by kernel_rfl) (by kernel_rfl) (by kernel_rfl) (fun _ _ _ h => h) (Or.inl ⟨by rfl, fun w' hSw => ?_⟩) ((Below.refl _ w1).drew) ?_
    · have e5 := clater b5 hSw; have f0 := clater x0 hSw; have f1 := clater x1 hSw; have f2 := clater x2 hSw; have f3 := clater x3 hSw; have f4 := clater x4 hSw; have f5 := clater x5 hSw; have f6 := clater y0 hSw; have f7 := clater y1 hSw; have f8 := clater y2 hSw; have f9 := clater y3 hSw; have f10 := clater y4 hSw; have f11 := clater y5 hSw
      clear b0 b1 b2 b3 b4 b5 x0 x1 x2 x3 x4 x5 y0 y1 y2 y3 y4 y5
      go_simp
    try simp only [Act.put, List.setIfInBounds_toArray, List.set_cons_zero, List.set_cons_succ]
    refine anyG_takel (i := 7) (v := (.pointer (some ⟨vb, vo + 6, none⟩))) [8, 9, 10, 11] rfl (by kernel_rfl) (by kernel_rfl) (by kernel_rfl) (by kernel_rfl) (fun _ _ _ h => h) (Or.inl ⟨by rfl, fun w' hSw => ?_⟩) ((Below.refl _ w1).drew) ?_
    · have e5 := clater b5 hSw; have f0 := clater x0 hSw; have f1 := clater x1 hSw; have f2 := clater x2 hSw; have f3 := clater x3 hSw; have f4 := clater x4 hSw; have f5 := clater x5 hSw; have f6 := clater y0 hSw; have f7 := clater y1 hSw; have f8 := clater y2 hSw; have f9 := clater y3 hSw; have f10 := clater y4 hSw; have f11 := clater y5 hSw
      clear b0 b1 b2 b3 b4 b5 x0 x1 x2 x3 x4 x5 y0 y1 y2 y3 y4 y5
      go_simp
    try simp only [Act.put, List.setIfInBounds_toArray, List.set_cons_zero, List.set_cons_succ]
    refine anyG_takel (i := 8) (v := (.agg #[.int .i64 y.op, .int .i64 y.n, .int .i64 y.v.k, .int .i64 y.v.n, .string y.v.s, .slice ay y.args.length cy])) [9, 10, 11] rfl (by kernel_rfl) (by kernel_rfl) (by kernel_rfl) (by kernel_rfl) (fun _ _ _ h => h) (Or.inl ⟨by rfl, fun w' hSw => ?_⟩) ((Below.refl _ w1).drew) ?_
    · have e5 := clater b5 hSw; have f0 := clater x0 hSw; have f1 := clater x1 hSw; have f2 := clater x2 hSw; have f3 := clater x3 hSw; have f4 := clater x4 hSw; have f5 := clater x5 hSw; have f6 := clater y0 hSw; have f7 := clater y1 hSw; have f8 := clater y2 hSw; have f9 := clater y3 hSw; have f10 := clater y4 hSw; have f11 := clater y5 hSw
      clear b0 b1 b2 b3 b4 b5 x0 x1 x2 x3 x4 x5 y0 y1 y2 y3 y4 y5
      go_simp
    try simp only [Act.put, List.setIfInBounds_toArray, List.set_cons_zero, List.set_cons_succ]
    clear b0 b1 b2 b3 b4 b5 x0 x1 x2 x3 x4 x5 y0 y1 y2 y3 y4 y5
    have HCX := hide (unhide HIX ax cx _ (Ex.all_later _ (unhide HAX) ((Below.refl _ w1).drew)))
    rw [Ex.val_open] at HCX
    refine anyG_one (i := 4) (by kernel_rfl) ?_
    refine wpOp_lit rfl (by rfl) fun K' hK' => ?_
    go_simp
    refine (unhide HCX).mono ?_
    rintro r wB ⟨g1, c1, L1, rfl, o1, m1, k1, bb1⟩
    go_simp
    have hS1 : Below w1.heap.size w1 wB := below_step ((Below.refl _ w1).drew) bb1
    have hbg1 : w1.heap.size ≤ g1 := by
      obtain ⟨g', e', h', _⟩ := o1.some (by have := parts_pos x; rw [← m1, List.length_map] at this; exact this)
      injection e' with e'
      injection e' with e' _
      rw [e']
      exact h'
    have HO1 := hide o1
    have HM1 := hide m1
    have HK1 := hide k1
    have HBB1 := hide bb1
    clear HCX o1 m1 k1 bb1
    refine unhide hK' _ _ ⟨fun _ => hS1, ?_⟩
    clear hK' K'
    have HCY := hide (unhide HIY ay cy wB (Ex.all_later _ (unhide HAY) hS1))
    rw [Ex.val_open] at HCY
    refine anyG_one (i := 9) (by kernel_rfl) ?_
    refine wpOp_lit rfl (by rfl) fun K' hK' => ?_
    go_simp
    refine (unhide HCY).mono ?_
    rintro r wD ⟨g2, c2, L2, rfl, o2, m2, k2, bb2⟩
    go_simp
    have hS2 : Below w1.heap.size w1 wD := below_step hS1 bb2
    refine unhide hK' _ _ ⟨fun _ => hS2, ?_⟩
    clear hK' K' HCY
    have hl12 : L1.length + L2.length ≤ 1000000000 := by
      have h1 : L1.length = (partsE x).length := by rw [← unhide HM1, List.length_map]
      have h2 : L2.length = (partsE y).length := by rw [← m2, List.length_map]
      omega
    have hpos : 0 < (L1 ++ L2).length := by
      have h1 : L1.length = (partsE x).length := by rw [← unhide HM1, List.length_map]
      have := parts_pos x
      rw [List.length_append]
      omega
    refine anyG_one (i := 10) (by kernel_rfl) ?_
    refine wpOp_lit rfl (by rfl) fun K' hK' => ?_
    refine op_append_nodes (.tmp 18) (.tmp 23) rfl w1.drew.heap.size wB.heap.size (.slice (some ⟨g1, 0, none⟩) L1.length c1) L1 L2 rfl ((unhide HO1).later bb2) g2 c2 rfl o2 hl12 hS2.size ?_
    intro v3 w3 o3 gr hv
    have hS3 : Below w1.heap.size w1 w3 := hS2.trans (grown_below gr hS2.size (fun g h => by simp [Value.ownBlock] at h; omega))
    refine unhide hK' _ _ ⟨fun _ => hS3, ?_⟩
    clear hK' K'
    have HFIN := hide (joined_ok (w3 := w3) (v' := v3) (below_step (unhide HB1) ((Below.refl _ w1).drew)) (unhide HPE) (unhide HM1) (unhide HK1) (unhide HBB1) (unhide HO1) (Below.refl _ wB) m2 k2 bb2 o3 gr hv hpos)
    clear o2 m2 k2 bb2 o3 gr hv hpos hl12
    simp only [Act.put, List.setIfInBounds_toArray, List.set_cons_zero, List.set_cons_succ]
    refine anyG_one (i := 11) (by kernel_rfl) ?_
    refine wpOp_lit rfl (by rfl) fun K' hK' => ?_
    go_simp
    refine unhide hK' _ _ ⟨fun hh => absurd hh (by decide), ?_⟩
    clear hK' K'
    refine anyG_done (by kernel_rfl) ?_ _
    refine NoPanic.normal ?_
    go_wp2
    go_meet
    exact HFIN
  case rest =>
    go_wp2
    go_ret
    exact unhide hcut
theorem parts_built : ∀ (k : Nat) (e : Ex), e.size ≤ k → e.fin → builtE e = true → ∀ (a : Option Addr) (c : Nat) (w : World), Ex.all w a e.args → Calls Try.prog 9 #[e.val a c] w (PartsK w e)
  | 0, e, hs, _, _, _, _, _, _ => by rw [Ex.size_mk] at hs; omega
  | k + 1, e, hs, hf, hb, a, c, w, ha => by
    by_cases h19 : e.op = 19
    · obtain ⟨x, y, hxy⟩ := two_args (built_good hb) (by rw [h19]; decide)
      have h0 : e.args[0]? = some x := by rw [hxy]; rfl
      have h1 : e.args[1]? = some y := by rw [hxy]; rfl
      have s0 := Ex.size_arg h0
      have s1 := Ex.size_arg h1
      exact parts_and e hf h19 hb x y hxy a c w ha (fun a' c' W hW => parts_built k x (by omega) (Ex.fin_arg hf h0) (built_arg hb h0) a' c' W hW) (fun a' c' W hW => parts_built k y (by omega) (Ex.fin_arg hf h1) (built_arg hb h1) a' c' W hW)
    · have hp : partsE e = [copyT e] := by
        rw [partsE_eq, if_neg]
        simp [h19]
      exact (parts_leaf e hf hp (.inl h19) a c w ha).mono fun r w' h => h.2 hb
/-- Parts (9). -/
theorem parts_any (e : Ex) (hf : e.fin) (a : Option Addr) (c : Nat) (w : World) (ha : Ex.all w a e.args) : Calls Try.prog 9 #[e.val a c] w (PartsOk w e) := by
  by_cases hb : builtE e = true
  · exact (parts_built e.size e (Nat.le_refl _) hf hb a c w ha).mono fun r w' h => h.ok
  · have hb : builtE e = false := by simpa using hb
    have hp : partsE e = [copyT e] := by
      rw [partsE_eq, if_neg]
      simp [hb]
    exact (parts_leaf e hf hp (.inr hb) a c w ha).mono fun r w' h => h.1
end Go.Proofs.Ytfnacpkodfhfoad

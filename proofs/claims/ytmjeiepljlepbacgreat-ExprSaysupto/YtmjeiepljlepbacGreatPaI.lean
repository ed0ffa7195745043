import Derived.Test.YtmjeiepljlepbacGreatPaH
import Derived.Test.YtmjeiepljlepbacGreatRmM
import Derived.Test.YtmjeiepljlepbacGreatRmF
import Derived.Test.YtmjeiepljlepbacGreatFdA
import Derived.Test.YtmjeiepljlepbacGreatEvE
set_option linter.unusedSimpArgs false
set_option linter.unusedVariables false
set_option maxRecDepth 100000
namespace Go.Proofs.YtmjeiepljlepbacGreat
open Go.RowKit Go.Sort

theorem op_append_nodes {o : Oper} {a : Act} {w : World} {K : Act → World → Prop} {Q : Exit → Act → World → Prop} (s x : Operand) (ho : o.op = .call { callee := .builtin .append, args := #[s, x], argTypes := #[57, 57] })
    (base base2 : Nat) (v : Value) (L1 L2 : List Nd) (hs : a.eval s = v) (hown : OwnE w base v L1) (g2 c2 : Nat) (hx : a.eval x = .slice (some ⟨g2, 0, none⟩) L2.length c2) (hown2 : OwnE w base2 (.slice (some ⟨g2, 0, none⟩) L2.length c2) L2)
    (hl : L1.length + L2.length ≤ 1000000000) (hbase : base ≤ w.heap.size)
    (h : ∀ v' w', OwnE w' base v' (L1 ++ L2) → w.grownBy w' v.ownBlock → (v'.ownBlock = v.ownBlock ∨ v'.ownBlock = some w.heap.size) → K (a.put o.dst v') w') : o.wp Tryz.prog a w K Q := by
  obtain ⟨i4, hi4, z40, z41, z42⟩ := info_parts info26
  obtain ⟨v', w', hr, h2, h3, h4, h5⟩ := run_append_own_at (P := Tryz.prog) w base 57 o.type 59 i4 (.agg #[.int .i64 0, .int .i64 0, .int .i64 0, .int .i64 0, .string ⟨#[]⟩, .slice none 0 0]) 6 72 Tryz.underlying57 hi4 z40 z41 z42 rfl (by decide) v L1.length (L1.flatMap sh) hown ⟨g2, 0, none⟩ L2.length c2 (L2.flatMap sh) (sh_len L2) (World.ownsRow.cells hown2 rfl) (sh_all L2) (by unfold maxLen; omega) (by omega) hbase
  unfold Oper.wp execOp
  simp only [ho, resolve, invoke, builtin, Sem.run_bind, Sem.run_pure, Result.andThen_ok, List.map_toArray, List.map_cons, List.map_nil, hs, hx, hr]
  refine h v' w' ?_ h3 h5
  unfold OwnE
  rw [List.length_append, List.flatMap_append]
  exact h2
/-- Two lists joined: the first one's block grows, or a new one is taken. -/
theorem joined_ok {w wA wB wC wD w3 : World} {e x y : Ex} {v' : Value} {g1 c1 g2 : Nat} {L1 L2 : List Nd} (hA : Below w.heap.size w wA) (hpe : partsE e = partsE x ++ partsE y)
    (m1 : L1.map (·.1) = partsE x) (k1 : ∀ q ∈ L1, ExN wA.heap.size [g1] wB q.2.1 q.1.args) (b1 : Below wA.heap.size wA wB) (o1 : OwnE wB wA.heap.size (.slice (some ⟨g1, 0, none⟩) L1.length c1) L1)
    (hBC : Below wB.heap.size wB wC)
    (m2 : L2.map (·.1) = partsE y) (k2 : ∀ q ∈ L2, ExN wC.heap.size [g2] wD q.2.1 q.1.args) (b2 : Below wC.heap.size wC wD)
    (o3 : OwnE w3 wA.heap.size v' (L1 ++ L2)) (gr : wD.grownBy w3 (some g1)) (hv : v'.ownBlock = some g1 ∨ v'.ownBlock = some wD.heap.size) (hpos : 0 < (L1 ++ L2).length) : PartsK w e (.returned v') w3 := by
  obtain ⟨g1', e1, hg1, hg1B⟩ := o1.some (by
    have : 0 < (partsE x).length := parts_pos x
    rw [← m1, List.length_map] at this
    exact this)
  injection e1 with e1
  injection e1 with e1 _
  subst e1
  obtain ⟨a3, cap3, rfl⟩ := o3.slice
  obtain ⟨g3, rfl, hg3, _⟩ := o3.some hpos
  have sA := hA.size
  have sB := b1.size
  have sC := hBC.size
  have sD := b2.size
  have hv : g3 = g1 ∨ g3 = wD.heap.size := by
    simp only [Value.ownBlock, Option.some.injEq] at hv
    exact hv
  have hb13 : Below wA.heap.size wA w3 := (below_step (below_step b1 hBC) b2).trans (grown_below gr (by omega) (fun g h => by injection h with h; omega))
  refine ⟨g3, cap3, L1 ++ L2, rfl, ?_, by rw [List.map_append, m1, m2, hpe], ?_, below_step hA hb13⟩
  · obtain ⟨h1, h2⟩ := o3
    refine ⟨h1, ?_⟩
    rcases h2 with h2 | ⟨g, cap, cur, q1, q2, q3⟩
    · exact .inl h2
    · exact .inr ⟨g, cap, cur, q1, by omega, q3⟩
  · intro q hq W' hK
    rcases List.mem_append.1 hq with hq | hq
    · refine k1 q hq W' ⟨by have := hK.size; have := gr.size; omega, fun b h1 h2 h3 => ?_⟩
      rw [List.mem_singleton] at h3
      rw [hK.block b (by omega) (by have := gr.size; omega) (by rw [List.mem_singleton]; omega), gr.block b (by omega) (by simp; exact h3), b2.block b (by omega), hBC.block b h2]
    · refine k2 q hq W' ⟨by have := hK.size; have := gr.size; omega, fun b h1 h2 h3 => ?_⟩
      rw [hK.block b (by omega) (by have := gr.size; omega) (by rw [List.mem_singleton]; omega), gr.block b h2 (by simp; omega)]
set_option maxHeartbeats 1000000 in
set_option maxRecDepth 100000 in
theorem parts_and (e : Ex) (hf : e.fin) (h19 : e.op = 19) (hbt : builtE e = true) (x y : Ex) (hxy : e.args = [x, y]) (a : Option Addr) (c : Nat) (w : World) (ha : Ex.all w a e.args)
    (IHx : ∀ (a' : Option Addr) (c' : Nat) (W : World), Ex.all W a' x.args → Calls Tryz.prog 36 #[x.val a' c'] W (PartsK W x))
    (IHy : ∀ (a' : Option Addr) (c' : Nat) (W : World), Ex.all W a' y.args → Calls Tryz.prog 36 #[y.val a' c'] W (PartsK W y)) :
    Calls Tryz.prog 36 #[e.val a c] w (PartsK w e) := by
  have HB := hide (fun (W : World) (hW : Below w.heap.size w W) => built_any e hf a c W (Ex.all_later _ ha hW))
  have HB0 := hide (below_alloc (Below.refl _ w) (.cells #[.int .i64 e.op, .int .i64 e.n, .int .i64 e.v.k, .int .i64 e.v.n, .string e.v.s, .slice a e.args.length c] 59))
  have H6 : Hid (Six (w.alloc (.cells #[.int .i64 e.op, .int .i64 e.n, .int .i64 e.v.k, .int .i64 e.v.n, .string e.v.s, .slice a e.args.length c] 59)) w.heap.size e a c) := Six.new w e a c
  obtain ⟨vb, vo, rfl, hx0⟩ := Ex.all_get ha (i := 0) (e := x) (by rw [hxy]; rfl)
  obtain ⟨vb', vo', ee, hy0⟩ := Ex.all_get ha (i := 1) (e := y) (by rw [hxy]; rfl)
  injection ee with ee
  injection ee with e1 e2
  subst e1 e2
  have HX := hide (fun (W : World) (hW : Below w.heap.size w W) => Ex.at_open (Ex.at_later _ hx0 hW))
  have HY := hide (fun (W : World) (hW : Below w.heap.size w W) => Ex.at_open (Ex.at_later _ hy0 hW))
  have hln : e.args.length = 2 := by rw [hxy]; rfl
  have HPE : Hid (partsE e = partsE x ++ partsE y) := by
    show _ = _
    rw [partsE_eq, h19, hbt, hxy, partsL, partsL, partsL, List.append_nil]
    rfl
  have hpl := parts_400 hbt
  rw [unhide HPE, List.length_append] at hpl
  have HIX := hide IHx
  have HIY := hide IHy
  rw [Ex.val_open] at HB ⊢
  rw [hbt] at HB
  rw [h19, hln] at HB HB0 H6 ⊢
  clear ha IHx IHy hx0 hy0 hxy hbt hf
  go_enter Tryz.func36, Tryz.ntmps36
  go_wp2_with (go_at_call 64; refine (unhide HB _ (unhide HB0)).mono ?_; rintro r w1 ⟨rfl, hb1⟩; have hB1 := below_step (unhide HB0) hb1; obtain ⟨b0, b1, b2, b3, b4, b5⟩ := (unhide H6).later hb1)
  obtain ⟨ax, cx, ⟨x0, x1, x2, x3, x4, x5⟩, hax⟩ := unhide HX w1 hB1
  obtain ⟨ay, cy, ⟨y0, y1, y2, y3, y4, y5⟩, hay⟩ := unhide HY w1 hB1
  rw [Nat.zero_mul, Nat.add_zero] at x0 x1 x2 x3 x4 x5
  rw [Nat.one_mul] at y0 y1 y2 y3 y4 y5
  have HAX := hide hax
  have HAY := hide hay
  have HB1 := hide hB1
  rw [hln] at b5
  clear hax hay hB1 hb1 HX HY HB H6 HB0 hln
  go_cut [2] (fun v wx => Hid (PartsK w e (.returned v) wx))
  case first =>
    refine wp_region_noPanic ?_
    refine wp_region_G (S := fun w' : World => Below w1.heap.size w1 w') (k := 11) (by kernel_rfl) ?_
    refine anyG_takel (i := 0) (v := (.pointer (some ⟨w.heap.size, 5, none⟩))) [1, 2, 3, 4, 10, 11] rfl (by kernel_rfl) (by kernel_rfl) (by kernel_rfl) (by kernel_rfl) (fun _ _ _ h => h) (Or.inl ⟨by rfl, fun w' hSw => ?_⟩) ((Below.refl _ w1).drew) ?_
    · have e5 := clater b5 hSw; have f0 := clater x0 hSw; have f1 := clater x1 hSw; have f2 := clater x2 hSw; have f3 := clater x3 hSw; have f4 := clater x4 hSw; have f5 := clater x5 hSw; have f6 := clater y0 hSw; have f7 := clater y1 hSw; have f8 := clater y2 hSw; have f9 := clater y3 hSw; have f10 := clater y4 hSw; have f11 := clater y5 hSw
      clear b0 b1 b2 b3 b4 b5 x0 x1 x2 x3 x4 x5 y0 y1 y2 y3 y4 y5
      go_simp
    try simp only [Act.put, List.setIfInBounds_toArray, List.set_cons_zero, List.set_cons_succ]
    refine anyG_takel (i := 1) (v := (.slice (some ⟨vb, vo, none⟩) 2 c)) [2, 3, 4, 10, 11] rfl (by kernel_rfl) (by kernel_rfl) (by kernel_rfl) (by kernel_rfl) (fun _ _ _ h => h) (Or.inl ⟨by rfl, fun w' hSw => ?_⟩) ((Below.refl _ w1).drew) ?_
    · have e5 := clater b5 hSw; have f0 := clater x0 hSw; have f1 := clater x1 hSw; have f2 := clater x2 hSw; have f3 := clater x3 hSw; have f4 := clater x4 hSw; have f5 := clater x5 hSw; have f6 := clater y0 hSw; have f7 := clater y1 hSw; have f8 := clater y2 hSw; have f9 := clater y3 hSw; have f10 := clater y4 hSw; have f11 := clater y5 hSw
      clear b0 b1 b2 b3 b4 b5 x0 x1 x2 x3 x4 x5 y0 y1 y2 y3 y4 y5
      go_simp
    try simp only [Act.put, List.setIfInBounds_toArray, List.set_cons_zero, List.set_cons_succ]
    refine anyG_takel (i := 2) (v := (.pointer (some ⟨vb, vo, none⟩))) [3, 4, 10, 11] rfl (by kernel_rfl) (by kernel_rfl) (by kernel_rfl) (by kernel_rfl) (fun _ _ _ h => h) (Or.inl ⟨by rfl, fun w' hSw => ?_⟩) ((Below.refl _ w1).drew) ?_
    · have e5 := clater b5 hSw; have f0 := clater x0 hSw; have f1 := clater x1 hSw; have f2 := clater x2 hSw; have f3 := clater x3 hSw; have f4 := clater x4 hSw; have f5 := clater x5 hSw; have f6 := clater y0 hSw; have f7 := clater y1 hSw; have f8 := clater y2 hSw; have f9 := clater y3 hSw; have f10 := clater y4 hSw; have f11 := clater y5 hSw
      clear b0 b1 b2 b3 b4 b5 x0 x1 x2 x3 x4 x5 y0 y1 y2 y3 y4 y5
      go_simp
    try simp only [Act.put, List.setIfInBounds_toArray, List.set_cons_zero, List.set_cons_succ]
    refine anyG_takel (i := 3) (v := (.agg #[.int .i64 x.op, .int .i64 x.n, .int .i64 x.v.k, .int .i64 x.v.n, .string x.v.s, .slice ax x.args.length cx])) [4, 10, 11] rfl (by kernel_rfl) (by kernel_rfl) (by kernel_rfl) (by kernel_rfl) (fun _ _ _ h => h) (Or.inl ⟨by rfl, fun w' hSw => ?_⟩) ((Below.refl _ w1).drew) ?_
    · have e5 := clater b5 hSw; have f0 := clater x0 hSw; have f1 := clater x1 hSw; have f2 := clater x2 hSw; have f3 := clater x3 hSw; have f4 := clater x4 hSw; have f5 := clater x5 hSw; have f6 := clater y0 hSw; have f7 := clater y1 hSw; have f8 := clater y2 hSw; have f9 := clater y3 hSw; have f10 := clater y4 hSw; have f11 := clater y5 hSw
      clear b0 b1 b2 b3 b4 b5 x0 x1 x2 x3 x4 x5 y0 y1 y2 y3 y4 y5
      go_simp
    try simp only [Act.put, List.setIfInBounds_toArray, List.set_cons_zero, List.set_cons_succ]
    refine anyG_takel (i := 5) (v := (.pointer (some ⟨w.heap.size, 5, none⟩))) [6, 7, 8, 9, 10, 11] rfl (by kernel_rfl) (by kernel_rfl) (by kernel_rfl) (by kernel_rfl) (fun _ _ _ h => h) (Or.inl ⟨by rfl, fun w' hSw => ?_⟩) ((Below.refl _ w1).drew) ?_
    · have e5 := clater b5 hSw; have f0 := clater x0 hSw; have f1 := clater x1 hSw; have f2 := clater x2 hSw; have f3 := clater x3 hSw; have f4 := clater x4 hSw; have f5 := clater x5 hSw; have f6 := clater y0 hSw; have f7 := clater y1 hSw; have f8 := clater y2 hSw; have f9 := clater y3 hSw; have f10 := clater y4 hSw; have f11 := clater y5 hSw
      clear b0 b1 b2 b3 b4 b5 x0 x1 x2 x3 x4 x5 y0 y1 y2 y3 y4 y5
      go_simp
    try simp only [Act.put, List.setIfInBounds_toArray, List.set_cons_zero, List.set_cons_succ]
    refine anyG_takel (i := 6) (v := (.slice (some ⟨vb, vo, none⟩) 2 c)) [7, 8, 9, 10, 11] rfl (by kernel_rfl) (by kernel_rfl) (by kernel_rfl) (by kernel_rfl) (fun _ _ _ h => h) (Or.inl ⟨by rfl, fun w' hSw => ?_⟩) ((Below.refl _ w1).drew) ?_
    · have e5 := clater b5 hSw; have f0 := clater x0 hSw; have f1 := clater x1 hSw; have f2 := clater x2 hSw; have f3 := clater x3 hSw; have f4 := clater x4 hSw; have f5 := clater x5 hSw; have f6 := clater y0 hSw; have f7 := clater y1 hSw; have f8 := clater y2 hSw; have f9 := clater y3 hSw; have f10 := clater y4 hSw; have f11 := clater y5 hSw
      clear b0 b1 b2 b3 b4 b5 x0 x1 x2 x3 x4 x5 y0 y1 y2 y3 y4 y5
      go_simp
    try simp only [Act.put, List.setIfInBounds_toArray, List.set_cons_zero, List.set_cons_succ]
    refine anyG_takel (i := 7) (v := (.pointer (some ⟨vb, vo + 6, none⟩))) [8, 9, 10, 11] rfl (by kernel_rfl) (by kernel_rfl) (by kernel_rfl) (by kernel_rfl) (fun _ _ _ h => h) (Or.inl ⟨by rfl, fun w' hSw => ?_⟩) ((Below.refl _ w1).drew) ?_
    · have e5 := clater b5 hSw; have f0 := clater x0 hSw; have f1 := clater x1 hSw; have f2 := clater x2 hSw; have f3 := clater x3 hSw; have f4 := clater x4 hSw; have f5 := clater x5 hSw; have f6 := clater y0 hSw; have f7 := clater y1 hSw; have f8 := clater y2 hSw; have f9 := clater y3 hSw; have f10 := clater y4 hSw; have f11 := clater y5 hSw
      clear b0 b1 b2 b3 b4 b5 x0 x1 x2 x3 x4 x5 y0 y1 y2 y3 y4 y5
      go_simp
    try simp only [Act.put, List.setIfInBounds_toArray, List.set_cons_zero, List.set_cons_succ]
    refine anyG_takel (i := 8) (v := (.agg #[.int .i64 y.op, .int .i64 y.n, .int .i64 y.v.k, .int .i64 y.v.n, .string y.v.s, .slice ay y.args.length cy])) [9, 10, 11] rfl (by kernel_rfl) (by kernel_rfl) (by kernel_rfl) (by kernel_rfl) (fun _ _ _ h => h) (Or.inl ⟨by rfl, fun w' hSw => ?_⟩) ((Below.refl _ w1).drew) ?_
    · have e5 := clater b5 hSw; have f0 := clater x0 hSw; have f1 := clater x1 hSw; have f2 := clater x2 hSw; have f3 := clater x3 hSw; have f4 := clater x4 hSw; have f5 := clater x5 hSw; have f6 := clater y0 hSw; have f7 := clater y1 hSw; have f8 := clater y2 hSw; have f9 := clater y3 hSw; have f10 := clater y4 hSw; have f11 := clater y5 hSw
      clear b0 b1 b2 b3 b4 b5 x0 x1 x2 x3 x4 x5 y0 y1 y2 y3 y4 y5
      go_simp
    try simp only [Act.put, List.setIfInBounds_toArray, List.set_cons_zero, List.set_cons_succ]
    clear b0 b1 b2 b3 b4 b5 x0 x1 x2 x3 x4 x5 y0 y1 y2 y3 y4 y5
    have HCX := hide (unhide HIX ax cx _ (Ex.all_later _ (unhide HAX) ((Below.refl _ w1).drew)))
    rw [Ex.val_open] at HCX
    refine anyG_one (i := 4) (by kernel_rfl) ?_
    refine wpOp_lit rfl (by rfl) fun K' hK' => ?_
    go_simp
    refine (unhide HCX).mono ?_
    rintro r wB ⟨g1, c1, L1, rfl, o1, m1, k1, bb1⟩
    go_simp
    have hS1 : Below w1.heap.size w1 wB := below_step ((Below.refl _ w1).drew) bb1
    have hbg1 : w1.heap.size ≤ g1 := by
      obtain ⟨g', e', h', _⟩ := o1.some (by have := parts_pos x; rw [← m1, List.length_map] at this; exact this)
      injection e' with e'
      injection e' with e' _
      rw [e']
      exact h'
    have HO1 := hide o1
    have HM1 := hide m1
    have HK1 := hide k1
    have HBB1 := hide bb1
    clear HCX o1 m1 k1 bb1
    refine unhide hK' _ _ ⟨fun _ => hS1, ?_⟩
    clear hK' K'
    have HCY := hide (unhide HIY ay cy wB (Ex.all_later _ (unhide HAY) hS1))
    rw [Ex.val_open] at HCY
    refine anyG_one (i := 9) (by kernel_rfl) ?_
    refine wpOp_lit rfl (by rfl) fun K' hK' => ?_
    go_simp
    refine (unhide HCY).mono ?_
    rintro r wD ⟨g2, c2, L2, rfl, o2, m2, k2, bb2⟩
    go_simp
    have hS2 : Below w1.heap.size w1 wD := below_step hS1 bb2
    refine unhide hK' _ _ ⟨fun _ => hS2, ?_⟩
    clear hK' K' HCY
    have hl12 : L1.length + L2.length ≤ 1000000000 := by
      have h1 : L1.length = (partsE x).length := by rw [← unhide HM1, List.length_map]
      have h2 : L2.length = (partsE y).length := by rw [← m2, List.length_map]
      omega
    have hpos : 0 < (L1 ++ L2).length := by
      have h1 : L1.length = (partsE x).length := by rw [← unhide HM1, List.length_map]
      have := parts_pos x
      rw [List.length_append]
      omega
    refine anyG_one (i := 10) (by kernel_rfl) ?_
    refine wpOp_lit rfl (by rfl) fun K' hK' => ?_
    refine op_append_nodes (.tmp 18) (.tmp 23) rfl w1.drew.heap.size wB.heap.size (.slice (some ⟨g1, 0, none⟩) L1.length c1) L1 L2 rfl ((unhide HO1).later bb2) g2 c2 rfl o2 hl12 hS2.size ?_
    intro v3 w3 o3 gr hv
    have hS3 : Below w1.heap.size w1 w3 := hS2.trans (grown_below gr hS2.size (fun g h => by simp [Value.ownBlock] at h; omega))
    refine unhide hK' _ _ ⟨fun _ => hS3, ?_⟩
    clear hK' K'
    have HFIN := hide (joined_ok (w3 := w3) (v' := v3) (below_step (unhide HB1) ((Below.refl _ w1).drew)) (unhide HPE) (unhide HM1) (unhide HK1) (unhide HBB1) (unhide HO1) (Below.refl _ wB) m2 k2 bb2 o3 gr hv hpos)
    clear o2 m2 k2 bb2 o3 gr hv hpos hl12
    simp only [Act.put, List.setIfInBounds_toArray, List.set_cons_zero, List.set_cons_succ]
    refine anyG_one (i := 11) (by kernel_rfl) ?_
    refine wpOp_lit rfl (by rfl) fun K' hK' => ?_
    go_simp
    refine unhide hK' _ _ ⟨fun hh => absurd hh (by decide), ?_⟩
    clear hK' K'
    refine anyG_done (by kernel_rfl) ?_ _
    refine NoPanic.normal ?_
    go_wp2
    go_meet
    exact HFIN
  case rest =>
    go_wp2
    go_ret
    exact unhide hcut
theorem parts_built : ∀ (k : Nat) (e : Ex), e.size ≤ k → e.fin → builtE e = true → ∀ (a : Option Addr) (c : Nat) (w : World), Ex.all w a e.args → Calls Tryz.prog 36 #[e.val a c] w (PartsK w e)
  | 0, e, hs, _, _, _, _, _, _ => by rw [Ex.size_mk] at hs; omega
  | k + 1, e, hs, hf, hb, a, c, w, ha => by
    by_cases h19 : e.op = 19
    · obtain ⟨x, y, hxy⟩ := two_args (built_good hb) (by rw [h19]; decide)
      have h0 : e.args[0]? = some x := by rw [hxy]; rfl
      have h1 : e.args[1]? = some y := by rw [hxy]; rfl
      have s0 := Ex.size_arg h0
      have s1 := Ex.size_arg h1
      exact parts_and e hf h19 hb x y hxy a c w ha (fun a' c' W hW => parts_built k x (by omega) (Ex.fin_arg hf h0) (built_arg hb h0) a' c' W hW) (fun a' c' W hW => parts_built k y (by omega) (Ex.fin_arg hf h1) (built_arg hb h1) a' c' W hW)
    · have hp : partsE e = [copyT e] := by
        rw [partsE_eq, if_neg]
        simp [h19]
      exact (parts_leaf e hf hp (.inl h19) a c w ha).mono fun r w' h => h.2 hb
/-- Parts (9). -/
theorem parts_any (e : Ex) (hf : e.fin) (a : Option Addr) (c : Nat) (w : World) (ha : Ex.all w a e.args) : Calls Tryz.prog 36 #[e.val a c] w (PartsOk w e) := by
  by_cases hb : builtE e = true
  · exact (parts_built e.size e (Nat.le_refl _) hf hb a c w ha).mono fun r w' h => h.ok
  · have hb : builtE e = false := by simpa using hb
    have hp : partsE e = [copyT e] := by
      rw [partsE_eq, if_neg]
      simp [hb]
    exact (parts_leaf e hf hp (.inr hb) a c w ha).mono fun r w' h => h.1
end Go.Proofs.YtmjeiepljlepbacGreat
set_option linter.unusedSimpArgs false
set_option linter.unusedVariables false
set_option maxRecDepth 100000
namespace Go.Proofs.YtmjeiepljlepbacGreat
open Go.RowKit Go.Sort

set_option maxHeartbeats 1000000 in
set_option maxRecDepth 100000 in
theorem rparts_and (e : Ex) (hf : e.fin) (h19 : e.op = 19) (hbt : builtE e = true) (x y : Ex) (hxy : e.args = [x, y]) (a : Option Addr) (c : Nat) (w : World) (ha : Ex.all w a e.args)
    (IHx : ∀ (a' : Option Addr) (c' : Nat) (W : World), Ex.all W a' x.args → Calls Tryz.prog 37 #[x.val a' c'] W (PartsK W x))
    (IHy : ∀ (a' : Option Addr) (c' : Nat) (W : World), Ex.all W a' y.args → Calls Tryz.prog 37 #[y.val a' c'] W (PartsK W y)) :
    Calls Tryz.prog 37 #[e.val a c] w (PartsK w e) := by
  have HB := hide (fun (W : World) (hW : Below w.heap.size w W) => rbuilt_any e hf a c W (Ex.all_later _ ha hW))
  have HB0 := hide (below_alloc (Below.refl _ w) (.cells #[.int .i64 e.op, .int .i64 e.n, .int .i64 e.v.k, .int .i64 e.v.n, .string e.v.s, .slice a e.args.length c] 59))
  have H6 : Hid (Six (w.alloc (.cells #[.int .i64 e.op, .int .i64 e.n, .int .i64 e.v.k, .int .i64 e.v.n, .string e.v.s, .slice a e.args.length c] 59)) w.heap.size e a c) := Six.new w e a c
  obtain ⟨vb, vo, rfl, hx0⟩ := Ex.all_get ha (i := 0) (e := x) (by rw [hxy]; rfl)
  obtain ⟨vb', vo', ee, hy0⟩ := Ex.all_get ha (i := 1) (e := y) (by rw [hxy]; rfl)
  injection ee with ee
  injection ee with e1 e2
  subst e1 e2
  have HX := hide (fun (W : World) (hW : Below w.heap.size w W) => Ex.at_open (Ex.at_later _ hx0 hW))
  have HY := hide (fun (W : World) (hW : Below w.heap.size w W) => Ex.at_open (Ex.at_later _ hy0 hW))
  have hln : e.args.length = 2 := by rw [hxy]; rfl
  have HPE : Hid (partsE e = partsE x ++ partsE y) := by
    show _ = _
    rw [partsE_eq, h19, hbt, hxy, partsL, partsL, partsL, List.append_nil]
    rfl
  have hpl := parts_400 hbt
  rw [unhide HPE, List.length_append] at hpl
  have H19 := hide h19
  have HIX := hide IHx
  have HIY := hide IHy
  rw [Ex.val_open] at HB ⊢
  rw [hbt] at HB
  rw [h19, hln] at HB HB0 H6 ⊢
  clear ha IHx IHy hx0 hy0 hxy hbt hf h19
  go_enter Tryz.func37, Tryz.ntmps37
  go_wp2_with (go_at_call 69; refine (unhide HB _ (unhide HB0)).mono ?_; rintro r w1 ⟨rfl, hb1⟩; have hB1 := below_step (unhide HB0) hb1; obtain ⟨b0, b1, b2, b3, b4, b5⟩ := (unhide H6).later hb1; rw [unhide H19] at b0)
  obtain ⟨ax, cx, ⟨x0, x1, x2, x3, x4, x5⟩, hax⟩ := unhide HX w1 hB1
  obtain ⟨ay, cy, ⟨y0, y1, y2, y3, y4, y5⟩, hay⟩ := unhide HY w1 hB1
  rw [Nat.zero_mul, Nat.add_zero] at x0 x1 x2 x3 x4 x5
  rw [Nat.one_mul] at y0 y1 y2 y3 y4 y5
  have HAX := hide hax
  have HAY := hide hay
  have HB1 := hide hB1
  rw [hln] at b5
  clear hax hay hB1 hb1 HX HY HB H6 HB0 hln
  go_cut [2] (fun v wx => Hid (PartsK w e (.returned v) wx))
  case first =>
    refine wp_region_noPanic ?_
    refine wp_region_G (S := fun w' : World => Below w1.heap.size w1 w') (k := 11) (by kernel_rfl) ?_
    refine anyG_takel (i := 0) (v := (.pointer (some ⟨w.heap.size, 5, none⟩))) [1, 2, 3, 4, 10, 11] rfl (by kernel_rfl) (by kernel_rfl) (by kernel_rfl) (by kernel_rfl) (fun _ _ _ h => h) (Or.inl ⟨by rfl, fun w' hSw => ?_⟩) ((Below.refl _ w1).drew) ?_
    · have e5 := clater b5 hSw; have f0 := clater x0 hSw; have f1 := clater x1 hSw; have f2 := clater x2 hSw; have f3 := clater x3 hSw; have f4 := clater x4 hSw; have f5 := clater x5 hSw; have f6 := clater y0 hSw; have f7 := clater y1 hSw; have f8 := clater y2 hSw; have f9 := clater y3 hSw; have f10 := clater y4 hSw; have f11 := clater y5 hSw
      clear b0 b1 b2 b3 b4 b5 x0 x1 x2 x3 x4 x5 y0 y1 y2 y3 y4 y5
      go_simp
    try simp only [Act.put, List.setIfInBounds_toArray, List.set_cons_zero, List.set_cons_succ]
    refine anyG_takel (i := 1) (v := (.slice (some ⟨vb, vo, none⟩) 2 c)) [2, 3, 4, 10, 11] rfl (by kernel_rfl) (by kernel_rfl) (by kernel_rfl) (by kernel_rfl) (fun _ _ _ h => h) (Or.inl ⟨by rfl, fun w' hSw => ?_⟩) ((Below.refl _ w1).drew) ?_
    · have e5 := clater b5 hSw; have f0 := clater x0 hSw; have f1 := clater x1 hSw; have f2 := clater x2 hSw; have f3 := clater x3 hSw; have f4 := clater x4 hSw; have f5 := clater x5 hSw; have f6 := clater y0 hSw; have f7 := clater y1 hSw; have f8 := clater y2 hSw; have f9 := clater y3 hSw; have f10 := clater y4 hSw; have f11 := clater y5 hSw
      clear b0 b1 b2 b3 b4 b5 x0 x1 x2 x3 x4 x5 y0 y1 y2 y3 y4 y5
      go_simp
    try simp only [Act.put, List.setIfInBounds_toArray, List.set_cons_zero, List.set_cons_succ]
    refine anyG_takel (i := 2) (v := (.pointer (some ⟨vb, vo, none⟩))) [3, 4, 10, 11] rfl (by kernel_rfl) (by kernel_rfl) (by kernel_rfl) (by kernel_rfl) (fun _ _ _ h => h) (Or.inl ⟨by rfl, fun w' hSw => ?_⟩) ((Below.refl _ w1).drew) ?_
    · have e5 := clater b5 hSw; have f0 := clater x0 hSw; have f1 := clater x1 hSw; have f2 := clater x2 hSw; have f3 := clater x3 hSw; have f4 := clater x4 hSw; have f5 := clater x5 hSw; have f6 := clater y0 hSw; have f7 := clater y1 hSw; have f8 := clater y2 hSw; have f9 := clater y3 hSw; have f10 := clater y4 hSw; have f11 := clater y5 hSw
      clear b0 b1 b2 b3 b4 b5 x0 x1 x2 x3 x4 x5 y0 y1 y2 y3 y4 y5
      go_simp
    try simp only [Act.put, List.setIfInBounds_toArray, List.set_cons_zero, List.set_cons_succ]
    refine anyG_takel (i := 3) (v := (.agg #[.int .i64 x.op, .int .i64 x.n, .int .i64 x.v.k, .int .i64 x.v.n, .string x.v.s, .slice ax x.args.length cx])) [4, 10, 11] rfl (by kernel_rfl) (by kernel_rfl) (by kernel_rfl) (by kernel_rfl) (fun _ _ _ h => h) (Or.inl ⟨by rfl, fun w' hSw => ?_⟩) ((Below.refl _ w1).drew) ?_
    · have e5 := clater b5 hSw; have f0 := clater x0 hSw; have f1 := clater x1 hSw; have f2 := clater x2 hSw; have f3 := clater x3 hSw; have f4 := clater x4 hSw; have f5 := clater x5 hSw; have f6 := clater y0 hSw; have f7 := clater y1 hSw; have f8 := clater y2 hSw; have f9 := clater y3 hSw; have f10 := clater y4 hSw; have f11 := clater y5 hSw
      clear b0 b1 b2 b3 b4 b5 x0 x1 x2 x3 x4 x5 y0 y1 y2 y3 y4 y5
      go_simp
    try simp only [Act.put, List.setIfInBounds_toArray, List.set_cons_zero, List.set_cons_succ]
    refine anyG_takel (i := 5) (v := (.pointer (some ⟨w.heap.size, 5, none⟩))) [6, 7, 8, 9, 10, 11] rfl (by kernel_rfl) (by kernel_rfl) (by kernel_rfl) (by kernel_rfl) (fun _ _ _ h => h) (Or.inl ⟨by rfl, fun w' hSw => ?_⟩) ((Below.refl _ w1).drew) ?_
    · have e5 := clater b5 hSw; have f0 := clater x0 hSw; have f1 := clater x1 hSw; have f2 := clater x2 hSw; have f3 := clater x3 hSw; have f4 := clater x4 hSw; have f5 := clater x5 hSw; have f6 := clater y0 hSw; have f7 := clater y1 hSw; have f8 := clater y2 hSw; have f9 := clater y3 hSw; have f10 := clater y4 hSw; have f11 := clater y5 hSw
      clear b0 b1 b2 b3 b4 b5 x0 x1 x2 x3 x4 x5 y0 y1 y2 y3 y4 y5
      go_simp
    try simp only [Act.put, List.setIfInBounds_toArray, List.set_cons_zero, List.set_cons_succ]
    refine anyG_takel (i := 6) (v := (.slice (some ⟨vb, vo, none⟩) 2 c)) [7, 8, 9, 10, 11] rfl (by kernel_rfl) (by kernel_rfl) (by kernel_rfl) (by kernel_rfl) (fun _ _ _ h => h) (Or.inl ⟨by rfl, fun w' hSw => ?_⟩) ((Below.refl _ w1).drew) ?_
    · have e5 := clater b5 hSw; have f0 := clater x0 hSw; have f1 := clater x1 hSw; have f2 := clater x2 hSw; have f3 := clater x3 hSw; have f4 := clater x4 hSw; have f5 := clater x5 hSw; have f6 := clater y0 hSw; have f7 := clater y1 hSw; have f8 := clater y2 hSw; have f9 := clater y3 hSw; have f10 := clater y4 hSw; have f11 := clater y5 hSw
      clear b0 b1 b2 b3 b4 b5 x0 x1 x2 x3 x4 x5 y0 y1 y2 y3 y4 y5
      go_simp
    try simp only [Act.put, List.setIfInBounds_toArray, List.set_cons_zero, List.set_cons_succ]
    refine anyG_takel (i := 7) (v := (.pointer (some ⟨vb, vo + 6, none⟩))) [8, 9, 10, 11] rfl (by kernel_rfl) (by kernel_rfl) (by kernel_rfl) (by kernel_rfl) (fun _ _ _ h => h) (Or.inl ⟨by rfl, fun w' hSw => ?_⟩) ((Below.refl _ w1).drew) ?_
    · have e5 := clater b5 hSw; have f0 := clater x0 hSw; have f1 := clater x1 hSw; have f2 := clater x2 hSw; have f3 := clater x3 hSw; have f4 := clater x4 hSw; have f5 := clater x5 hSw; have f6 := clater y0 hSw; have f7 := clater y1 hSw; have f8 := clater y2 hSw; have f9 := clater y3 hSw; have f10 := clater y4 hSw; have f11 := clater y5 hSw
      clear b0 b1 b2 b3 b4 b5 x0 x1 x2 x3 x4 x5 y0 y1 y2 y3 y4 y5
      go_simp
    try simp only [Act.put, List.setIfInBounds_toArray, List.set_cons_zero, List.set_cons_succ]
    refine anyG_takel (i := 8) (v := (.agg #[.int .i64 y.op, .int .i64 y.n, .int .i64 y.v.k, .int .i64 y.v.n, .string y.v.s, .slice ay y.args.length cy])) [9, 10, 11] rfl (by kernel_rfl) (by kernel_rfl) (by kernel_rfl) (by kernel_rfl) (fun _ _ _ h => h) (Or.inl ⟨by rfl, fun w' hSw => ?_⟩) ((Below.refl _ w1).drew) ?_
    · have e5 := clater b5 hSw; have f0 := clater x0 hSw; have f1 := clater x1 hSw; have f2 := clater x2 hSw; have f3 := clater x3 hSw; have f4 := clater x4 hSw; have f5 := clater x5 hSw; have f6 := clater y0 hSw; have f7 := clater y1 hSw; have f8 := clater y2 hSw; have f9 := clater y3 hSw; have f10 := clater y4 hSw; have f11 := clater y5 hSw
      clear b0 b1 b2 b3 b4 b5 x0 x1 x2 x3 x4 x5 y0 y1 y2 y3 y4 y5
      go_simp
    try simp only [Act.put, List.setIfInBounds_toArray, List.set_cons_zero, List.set_cons_succ]
    clear b0 b1 b2 b3 b4 b5 x0 x1 x2 x3 x4 x5 y0 y1 y2 y3 y4 y5
    have HCX := hide (unhide HIX ax cx _ (Ex.all_later _ (unhide HAX) ((Below.refl _ w1).drew)))
    rw [Ex.val_open] at HCX
    refine anyG_one (i := 4) (by kernel_rfl) ?_
    refine wpOp_lit rfl (by rfl) fun K' hK' => ?_
    go_simp
    refine (unhide HCX).mono ?_
    rintro r wB ⟨g1, c1, L1, rfl, o1, m1, k1, bb1⟩
    go_simp
    have hS1 : Below w1.heap.size w1 wB := below_step ((Below.refl _ w1).drew) bb1
    have hbg1 : w1.heap.size ≤ g1 := by
      obtain ⟨g', e', h', _⟩ := o1.some (by have := parts_pos x; rw [← m1, List.length_map] at this; exact this)
      injection e' with e'
      injection e' with e' _
      rw [e']
      exact h'
    have HO1 := hide o1
    have HM1 := hide m1
    have HK1 := hide k1
    have HBB1 := hide bb1
    clear HCX o1 m1 k1 bb1
    refine unhide hK' _ _ ⟨fun _ => hS1, ?_⟩
    clear hK' K'
    have HCY := hide (unhide HIY ay cy wB (Ex.all_later _ (unhide HAY) hS1))
    rw [Ex.val_open] at HCY
    refine anyG_one (i := 9) (by kernel_rfl) ?_
    refine wpOp_lit rfl (by rfl) fun K' hK' => ?_
    go_simp
    refine (unhide HCY).mono ?_
    rintro r wD ⟨g2, c2, L2, rfl, o2, m2, k2, bb2⟩
    go_simp
    have hS2 : Below w1.heap.size w1 wD := below_step hS1 bb2
    refine unhide hK' _ _ ⟨fun _ => hS2, ?_⟩
    clear hK' K' HCY
    have hl12 : L1.length + L2.length ≤ 1000000000 := by
      have h1 : L1.length = (partsE x).length := by rw [← unhide HM1, List.length_map]
      have h2 : L2.length = (partsE y).length := by rw [← m2, List.length_map]
      omega
    have hpos : 0 < (L1 ++ L2).length := by
      have h1 : L1.length = (partsE x).length := by rw [← unhide HM1, List.length_map]
      have := parts_pos x
      rw [List.length_append]
      omega
    refine anyG_one (i := 10) (by kernel_rfl) ?_
    refine wpOp_lit rfl (by rfl) fun K' hK' => ?_
    refine op_append_nodes (.tmp 18) (.tmp 23) rfl w1.drew.heap.size wB.heap.size (.slice (some ⟨g1, 0, none⟩) L1.length c1) L1 L2 rfl ((unhide HO1).later bb2) g2 c2 rfl o2 hl12 hS2.size ?_
    intro v3 w3 o3 gr hv
    have hS3 : Below w1.heap.size w1 w3 := hS2.trans (grown_below gr hS2.size (fun g h => by simp [Value.ownBlock] at h; omega))
    refine unhide hK' _ _ ⟨fun _ => hS3, ?_⟩
    clear hK' K'
    have HFIN := hide (joined_ok (w3 := w3) (v' := v3) (below_step (unhide HB1) ((Below.refl _ w1).drew)) (unhide HPE) (unhide HM1) (unhide HK1) (unhide HBB1) (unhide HO1) (Below.refl _ wB) m2 k2 bb2 o3 gr hv hpos)
    clear o2 m2 k2 bb2 o3 gr hv hpos hl12
    simp only [Act.put, List.setIfInBounds_toArray, List.set_cons_zero, List.set_cons_succ]
    refine anyG_one (i := 11) (by kernel_rfl) ?_
    refine wpOp_lit rfl (by rfl) fun K' hK' => ?_
    go_simp
    refine unhide hK' _ _ ⟨fun hh => absurd hh (by decide), ?_⟩
    clear hK' K'
    refine anyG_done (by kernel_rfl) ?_ _
    refine NoPanic.normal ?_
    go_wp2
    go_meet
    exact HFIN
  case rest =>
    go_wp2
    go_ret
    exact unhide hcut
set_option maxHeartbeats 1000000 in
set_option maxRecDepth 100000 in
theorem rparts_leaf (e : Ex) (hf : e.fin) (h19 : ¬ e.op = 19) (hbt : builtE e = true) (a : Option Addr) (c : Nat) (w : World) (ha : Ex.all w a e.args) : Calls Tryz.prog 37 #[e.val a c] w (PartsK w e) := by
  have HB := hide (fun (W : World) (hW : Below w.heap.size w W) => rbuilt_any e hf a c W (Ex.all_later _ ha hW))
  have HC := hide (fun (W : World) (hW : Below w.heap.size w W) => neat_any e (meas_short soundE e 400 40 (by omega) hbt) a c W (Ex.all_later _ ha hW))
  have HB0 := hide (below_alloc (Below.refl _ w) (.cells #[.int .i64 e.op, .int .i64 e.n, .int .i64 e.v.k, .int .i64 e.v.n, .string e.v.s, .slice a e.args.length c] 59))
  have H6 : Hid (Six (w.alloc (.cells #[.int .i64 e.op, .int .i64 e.n, .int .i64 e.v.k, .int .i64 e.v.n, .string e.v.s, .slice a e.args.length c] 59)) w.heap.size e a c) := Six.new w e a c
  have hcT : copyT e = copyE e := by unfold copyT; rw [built_ends hbt]; rfl
  have HP : Hid (partsE e = [copyT e]) := by
    show _ = _
    rw [partsE_eq, if_neg]
    simp [h19]
  have HCT := hide hcT
  have e19 : (e.op != 19) = true := by simpa using h19
  rw [Ex.val_open] at HB HC ⊢
  rw [hbt] at HB
  clear ha hcT hbt hf
  go_enter Tryz.func37, Tryz.ntmps37
  go_wp2_with (first
    | (go_at_call 79; refine (unhide HC w1 hB1).mono ?_; rintro r w2 ⟨a2, c2, rfl, hK2, hb2⟩; rw [Ex.val_open])
    | (go_at_call 69; refine (unhide HB _ (unhide HB0)).mono ?_; rintro r w1 ⟨rfl, hb1⟩; have hB1 := below_step (unhide HB0) hb1; obtain ⟨b0, b1, b2, b3, b4, b5⟩ := (unhide H6).later hb1))
  go_ret
  have h := leaf_k2 (c2 := c2) hB1 hb2 (by rw [unhide HCT]; exact hK2) (unhide HP)
  rw [unhide HCT] at h
  exact h
/-- tallyref.Parts (22), of what is built. -/
theorem rparts_built : ∀ (k : Nat) (e : Ex), e.size ≤ k → e.fin → builtE e = true → ∀ (a : Option Addr) (c : Nat) (w : World), Ex.all w a e.args → Calls Tryz.prog 37 #[e.val a c] w (PartsK w e)
  | 0, e, hs, _, _, _, _, _, _ => by rw [Ex.size_mk] at hs; omega
  | k + 1, e, hs, hf, hb, a, c, w, ha => by
    by_cases h19 : e.op = 19
    · obtain ⟨x, y, hxy⟩ := two_args (built_good hb) (by rw [h19]; decide)
      have h0 : e.args[0]? = some x := by rw [hxy]; rfl
      have h1 : e.args[1]? = some y := by rw [hxy]; rfl
      have := Ex.size_arg h0
      have := Ex.size_arg h1
      exact rparts_and e hf h19 hb x y hxy a c w ha (fun a' c' W hW => rparts_built k x (by omega) (Ex.fin_arg hf h0) (built_arg hb h0) a' c' W hW) (fun a' c' W hW => rparts_built k y (by omega) (Ex.fin_arg hf h1) (built_arg hb h1) a' c' W hW)
    · exact rparts_leaf e hf h19 hb a c w ha
end Go.Proofs.YtmjeiepljlepbacGreat
set_option linter.unusedSimpArgs false
set_option linter.unusedVariables false
set_option maxRecDepth 100000
namespace Go.Proofs.YtmjeiepljlepbacGreat
open Go.RowKit Go.Sort

set_option maxHeartbeats 1000000 in
set_option maxRecDepth 100000 in
theorem same_step (e : Ex) (hs : e.short) (a b : Option Addr) (c d : Nat) (w : World) (ha : Ex.all w a e.args) (hb : Ex.all w b e.args)
    (IH : ∀ (i : Nat) (x : Ex), e.args[i]? = some x → ∀ (a b : Option Addr) (c d : Nat) (W : World), Ex.all W a x.args → Ex.all W b x.args → Calls Tryz.prog 40 #[x.val a c, x.val b d] W fun r w' => r = .returned (.bool true) ∧ Below W.heap.size W w') :
    Calls Tryz.prog 40 #[e.val a c, e.val b d] w fun r w' => r = .returned (.bool true) ∧ Below w.heap.size w w' := by
  have hl := (Ex.short_open hs).1
  have HIH := hide IH
  have HA := hide ha
  have HB := hide hb
  clear IH ha hb hs
  have hsz : (w.alloc (.cells #[.int .i64 e.op, .int .i64 e.n, .int .i64 e.v.k, .int .i64 e.v.n, .string e.v.s, .slice a e.args.length c] 59)).heap.size = w.heap.size + 1 := by simp [go_sem]
  obtain ⟨wa, hwa⟩ : ∃ wa, wa = (w.alloc (.cells #[.int .i64 e.op, .int .i64 e.n, .int .i64 e.v.k, .int .i64 e.v.n, .string e.v.s, .slice a e.args.length c] 59)).alloc (.cells #[.int .i64 e.op, .int .i64 e.n, .int .i64 e.v.k, .int .i64 e.v.n, .string e.v.s, .slice b e.args.length d] 59) := ⟨_, rfl⟩
  have HBA : Hid (Below w.heap.size w wa) := by rw [hwa]; exact below_alloc (below_alloc (Below.refl _ w) _) _
  have HSA : Hid (Six wa w.heap.size e a c) := by rw [hwa]; exact (Six.new w e a c).later (below_alloc (Below.refl _ _) _)
  have HSB : Hid (Six wa (w.heap.size + 1) e b d) := by
    have h := Six.new (w.alloc (.cells #[.int .i64 e.op, .int .i64 e.n, .int .i64 e.v.k, .int .i64 e.v.n, .string e.v.s, .slice a e.args.length c] 59)) e b d
    rw [hsz] at h
    rw [hwa]
    exact h
  rw [Ex.val_open, Ex.val_open]
  clear hsz
  go_enter Tryz.func40, Tryz.ntmps40
  go_upto_region 1 with fail
  rw [← hwa]
  clear hwa
  obtain ⟨s0, s1, s2, s3, s4, s5⟩ := unhide HSA
  obtain ⟨t0, t1, t2, t3, t4, t5⟩ := unhide HSB
  go_upto_region 4 with fail
  clear s0 s1 s2 s3 s4 s5 t0 t1 t2 t3 t4 t5
  go_loopw [37] (fun i wr => ∃ k : Nat, k ≤ e.args.length ∧ i = .int .i64 (k : Int) ∧ Hid (Below wa.heap.size wa wr)) (fun i _ => e.args.length - (intOf i).toNat)
  case atStart => exact ⟨0, Nat.zero_le _, rfl, Below.refl _ _⟩
  case round =>
    obtain ⟨k, hk, rfl, HI⟩ := hrel
    by_cases hlt : k < e.args.length
    · have h9 : (k : Int) < (e.args.length : Int) := by omega
      obtain ⟨x, hx⟩ : ∃ x, e.args[k]? = some x := ⟨_, List.getElem?_eq_getElem hlt⟩
      have hBW := below_step (unhide HBA) (unhide HI)
      obtain ⟨vb, vo, ea, hat⟩ := Ex.all_get (Ex.all_later _ (unhide HA) hBW) hx
      obtain ⟨a', c', ⟨d0, d1, d2, d3, d4, d5⟩, hal⟩ := Ex.at_open hat
      obtain ⟨ub, uo, eb, hbt⟩ := Ex.all_get (Ex.all_later _ (unhide HB) hBW) hx
      obtain ⟨b', d', ⟨g0, g1, g2, g3, g4, g5⟩, hbl⟩ := Ex.at_open hbt
      have HC := hide (fun (W : World) (hW : Below wr.heap.size wr W) => unhide HIH k x hx a' b' c' d' W (Ex.all_later _ hal hW) (Ex.all_later _ hbl hW))
      rw [Ex.val_open, Ex.val_open] at HC
      have s5 := ((unhide HSA).later (unhide HI)).2.2.2.2.2
      have t5 := ((unhide HSB).later (unhide HI)).2.2.2.2.2
      subst ea eb
      clear hx hat hbt hal hbl hBW HIH HA HB
      go_upto_region 6 with fail
      have HD := hide (And.intro d0 (And.intro d1 (And.intro d2 (And.intro d3 (And.intro d4 d5)))))
      have HG := hide (And.intro g0 (And.intro g1 (And.intro g2 (And.intro g3 (And.intro g4 g5)))))
      have HS5 := hide s5
      have HT5 := hide t5
      clear d0 d1 d2 d3 d4 d5 g0 g1 g2 g3 g4 g5 s5 t5
      have hl9 : (k : Int) < 1000000000 := by omega
      have HS0 := hide ((Below.refl wr.heap.size wr).drew)
      refine wp_region_noPanic ?_
      refine wp_region_G (S := fun w' : World => Below wr.heap.size wr w') (k := 10) (by kernel_rfl) ?_
      refine anyG_takel (i := 0) (v := (.pointer (some ⟨w.heap.size, 5, none⟩))) [1, 3, 4, 10] rfl (by kernel_rfl) (by kernel_rfl) (by kernel_rfl) (by kernel_rfl) (fun _ _ _ h => h) (Or.inl ⟨by rfl, fun w' hSw => ?_⟩) (unhide HS0) ?_
      · go_simp
      try simp only [Act.put, List.setIfInBounds_toArray, List.set_cons_zero, List.set_cons_succ]
      refine anyG_takel (i := 1) (v := (.slice (some ⟨vb, vo, none⟩) e.args.length c)) [3, 4, 10] rfl (by kernel_rfl) (by kernel_rfl) (by kernel_rfl) (by kernel_rfl) (fun _ _ _ h => h) (Or.inl ⟨by rfl, fun w' hSw => ?_⟩) (unhide HS0) ?_
      · have e5 := clater (unhide HS5) hSw; go_simp
      try simp only [Act.put, List.setIfInBounds_toArray, List.set_cons_zero, List.set_cons_succ]
      refine anyG_takel (i := 2) (v := (.int .i64 (k : Int))) [3, 4, 10] rfl (by kernel_rfl) (by kernel_rfl) (by kernel_rfl) (by kernel_rfl) (fun _ _ _ h => h) (Or.inl ⟨by rfl, fun w' hSw => ?_⟩) (unhide HS0) ?_
      · go_simp
      try simp only [Act.put, List.setIfInBounds_toArray, List.set_cons_zero, List.set_cons_succ]
      refine anyG_takel (i := 3) (v := (.pointer (some ⟨vb, vo + k * 6, none⟩))) [4, 10] rfl (by kernel_rfl) (by kernel_rfl) (by kernel_rfl) (by kernel_rfl) (fun _ _ _ h => h) (Or.inl ⟨by rfl, fun w' hSw => ?_⟩) (unhide HS0) ?_
      · go_simp
      try simp only [Act.put, List.setIfInBounds_toArray, List.set_cons_zero, List.set_cons_succ]
      refine anyG_takel (i := 4) (v := (.agg #[.int .i64 x.op, .int .i64 x.n, .int .i64 x.v.k, .int .i64 x.v.n, .string x.v.s, .slice a' x.args.length c'])) [10] rfl (by kernel_rfl) (by kernel_rfl) (by kernel_rfl) (by kernel_rfl) (fun _ _ _ h => h) (Or.inl ⟨by rfl, fun w' hSw => ?_⟩) (unhide HS0) ?_
      · obtain ⟨d0, d1, d2, d3, d4, d5⟩ := unhide HD; have e0 := clater d0 hSw; have e1 := clater d1 hSw; have e2 := clater d2 hSw; have e3 := clater d3 hSw; have e4 := clater d4 hSw; have e5 := clater d5 hSw; clear d0 d1 d2 d3 d4 d5; go_simp
      try simp only [Act.put, List.setIfInBounds_toArray, List.set_cons_zero, List.set_cons_succ]
      refine anyG_takel (i := 5) (v := (.pointer (some ⟨w.heap.size + 1, 5, none⟩))) [6, 8, 9, 10] rfl (by kernel_rfl) (by kernel_rfl) (by kernel_rfl) (by kernel_rfl) (fun _ _ _ h => h) (Or.inl ⟨by rfl, fun w' hSw => ?_⟩) (unhide HS0) ?_
      · go_simp
      try simp only [Act.put, List.setIfInBounds_toArray, List.set_cons_zero, List.set_cons_succ]
      refine anyG_takel (i := 6) (v := (.slice (some ⟨ub, uo, none⟩) e.args.length d)) [8, 9, 10] rfl (by kernel_rfl) (by kernel_rfl) (by kernel_rfl) (by kernel_rfl) (fun _ _ _ h => h) (Or.inl ⟨by rfl, fun w' hSw => ?_⟩) (unhide HS0) ?_
      · have e5 := clater (unhide HT5) hSw; go_simp
      try simp only [Act.put, List.setIfInBounds_toArray, List.set_cons_zero, List.set_cons_succ]
      refine anyG_takel (i := 7) (v := (.int .i64 (k : Int))) [8, 9, 10] rfl (by kernel_rfl) (by kernel_rfl) (by kernel_rfl) (by kernel_rfl) (fun _ _ _ h => h) (Or.inl ⟨by rfl, fun w' hSw => ?_⟩) (unhide HS0) ?_
      · go_simp
      try simp only [Act.put, List.setIfInBounds_toArray, List.set_cons_zero, List.set_cons_succ]
      refine anyG_takel (i := 8) (v := (.pointer (some ⟨ub, uo + k * 6, none⟩))) [9, 10] rfl (by kernel_rfl) (by kernel_rfl) (by kernel_rfl) (by kernel_rfl) (fun _ _ _ h => h) (Or.inl ⟨by rfl, fun w' hSw => ?_⟩) (unhide HS0) ?_
      · go_simp
      try simp only [Act.put, List.setIfInBounds_toArray, List.set_cons_zero, List.set_cons_succ]
      refine anyG_takel (i := 9) (v := (.agg #[.int .i64 x.op, .int .i64 x.n, .int .i64 x.v.k, .int .i64 x.v.n, .string x.v.s, .slice b' x.args.length d'])) [10] rfl (by kernel_rfl) (by kernel_rfl) (by kernel_rfl) (by kernel_rfl) (fun _ _ _ h => h) (Or.inl ⟨by rfl, fun w' hSw => ?_⟩) (unhide HS0) ?_
      · obtain ⟨d0, d1, d2, d3, d4, d5⟩ := unhide HG; have e0 := clater d0 hSw; have e1 := clater d1 hSw; have e2 := clater d2 hSw; have e3 := clater d3 hSw; have e4 := clater d4 hSw; have e5 := clater d5 hSw; clear d0 d1 d2 d3 d4 d5; go_simp
      try simp only [Act.put, List.setIfInBounds_toArray, List.set_cons_zero, List.set_cons_succ]
      refine anyG_one (i := 10) (by kernel_rfl) ?_
      refine wpOp_lit rfl (by rfl) fun K' hK' => ?_
      go_simp
      refine (unhide HC _ (unhide HS0)).mono ?_
      rintro r w3 ⟨rfl, hb3⟩
      go_simp
      have HB3 := hide (below_step (unhide HI) (below_step (unhide HS0) hb3))
      refine unhide hK' _ _ ⟨fun hh => absurd hh (by decide), ?_⟩
      clear hK' K'
      refine anyG_one (i := 11) (by kernel_rfl) ?_
      refine wpOp_lit rfl (by rfl) fun K' hK' => ?_
      go_simp
      refine unhide hK' _ _ ⟨fun hh => absurd hh (by decide), ?_⟩
      clear hK' K'
      refine anyG_done (by kernel_rfl) ?_ _
      refine NoPanic.normal ?_
      go_wp2
      exact ⟨⟨k + 1, by omega, by go_num, HB3⟩, by simp [intOf]; omega⟩
    · have h9 : ¬ (k : Int) < (e.args.length : Int) := by omega
      go_wp2
      refine bodyPost_ret (v := .bool true) (by simp [results, Tryz.results40, go_sem]) rfl ⟨rfl, below_step (unhide HBA) (unhide HI)⟩
/-- tallyref.SameExpr (9): what is one expression, wherever it lies, is the same. -/
theorem same_all : ∀ (n : Nat) (e : Ex), e.size ≤ n → e.short → ∀ (a b : Option Addr) (c d : Nat) (w : World), Ex.all w a e.args → Ex.all w b e.args → Calls Tryz.prog 40 #[e.val a c, e.val b d] w fun r w' => r = .returned (.bool true) ∧ Below w.heap.size w w'
  | 0, e, hs, _, _, _, _, _, _, _, _ => by rw [Ex.size_mk] at hs; omega
  | n + 1, e, hs, hf, a, b, c, d, w, ha, hb => same_step e hf a b c d w ha hb fun i x hx a' b' c' d' W hW hW' => same_all n x (by have := Ex.size_arg hx; omega) (Ex.short_arg hf hx) a' b' c' d' W hW hW'
theorem rsame_any (e : Ex) (hs : e.short) (a b : Option Addr) (c d : Nat) (w : World) (ha : Ex.all w a e.args) (hb : Ex.all w b e.args) : Calls Tryz.prog 40 #[e.val a c, e.val b d] w fun r w' => r = .returned (.bool true) ∧ Below w.heap.size w w' := same_all e.size e (Nat.le_refl _) hs a b c d w ha hb
end Go.Proofs.YtmjeiepljlepbacGreat
set_option linter.unusedSimpArgs false
set_option linter.unusedVariables false
namespace Go.Proofs.YtmjeiepljlepbacGreat
open Go.RowKit Go.Sort

/-- What BuiltExpr (69) answers of e. -/
def BuiltC (e : Ex) : Prop := ∀ (a : Option Addr) (c : Nat) (W : World), Ex.all W a e.args → Calls Tryz.prog 69 #[e.val a c] W fun r w' => r = .returned (.bool (builtE e)) ∧ Below W.heap.size W w'
set_option maxHeartbeats 400000 in
set_option maxRecDepth 100000 in
/-- tallyref.Strict (39). -/
theorem rstrict_any (cols : List Int) (e : Ex) (hf : e.fin) (hb : BuiltC e) (hl : cols.length ≤ 140737488355328) (aC : Option Addr) (cC : Nat) (a : Option Addr) (c : Nat) (w : World) (hC : IntsAt w aC cols) (ha : Ex.all w a e.args) :
    Calls Tryz.prog 39 #[e.val a c, .slice aC cols.length cC] w fun r w' => r = .returned (.bool (builtE e && ntE cols e)) ∧ Below w.heap.size w w' := by
  have hBa := below_alloc (Below.refl _ w) (.cells #[.int .i64 e.op, .int .i64 e.n, .int .i64 e.v.k, .int .i64 e.v.n, .string e.v.s, .slice a e.args.length c] 59)
  have H6 : Hid (Six (w.alloc (.cells #[.int .i64 e.op, .int .i64 e.n, .int .i64 e.v.k, .int .i64 e.v.n, .string e.v.s, .slice a e.args.length c] 59)) w.heap.size e a c) := Six.new w e a c
  have HB := hide hBa
  have HX := hide (hb a c (w.alloc (.cells #[.int .i64 e.op, .int .i64 e.n, .int .i64 e.v.k, .int .i64 e.v.n, .string e.v.s, .slice a e.args.length c] 59)) (Ex.all_later _ ha hBa))
  have HY : Hid (builtE e = true → ∀ W, Below w.heap.size w W → Calls Tryz.prog 81 #[e.val a c, .slice aC cols.length cC] W fun r w' => r = .returned (.bool (ntE cols e)) ∧ Below W.heap.size W w') := fun h W hW => nottrue_all cols aC cC hl e.size e (Nat.le_refl _) hf (built_good h) a c W (hC.later hW) (Ex.all_later _ ha hW)
  rw [Ex.val_open] at HX HY ⊢
  obtain ⟨c0, c1, c2, c3, c4, c5⟩ := unhide H6
  generalize ntE cols e = rn at *
  generalize builtE e = rb at *
  clear hBa ha hC hb
  cases rb with
  | false =>
    go_enter Tryz.func39, Tryz.ntmps39
    go_wp2_with (go_at_call 69; refine (unhide HX).mono ?_; rintro r w1 ⟨rfl, hb1⟩)
    go_ret
    exact ⟨rfl, below_one hb1⟩
  | true =>
    have HY1 := hide (unhide HY rfl)
    clear HY
    go_enter Tryz.func39, Tryz.ntmps39
    go_wp2_with (first
      | (go_at_call 81; refine (unhide HY1 _ (unhide HB1)).mono ?_; rintro r w2 ⟨rfl, hb2⟩)
      | (go_at_call 69; refine (unhide HX).mono ?_; rintro r w1 ⟨rfl, hb1⟩; have HB1 := hide (below_step (unhide HB) hb1); obtain ⟨q0, q1, q2, q3, q4, q5⟩ := (unhide H6).later hb1))
    go_ret
    exact ⟨rfl, below_step (unhide HB1) hb2⟩
set_option maxHeartbeats 400000 in
set_option maxRecDepth 100000 in
/-- tallyref.Eval (31). -/
theorem rEval_any (row : List Val) (hv : ∀ x ∈ row, VOk x) (hrl : row.length ≤ 140737488355328) (aR : Option Addr) (cR : Nat) (e : Ex) (hf : e.fin) (hb : BuiltC e) (a : Option Addr) (c : Nat) (w : World) (ha : Ex.all w a e.args) (hr : RowAt w aR row) :
    Calls Tryz.prog 31 #[e.val a c, .slice aR row.length cR] w fun r w' => r = .returned (if builtE e then evalE row e else .null).v ∧ Below w.heap.size w w' := by
  obtain ⟨V, hV⟩ : ∃ V, (if builtE e then evalE row e else .null) = V := ⟨_, rfl⟩
  have HX := hide (fun W (hW : Below w.heap.size w W) => hb a c W (Ex.all_later _ ha hW))
  have HY : Hid (builtE e = true → ∀ W, Below w.heap.size w W → Calls Tryz.prog 73 #[e.val a c, .slice aR row.length cR] W fun r w' => r = .returned V.v ∧ Below W.heap.size W w') := fun h W hW => by
    rw [← hV, h]
    exact reval_any row hv hrl aR cR e hf (built_good h) a c W (Ex.all_later _ ha hW) (hr.later hW)
  have HN : Hid (builtE e = false → ∀ W : World, Calls Tryz.prog 72 #[] W fun r w' => r = .returned V.v ∧ Below W.heap.size W w') := fun h W => by rw [← hV, h]; exact none_any W
  rw [hV]
  rw [Ex.val_open] at HX HY ⊢
  generalize builtE e = rb at *
  obtain ⟨wa, hwa⟩ : ∃ wa, wa = (w.alloc (.cells #[.int .i64 e.op, .int .i64 e.n, .int .i64 e.v.k, .int .i64 e.v.n, .string e.v.s, .slice a e.args.length c] 59)).alloc (.cells #[.int .i64 0, .int .i64 0, .string ⟨#[]⟩] 38) := ⟨_, rfl⟩
  have HBA : Hid (Below w.heap.size w wa) := by rw [hwa]; exact below_alloc (below_alloc (Below.refl _ _) _) _
  have HSX : Hid (Six wa w.heap.size e a c) := by rw [hwa]; exact Six.later (Six.new w e a c) (below_alloc (Below.refl _ _) _)
  have HRB : Hid (RB wa (w.heap.size + 1)) := by rw [hwa]; exact ⟨⟨by simp [go_sem], by simp [go_sem], by simp [go_sem]⟩, by simp [go_sem], by simp [go_sem], by simp [go_sem]⟩
  have HPT := hide (fun (W : World) (h : Below w.heap.size w W) (u0 u1 u2 : Value) => rput3 (B := w.heap.size + 1) h (by omega) u0 u1 u2)
  clear ha hr hb hV hf hv
  cases rb with
  | false =>
    have HN1 := hide (unhide HN rfl)
    clear HN HY
    go_enter Tryz.func31, Tryz.ntmps31
    go_upto_region 1 with fail
    rw [← hwa]
    clear hwa
    obtain ⟨s0, s1, s2, s3, s4, s5⟩ := unhide HSX
    go_wp2_with (first
      | (go_at_call 72; refine (unhide HN1 _).mono ?_; rintro r w3 ⟨rfl, hb3⟩; rw [V.open_]; obtain ⟨⟨t0, t1, t2⟩, u0, u1, u2⟩ := ((unhide HRB).later hb1).later hb3)
      | (go_at_call 69; refine (unhide HX _ (unhide HBA)).mono ?_; rintro r w1 ⟨rfl, hb1⟩))
    exact bodyPost_ret (v := V.v) (by simp [results, Tryz.results31, go_sem, Val.v, t0, t1, t2]) rfl ⟨rfl, unhide HPT w3 (below_step (below_step (unhide HBA) hb1) hb3) _ _ _⟩
  | true =>
    have HY1 := hide (unhide HY rfl)
    clear HN HY
    go_enter Tryz.func31, Tryz.ntmps31
    go_upto_region 1 with fail
    rw [← hwa]
    clear hwa
    obtain ⟨s0, s1, s2, s3, s4, s5⟩ := unhide HSX
    go_wp2_with (first
      | (go_at_call 73; refine (unhide HY1 _ (unhide HB1)).mono ?_; rintro r w3 ⟨rfl, hb3⟩; rw [V.open_]; obtain ⟨⟨t0, t1, t2⟩, u0, u1, u2⟩ := ((unhide HRB).later hb1).later hb3)
      | (go_at_call 69; refine (unhide HX _ (unhide HBA)).mono ?_; rintro r w1 ⟨rfl, hb1⟩; have HB1 := hide (below_step (unhide HBA) hb1); obtain ⟨q0, q1, q2, q3, q4, q5⟩ := (unhide HSX).later hb1))
    exact bodyPost_ret (v := V.v) (by simp [results, Tryz.results31, go_sem, Val.v, t0, t1, t2]) rfl ⟨rfl, unhide HPT w3 (below_step (unhide HB1) hb3) _ _ _⟩
end Go.Proofs.YtmjeiepljlepbacGreat

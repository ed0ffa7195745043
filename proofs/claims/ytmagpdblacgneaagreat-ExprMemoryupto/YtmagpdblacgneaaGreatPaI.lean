import Derived.Test.YtmagpdblacgneaaGreatPaE
import Derived.Test.YtmagpdblacgneaaGreatSpF
set_option linter.unusedSimpArgs false
set_option linter.unusedVariables false
set_option maxRecDepth 100000
namespace Go.Proofs.YtmagpdblacgneaaGreat
open Go.RowKit Go.Sort

theorem op_append_nodes {o : Oper} {a : Act} {w : World} {K : Act → World → Prop} {Q : Exit → Act → World → Prop} (s x : Operand) (ho : o.op = .call { callee := .builtin .append, args := #[s, x], argTypes := #[24, 24] })
    (base base2 : Nat) (v : Value) (L1 L2 : List Nd) (hs : a.eval s = v) (hown : OwnE w base v L1) (g2 c2 : Nat) (hx : a.eval x = .slice (some ⟨g2, 0, none⟩) L2.length c2) (hown2 : OwnE w base2 (.slice (some ⟨g2, 0, none⟩) L2.length c2) L2)
    (hl : L1.length + L2.length ≤ 1000000000) (hbase : base ≤ w.heap.size)
    (h : ∀ v' w', OwnE w' base v' (L1 ++ L2) → w.grownBy w' v.ownBlock → (v'.ownBlock = v.ownBlock ∨ v'.ownBlock = some w.heap.size) → K (a.put o.dst v') w') : o.wp Tryz.prog a w K Q := by
  obtain ⟨i4, hi4, z40, z41, z42⟩ := info_parts info26
  obtain ⟨v', w', hr, h2, h3, h4, h5⟩ := run_append_own_at (P := Tryz.prog) w base 24 o.type 26 i4 (.agg #[.int .i64 0, .int .i64 0, .int .i64 0, .int .i64 0, .string ⟨#[]⟩, .slice none 0 0]) 6 72 Tryz.underlying24 hi4 z40 z41 z42 rfl (by decide) v L1.length (L1.flatMap sh) hown ⟨g2, 0, none⟩ L2.length c2 (L2.flatMap sh) (sh_len L2) (World.ownsRow.cells hown2 rfl) (sh_all L2) (by unfold maxLen; omega) (by omega) hbase
  unfold Oper.wp execOp
  simp only [ho, resolve, invoke, builtin, Sem.run_bind, Sem.run_pure, Result.andThen_ok, List.map_toArray, List.map_cons, List.map_nil, hs, hx, hr]
  refine h v' w' ?_ h3 h5
  unfold OwnE
  rw [List.length_append, List.flatMap_append]
  exact h2
/-- Two lists joined: the first one's block grows, or a new one is taken. -/
theorem joined_ok {w wA wB wC wD w3 : World} {e x y : Ex} {v' : Value} {g1 c1 g2 : Nat} {L1 L2 : List Nd} {K1 K2 : Nat → Nat → Prop} (hA : Below w.heap.size w wA) (hpe : partsE e = partsE x ++ partsE y)
    (m1 : L1.map (·.1) = partsE x) (k1 : (∀ (i : Nat) (q : Nd), L1[i]? = some q → Ow wB q.1.args q.2.1 q.2.2 (K1 i)) ∧ (∀ (i b : Nat), K1 i b → wA.heap.size ≤ b ∧ b < wB.heap.size ∧ b ≠ g1) ∧ ∀ (i j b : Nat), i ≠ j → K1 i b → K1 j b → False) (b1 : Below wA.heap.size wA wB) (o1 : OwnE wB wA.heap.size (.slice (some ⟨g1, 0, none⟩) L1.length c1) L1)
    (hBC : Below wB.heap.size wB wC)
    (m2 : L2.map (·.1) = partsE y) (k2 : (∀ (i : Nat) (q : Nd), L2[i]? = some q → Ow wD q.1.args q.2.1 q.2.2 (K2 i)) ∧ (∀ (i b : Nat), K2 i b → wC.heap.size ≤ b ∧ b < wD.heap.size ∧ b ≠ g2) ∧ ∀ (i j b : Nat), i ≠ j → K2 i b → K2 j b → False) (b2 : Below wC.heap.size wC wD)
    (o3 : OwnE w3 wA.heap.size v' (L1 ++ L2)) (gr : wD.grownBy w3 (some g1)) (hv : v'.ownBlock = some g1 ∨ v'.ownBlock = some wD.heap.size) (hpos : 0 < (L1 ++ L2).length) : PartsK w e (.returned v') w3 := by
  obtain ⟨g1', e1, hg1, hg1B⟩ := o1.some (by
    have : 0 < (partsE x).length := parts_pos x
    rw [← m1, List.length_map] at this
    exact this)
  injection e1 with e1
  injection e1 with e1 _
  subst e1
  obtain ⟨a3, cap3, rfl⟩ := o3.slice
  obtain ⟨g3, rfl, hg3, _⟩ := o3.some hpos
  have sA := hA.size
  have sB := b1.size
  have sC := hBC.size
  have sD := b2.size
  have s3 := gr.size
  have hv : g3 = g1 ∨ g3 = wD.heap.size := by
    simp only [Value.ownBlock, Option.some.injEq] at hv
    exact hv
  have hb13 : Below wA.heap.size wA w3 := (below_step (below_step b1 hBC) b2).trans (grown_below gr (by omega) (fun g h => by injection h with h; omega))
  obtain ⟨p1, p2, p3⟩ := k1
  obtain ⟨r1, r2, r3⟩ := k2
  refine ⟨g3, cap3, L1 ++ L2, fun i b => (i < L1.length ∧ K1 i b) ∨ (L1.length ≤ i ∧ K2 (i - L1.length) b), rfl, ?_, by rw [List.map_append, m1, m2, hpe], ⟨fun i q hq => ?_, fun i b hb => ?_, fun i j b hij hi hj => ?_⟩, below_step hA hb13⟩
  · obtain ⟨h1, h2⟩ := o3
    refine ⟨h1, ?_⟩
    rcases h2 with h2 | ⟨g, cap, cur, q1, q2, q3⟩
    · exact .inl h2
    · exact .inr ⟨g, cap, cur, q1, by omega, q3⟩
  · by_cases hi : i < L1.length
    · rw [List.getElem?_append_left hi] at hq
      refine ((p1 i q hq).keep fun b hb => ?_).wide fun b hb => .inl ⟨hi, hb⟩
      have := p2 i b hb
      rw [gr.block b (by omega) (by simp; omega), b2.block b (by omega), hBC.block b this.2.1]
    · rw [List.getElem?_append_right (by omega)] at hq
      refine ((r1 _ q hq).keep fun b hb => ?_).wide fun b hb => .inr ⟨by omega, hb⟩
      have := r2 _ b hb
      rw [gr.block b this.2.1 (by simp; omega)]
  · rcases hb with ⟨_, hb⟩ | ⟨_, hb⟩
    · have := p2 i b hb
      exact ⟨by omega, by omega, by omega⟩
    · have := r2 _ b hb
      exact ⟨by omega, by omega, by omega⟩
  · rcases hi with ⟨h1, hi⟩ | ⟨h1, hi⟩ <;> rcases hj with ⟨h2, hj⟩ | ⟨h2, hj⟩
    · exact p3 i j b hij hi hj
    · have := p2 i b hi; have := r2 _ b hj; omega
    · have := r2 _ b hi; have := p2 j b hj; omega
    · exact r3 _ _ b (by omega) hi hj
set_option maxHeartbeats 1000000 in
set_option maxRecDepth 100000 in
theorem parts_and (e : Ex) (hf : e.fin) (h19 : e.op = 19) (hbt : builtE e = true) (x y : Ex) (hxy : e.args = [x, y]) (a : Option Addr) (c : Nat) (w : World) (ha : Ex.all w a e.args)
    (IHx : ∀ (a' : Option Addr) (c' : Nat) (W : World), Ex.all W a' x.args → Calls Tryz.prog 10 #[x.val a' c'] W (PartsK W x))
    (IHy : ∀ (a' : Option Addr) (c' : Nat) (W : World), Ex.all W a' y.args → Calls Tryz.prog 10 #[y.val a' c'] W (PartsK W y)) :
    Calls Tryz.prog 10 #[e.val a c] w (PartsK w e) := by
  have HB := hide (fun (W : World) (hW : Below w.heap.size w W) => built_any e hf a c W (Ex.all_later _ ha hW))
  have HB0 := hide (below_alloc (Below.refl _ w) (.cells #[.int .i64 e.op, .int .i64 e.n, .int .i64 e.v.k, .int .i64 e.v.n, .string e.v.s, .slice a e.args.length c] 26))
  have H6 : Hid (Six (w.alloc (.cells #[.int .i64 e.op, .int .i64 e.n, .int .i64 e.v.k, .int .i64 e.v.n, .string e.v.s, .slice a e.args.length c] 26)) w.heap.size e a c) := Six.new w e a c
  obtain ⟨vb, vo, rfl, hx0⟩ := Ex.all_get ha (i := 0) (e := x) (by rw [hxy]; rfl)
  obtain ⟨vb', vo', ee, hy0⟩ := Ex.all_get ha (i := 1) (e := y) (by rw [hxy]; rfl)
  injection ee with ee
  injection ee with e1 e2
  subst e1 e2
  have HX := hide (fun (W : World) (hW : Below w.heap.size w W) => Ex.at_open (Ex.at_later _ hx0 hW))
  have HY := hide (fun (W : World) (hW : Below w.heap.size w W) => Ex.at_open (Ex.at_later _ hy0 hW))
  have hln : e.args.length = 2 := by rw [hxy]; rfl
  have HPE : Hid (partsE e = partsE x ++ partsE y) := by
    show _ = _
    rw [partsE_eq, h19, hbt, hxy, partsL, partsL, partsL, List.append_nil]
    rfl
  have hpl := parts_400 hbt
  rw [unhide HPE, List.length_append] at hpl
  have HIX := hide IHx
  have HIY := hide IHy
  rw [Ex.val_open] at HB ⊢
  rw [hbt] at HB
  rw [h19, hln] at HB HB0 H6 ⊢
  clear ha IHx IHy hx0 hy0 hxy hbt hf
  go_enter Tryz.func10, Tryz.ntmps10
  go_wp2_with (go_at_call 21; refine (unhide HB _ (unhide HB0)).mono ?_; rintro r w1 ⟨rfl, hb1⟩; have hB1 := below_step (unhide HB0) hb1; obtain ⟨b0, b1, b2, b3, b4, b5⟩ := (unhide H6).later hb1)
  obtain ⟨ax, cx, ⟨x0, x1, x2, x3, x4, x5⟩, hax⟩ := unhide HX w1 hB1
  obtain ⟨ay, cy, ⟨y0, y1, y2, y3, y4, y5⟩, hay⟩ := unhide HY w1 hB1
  rw [Nat.zero_mul, Nat.add_zero] at x0 x1 x2 x3 x4 x5
  rw [Nat.one_mul] at y0 y1 y2 y3 y4 y5
  have HAX := hide hax
  have HAY := hide hay
  have HB1 := hide hB1
  rw [hln] at b5
  clear hax hay hB1 hb1 HX HY HB H6 HB0 hln
  go_cut [2] (fun v wx => Hid (PartsK w e (.returned v) wx))
  case first =>
    refine wp_region_noPanic ?_
    refine wp_region_G (S := fun w' : World => Below w1.heap.size w1 w') (k := 11) (by kernel_rfl) ?_
    refine anyG_takel (i := 0) (v := (.pointer (some ⟨w.heap.size, 5, none⟩))) [1, 2, 3, 4, 10, 11] rfl (by kernel_rfl) (by kernel_rfl) (by kernel_rfl) (by kernel_rfl) (fun _ _ _ h => h) (Or.inl ⟨by rfl, fun w' hSw => ?_⟩) ((Below.refl _ w1).drew) ?_
    · have e5 := clater b5 hSw; have f0 := clater x0 hSw; have f1 := clater x1 hSw; have f2 := clater x2 hSw; have f3 := clater x3 hSw; have f4 := clater x4 hSw; have f5 := clater x5 hSw; have f6 := clater y0 hSw; have f7 := clater y1 hSw; have f8 := clater y2 hSw; have f9 := clater y3 hSw; have f10 := clater y4 hSw; have f11 := clater y5 hSw
      clear b0 b1 b2 b3 b4 b5 x0 x1 x2 x3 x4 x5 y0 y1 y2 y3 y4 y5
      go_simp
    try simp only [Act.put, List.setIfInBounds_toArray, List.set_cons_zero, List.set_cons_succ]
    refine anyG_takel (i := 1) (v := (.slice (some ⟨vb, vo, none⟩) 2 c)) [2, 3, 4, 10, 11] rfl (by kernel_rfl) (by kernel_rfl) (by kernel_rfl) (by kernel_rfl) (fun _ _ _ h => h) (Or.inl ⟨by rfl, fun w' hSw => ?_⟩) ((Below.refl _ w1).drew) ?_
    · have e5 := clater b5 hSw; have f0 := clater x0 hSw; have f1 := clater x1 hSw; have f2 := clater x2 hSw; have f3 := clater x3 hSw; have f4 := clater x4 hSw; have f5 := clater x5 hSw; have f6 := clater y0 hSw; have f7 := clater y1 hSw; have f8 := clater y2 hSw; have f9 := clater y3 hSw; have f10 := clater y4 hSw; have f11 := clater y5 hSw
      clear b0 b1 b2 b3 b4 b5 x0 x1 x2 x3 x4 x5 y0 y1 y2 y3 y4 y5
      go_simp
    try simp only [Act.put, List.setIfInBounds_toArray, List.set_cons_zero, List.set_cons_succ]
    refine anyG_takel (i := 2) (v := (.pointer (some ⟨vb, vo, none⟩))) [3, 4, 10, 11] rfl (by kernel_rfl) (by kernel_rfl) (by kernel_rfl) (by kernel_rfl) (fun _ _ _ h => h) (Or.inl ⟨by rfl, fun w' hSw => ?_⟩) ((Below.refl _ w1).drew) ?_
    · have e5 := clater b5 hSw; have f0 := clater x0 hSw; have f1 := clater x1 hSw; have f2 := clater x2 hSw; have f3 := clater x3 hSw; have f4 := clater x4 hSw; have f5 := clater x5 hSw; have f6 := clater y0 hSw; have f7 := clater y1 hSw; have f8 := clater y2 hSw; have f9 := clater y3 hSw; have f10 := clater y4 hSw; have f11 := clater y5 hSw
      clear b0 b1 b2 b3 b4 b5 x0 x1 x2 x3 x4 x5 y0 y1 y2 y3 y4 y5
      go_simp
    try simp only [Act.put, List.setIfInBounds_toArray, List.set_cons_zero, List.set_cons_succ]
    refine anyG_takel (i := 3) (v := (.agg #[.int .i64 x.op, .int .i64 x.n, .int .i64 x.v.k, .int .i64 x.v.n, .string x.v.s, .slice ax x.args.length cx])) [4, 10, 11] rfl (by kernel_rfl) (by kernel_rfl) (by kernel_rfl) (by kernel_rfl) (fun _ _ _ h => h) (Or.inl ⟨by rfl, fun w' hSw => ?_⟩) ((Below.refl _ w1).drew) ?_
    · have e5 := clater b5 hSw; have f0 := clater x0 hSw; have f1 := clater x1 hSw; have f2 := clater x2 hSw; have f3 := clater x3 hSw; have f4 := clater x4 hSw; have f5 := clater x5 hSw; have f6 := clater y0 hSw; have f7 := clater y1 hSw; have f8 := clater y2 hSw; have f9 := clater y3 hSw; have f10 := clater y4 hSw; have f11 := clater y5 hSw
      clear b0 b1 b2 b3 b4 b5 x0 x1 x2 x3 x4 x5 y0 y1 y2 y3 y4 y5
      go_simp
    try simp only [Act.put, List.setIfInBounds_toArray, List.set_cons_zero, List.set_cons_succ]
    refine anyG_takel (i := 5) (v := (.pointer (some ⟨w.heap.size, 5, none⟩))) [6, 7, 8, 9, 10, 11] rfl (by kernel_rfl) (by kernel_rfl) (by kernel_rfl) (by kernel_rfl) (fun _ _ _ h => h) (Or.inl ⟨by rfl, fun w' hSw => ?_⟩) ((Below.refl _ w1).drew) ?_
    · have e5 := clater b5 hSw; have f0 := clater x0 hSw; have f1 := clater x1 hSw; have f2 := clater x2 hSw; have f3 := clater x3 hSw; have f4 := clater x4 hSw; have f5 := clater x5 hSw; have f6 := clater y0 hSw; have f7 := clater y1 hSw; have f8 := clater y2 hSw; have f9 := clater y3 hSw; have f10 := clater y4 hSw; have f11 := clater y5 hSw
      clear b0 b1 b2 b3 b4 b5 x0 x1 x2 x3 x4 x5 y0 y1 y2 y3 y4 y5
      go_simp
    try simp only [Act.put, List.setIfInBounds_toArray, List.set_cons_zero, List.set_cons_succ]
    refine anyG_takel (i := 6) (v := (.slice (some ⟨vb, vo, none⟩) 2 c)) [7, 8, 9, 10, 11] rfl (by kernel_rfl) (by kernel_rfl) (by kernel_rfl) (by kernel_rfl) (fun _ _ _ h => h) (Or.inl ⟨by rfl, fun w' hSw => ?_⟩) ((Below.refl _ w1).drew) ?_
    · have e5 := clater b5 hSw; have f0 := clater x0 hSw; have f1 := clater x1 hSw; have f2 := clater x2 hSw; have f3 := clater x3 hSw; have f4 := clater x4 hSw; have f5 := clater x5 hSw; have f6 := clater y0 hSw; have f7 := clater y1 hSw; have f8 := clater y2 hSw; have f9 := clater y3 hSw; have f10 := clater y4 hSw; have f11 := clater y5 hSw
      clear b0 b1 b2 b3 b4 b5 x0 x1 x2 x3 x4 x5 y0 y1 y2 y3 y4 y5
      go_simp
    try simp only [Act.put, List.setIfInBounds_toArray, List.set_cons_zero, List.set_cons_succ]
    refine anyG_takel (i := 7) (v := (.pointer (some ⟨vb, vo + 6, none⟩))) [8, 9, 10, 11] rfl (by kernel_rfl) (by kernel_rfl) (by kernel_rfl) (by kernel_rfl) (fun _ _ _ h => h) (Or.inl ⟨by rfl, fun w' hSw => ?_⟩) ((Below.refl _ w1).drew) ?_
    · have e5 := clater b5 hSw; have f0 := clater x0 hSw; have f1 := clater x1 hSw; have f2 := clater x2 hSw; have f3 := clater x3 hSw; have f4 := clater x4 hSw; have f5 := clater x5 hSw; have f6 := clater y0 hSw; have f7 := clater y1 hSw; have f8 := clater y2 hSw; have f9 := clater y3 hSw; have f10 := clater y4 hSw; have f11 := clater y5 hSw
      clear b0 b1 b2 b3 b4 b5 x0 x1 x2 x3 x4 x5 y0 y1 y2 y3 y4 y5
      go_simp
    try simp only [Act.put, List.setIfInBounds_toArray, List.set_cons_zero, List.set_cons_succ]
    refine anyG_takel (i := 8) (v := (.agg #[.int .i64 y.op, .int .i64 y.n, .int .i64 y.v.k, .int .i64 y.v.n, .string y.v.s, .slice ay y.args.length cy])) [9, 10, 11] rfl (by kernel_rfl) (by kernel_rfl) (by kernel_rfl) (by kernel_rfl) (fun _ _ _ h => h) (Or.inl ⟨by rfl, fun w' hSw => ?_⟩) ((Below.refl _ w1).drew) ?_
    · have e5 := clater b5 hSw; have f0 := clater x0 hSw; have f1 := clater x1 hSw; have f2 := clater x2 hSw; have f3 := clater x3 hSw; have f4 := clater x4 hSw; have f5 := clater x5 hSw; have f6 := clater y0 hSw; have f7 := clater y1 hSw; have f8 := clater y2 hSw; have f9 := clater y3 hSw; have f10 := clater y4 hSw; have f11 := clater y5 hSw
      clear b0 b1 b2 b3 b4 b5 x0 x1 x2 x3 x4 x5 y0 y1 y2 y3 y4 y5
      go_simp
    try simp only [Act.put, List.setIfInBounds_toArray, List.set_cons_zero, List.set_cons_succ]
    clear b0 b1 b2 b3 b4 b5 x0 x1 x2 x3 x4 x5 y0 y1 y2 y3 y4 y5
    have HCX := hide (unhide HIX ax cx _ (Ex.all_later _ (unhide HAX) ((Below.refl _ w1).drew)))
    rw [Ex.val_open] at HCX
    refine anyG_one (i := 4) (by kernel_rfl) ?_
    refine wpOp_lit rfl (by rfl) fun K' hK' => ?_
    go_simp
    refine (unhide HCX).mono ?_
    rintro r wB ⟨g1, c1, L1, K1, rfl, o1, m1, k1, bb1⟩
    go_simp
    have hS1 : Below w1.heap.size w1 wB := below_step ((Below.refl _ w1).drew) bb1
    have hbg1 : w1.heap.size ≤ g1 := by
      obtain ⟨g', e', h', _⟩ := o1.some (by have := parts_pos x; rw [← m1, List.length_map] at this; exact this)
      injection e' with e'
      injection e' with e' _
      rw [e']
      exact h'
    have HO1 := hide o1
    have HM1 := hide m1
    have HK1 := hide k1
    have HBB1 := hide bb1
    clear HCX o1 m1 k1 bb1
    refine unhide hK' _ _ ⟨fun _ => hS1, ?_⟩
    clear hK' K'
    have HCY := hide (unhide HIY ay cy wB (Ex.all_later _ (unhide HAY) hS1))
    rw [Ex.val_open] at HCY
    refine anyG_one (i := 9) (by kernel_rfl) ?_
    refine wpOp_lit rfl (by rfl) fun K' hK' => ?_
    go_simp
    refine (unhide HCY).mono ?_
    rintro r wD ⟨g2, c2, L2, K2, rfl, o2, m2, k2, bb2⟩
    go_simp
    have hS2 : Below w1.heap.size w1 wD := below_step hS1 bb2
    refine unhide hK' _ _ ⟨fun _ => hS2, ?_⟩
    clear hK' K' HCY
    have hl12 : L1.length + L2.length ≤ 1000000000 := by
      have h1 : L1.length = (partsE x).length := by rw [← unhide HM1, List.length_map]
      have h2 : L2.length = (partsE y).length := by rw [← m2, List.length_map]
      omega
    have hpos : 0 < (L1 ++ L2).length := by
      have h1 : L1.length = (partsE x).length := by rw [← unhide HM1, List.length_map]
      have := parts_pos x
      rw [List.length_append]
      omega
    refine anyG_one (i := 10) (by kernel_rfl) ?_
    refine wpOp_lit rfl (by rfl) fun K' hK' => ?_
    refine op_append_nodes (.tmp 18) (.tmp 23) rfl w1.drew.heap.size wB.heap.size (.slice (some ⟨g1, 0, none⟩) L1.length c1) L1 L2 rfl ((unhide HO1).later bb2) g2 c2 rfl o2 hl12 hS2.size ?_
    intro v3 w3 o3 gr hv
    have hS3 : Below w1.heap.size w1 w3 := hS2.trans (grown_below gr hS2.size (fun g h => by simp [Value.ownBlock] at h; omega))
    refine unhide hK' _ _ ⟨fun _ => hS3, ?_⟩
    clear hK' K'
    have HFIN := hide (joined_ok (w3 := w3) (v' := v3) (below_step (unhide HB1) ((Below.refl _ w1).drew)) (unhide HPE) (unhide HM1) (unhide HK1) (unhide HBB1) (unhide HO1) (Below.refl _ wB) m2 k2 bb2 o3 gr hv hpos)
    clear o2 m2 k2 bb2 o3 gr hv hpos hl12
    simp only [Act.put, List.setIfInBounds_toArray, List.set_cons_zero, List.set_cons_succ]
    refine anyG_one (i := 11) (by kernel_rfl) ?_
    refine wpOp_lit rfl (by rfl) fun K' hK' => ?_
    go_simp
    refine unhide hK' _ _ ⟨fun hh => absurd hh (by decide), ?_⟩
    clear hK' K'
    refine anyG_done (by kernel_rfl) ?_ _
    refine NoPanic.normal ?_
    go_wp2
    go_meet
    exact HFIN
  case rest =>
    go_wp2
    go_ret
    exact unhide hcut
theorem parts_built : ∀ (k : Nat) (e : Ex), e.size ≤ k → e.fin → builtE e = true → ∀ (a : Option Addr) (c : Nat) (w : World), Ex.all w a e.args → Calls Tryz.prog 10 #[e.val a c] w (PartsK w e)
  | 0, e, hs, _, _, _, _, _, _ => by rw [Ex.size_mk] at hs; omega
  | k + 1, e, hs, hf, hb, a, c, w, ha => by
    by_cases h19 : e.op = 19
    · obtain ⟨x, y, hxy⟩ := two_args (built_good hb) (by rw [h19]; decide)
      have h0 : e.args[0]? = some x := by rw [hxy]; rfl
      have h1 : e.args[1]? = some y := by rw [hxy]; rfl
      have s0 := Ex.size_arg h0
      have s1 := Ex.size_arg h1
      exact parts_and e hf h19 hb x y hxy a c w ha (fun a' c' W hW => parts_built k x (by omega) (Ex.fin_arg hf h0) (built_arg hb h0) a' c' W hW) (fun a' c' W hW => parts_built k y (by omega) (Ex.fin_arg hf h1) (built_arg hb h1) a' c' W hW)
    · have hp : partsE e = [copyT e] := by
        rw [partsE_eq, if_neg]
        simp [h19]
      exact parts_leaf e hf (built_ends hb) hp (.inl h19) a c w ha
/-- Parts (9). -/
theorem parts_any (e : Ex) (hf : e.fin) (hok : (measE allE e 33554432 131072).2.2 = true) (a : Option Addr) (c : Nat) (w : World) (ha : Ex.all w a e.args) : Calls Tryz.prog 10 #[e.val a c] w (PartsK w e) := by
  by_cases hb : builtE e = true
  · exact parts_built e.size e (Nat.le_refl _) hf hb a c w ha
  · have hb : builtE e = false := by simpa using hb
    have hp : partsE e = [copyT e] := by
      rw [partsE_eq, if_neg]
      simp [hb]
    exact parts_leaf e hf hok hp (.inr hb) a c w ha
/-- What Parts answers, as a tree's list. -/
theorem PartsK.exk {w w' : World} {e : Ex} {r : Ending} (h : PartsK w e r w') : ∃ a c, r = .returned (.slice a (partsE e).length c) ∧ ExK w.heap.size w' a c (partsE e) ∧ Below w.heap.size w w' := by
  obtain ⟨g, cap, L, K, rfl, h2, h3, ⟨k1, k2, k3⟩, hb⟩ := h
  have hl : L.length = (partsE e).length := by rw [← h3, List.length_map]
  refine ⟨some ⟨g, 0, none⟩, cap, by rw [hl], ?_, hb⟩
  rw [← h3]
  exact ExK.row h2 k1 (fun i q b _ hb => ⟨(k2 i b hb).1, (k2 i b hb).2.1, fun e => (k2 i b hb).2.2 (by simp only [Value.ownBlock, Option.some.injEq] at e; exact e.symm)⟩) k3 (Nat.le_refl _)
end Go.Proofs.YtmagpdblacgneaaGreat
set_option linter.unusedSimpArgs false
set_option linter.unusedVariables false
set_option maxRecDepth 100000
namespace Go.Proofs.YtmagpdblacgneaaGreat
open Go.RowKit Go.Sort

/-- While a list is copied: k of its members are. -/
def CInv (w : World) (l : List Ex) (k : Nat) (v : Value) (wr : World) : Prop := ∃ (L : List Nd) (K : Nat → Nat → Prop), OwnE wr w.heap.size v L ∧ L.map (·.1) = l.take k ∧ (∀ (i : Nat) (q : Nd), L[i]? = some q → Ow wr q.1.args q.2.1 q.2.2 (K i)) ∧ (∀ i b, K i b → i < L.length ∧ w.heap.size ≤ b ∧ b < wr.heap.size ∧ v.ownBlock ≠ some b) ∧ (∀ i j b, i ≠ j → K i b → K j b → False) ∧ Below w.heap.size w wr
theorem CInv.nil (w : World) (l : List Ex) : CInv w l 0 (.slice none 0 0) w := ⟨[], fun _ _ => False, World.ownsRow_nil _ _ _ _, rfl, fun i q h => by simp at h, fun _ _ h => h.elim, fun _ _ _ _ h => h.elim, Below.refl _ _⟩
theorem CInv.below {w wr : World} {l : List Ex} {k : Nat} {v : Value} (h : CInv w l k v wr) : Below w.heap.size w wr := by obtain ⟨L, K, _, _, _, _, _, h⟩ := h; exact h
theorem CInv.slice {w wr : World} {l : List Ex} {k : Nat} {v : Value} (h : CInv w l k v wr) (hk : k ≤ l.length) : ∃ a c, v = .slice a k c := by
  obtain ⟨L, K, h1, h2, _⟩ := h
  obtain ⟨a, c, e⟩ := h1.slice
  have : L.length = k := by have := congrArg List.length h2; rw [List.length_map, List.length_take] at this; omega
  exact ⟨a, c, by rw [e, this]⟩
theorem CInv.app {w wr w2 : World} {l : List Ex} {k lo : Nat} {v : Value} {e : Ex} {a2 : Option Addr} {c2 : Nat} (h : CInv w l k v wr) (he : l[k]? = some e) (hb : Below wr.heap.size wr w2) (hx : ExK lo w2 a2 c2 e.args) (hlo : wr.heap.size ≤ lo) (hk : k ≤ 2097152) :
    ∃ v' w4, (Builtin.append_ #[24, 24] 24 #[v, .slice (some ⟨w2.heap.size, 0, none⟩) 1 1]).run Tryz.prog (w2.alloc (.cells #[.int .i64 e.op, .int .i64 e.n, .int .i64 e.v.k, .int .i64 e.v.n, .string e.v.s, .slice a2 e.args.length c2] 26)) = .ok v' w4 ∧ CInv w l (k + 1) v' w4 := by
  obtain ⟨L, K, h1, h2, h3, h4, h5, h6⟩ := h
  obtain ⟨F, hF, hFb⟩ := hx
  have hkl := (List.getElem?_eq_some_iff.1 he).1
  have hLk : L.length = k := by have := congrArg List.length h2; rw [List.length_map, List.length_take] at this; omega
  obtain ⟨w3, hw3⟩ : ∃ w3, w2.alloc (.cells #[.int .i64 e.op, .int .i64 e.n, .int .i64 e.v.k, .int .i64 e.v.n, .string e.v.s, .slice a2 e.args.length c2] 26) = w3 := ⟨_, rfl⟩
  have hb3 : Below w2.heap.size w2 w3 := by rw [← hw3]; exact below_alloc (Below.refl _ _) _
  have hs3 : w3.heap.size = w2.heap.size + 1 := by rw [← hw3]; simp [go_sem]
  have hs2 := hb.size
  have hsw := h6.size
  have hcell : ∀ j u, (sh (e, a2, c2))[j]? = some u → w3.cell? ((⟨w2.heap.size, 0, none⟩ : Addr).add j) = some u := fun j u hu => by
    rw [Addr.add_lit, ← hw3]
    match j, hu with
    | 0, hu => simp [sh] at hu; subst hu; simp [go_sem]
    | 1, hu => simp [sh] at hu; subst hu; simp [go_sem]
    | 2, hu => simp [sh] at hu; subst hu; simp [go_sem]
    | 3, hu => simp [sh] at hu; subst hu; simp [go_sem]
    | 4, hu => simp [sh] at hu; subst hu; simp [go_sem]
    | 5, hu => simp [sh] at hu; subst hu; simp [go_sem]
    | j + 6, hu => simp [sh] at hu
  have hown3 : OwnE w3 w.heap.size v L := (h1.later hb).later hb3
  obtain ⟨v', w4, hrun, hv', hway⟩ := app_okE w3 w.heap.size L.length 1 1 v (L.flatMap sh) (sh (e, a2, c2)) 24 ⟨w2.heap.size, 0, none⟩ hown3 rfl hcell (fun u hu => by simp [sh] at hu; rcases hu with rfl | rfl | rfl | rfl | rfl | rfl <;> rfl) (by omega) (by omega) (by omega)
  rw [hw3]
  refine ⟨v', w4, hrun, L ++ [(e, a2, c2)], fun i b => (i < L.length ∧ K i b) ∨ (i = L.length ∧ F b), ?_, ?_, ?_⟩
  · show OwnE w4 w.heap.size v' (L ++ [(e, a2, c2)])
    unfold OwnE
    rw [List.length_append, List.flatMap_append]
    simpa using hv'
  · rw [List.map_append, h2, List.take_add_one, he]
    rfl
  -- what is kept
  have hkeep : (∀ b, b < w3.heap.size → v.ownBlock ≠ some b → w4.heap[b]? = w3.heap[b]?) ∧ w3.heap.size ≤ w4.heap.size ∧ (∀ b, b < w3.heap.size → v.ownBlock ≠ some b → v'.ownBlock ≠ some b) ∧ Below w.heap.size w w4 := by
    have hw3b : Below w.heap.size w w3 := below_step (below_step h6 hb) hb3
    rcases hway with ⟨g, cap, e1, e2, hg⟩ | ⟨hnew, hbl⟩
    · subst e1 e2
      refine ⟨fun b h1 h2 => hg.block b h1 fun e => h2 e.symm, hg.size, fun b _ h2 => h2, hw3b.trans (grown_below hg hw3b.size fun q hq => ?_)⟩
      exact (World.ownsRow.lt hown3 q hq).1
    · exact ⟨fun b h1 _ => hbl.block b h1, hbl.size, fun b h1 _ e => by have := hnew b e; omega, below_step hw3b hbl⟩
  obtain ⟨k1, k2, k3, k4⟩ := hkeep
  have hvF : ∀ b, F b → v.ownBlock ≠ some b := fun b hb e => by
    have := (World.ownsRow.lt h1 b e).2
    have := (hFb b hb).1
    omega
  refine ⟨fun i q hq => ?_, fun i b hib => ?_, fun i j b hij hi hj => ?_, k4⟩
  · by_cases hi : i < L.length
    · rw [List.getElem?_append_left hi] at hq
      refine ((h3 i q hq).keep fun b hb' => ?_).wide fun b hb' => .inl ⟨hi, hb'⟩
      have := h4 i b hb'
      rw [k1 b (by omega) this.2.2.2, hb3.block b (by omega), hb.block b this.2.2.1]
    · rw [List.getElem?_append_right (by omega)] at hq
      have hi0 : i = L.length := by
        by_cases h : i = L.length
        · exact h
        · rw [List.getElem?_eq_none (by simp; omega)] at hq; cases hq
      subst hi0
      simp only [Nat.sub_self, List.getElem?_cons_zero, Option.some.injEq] at hq
      subst hq
      refine (hF.keep fun b hb' => ?_).wide fun b hb' => .inr ⟨rfl, hb'⟩
      have := hFb b hb'
      rw [k1 b (by omega) (hvF b hb'), hb3.block b this.2]
  · rw [List.length_append, List.length_singleton]
    rcases hib with ⟨hi, hib⟩ | ⟨hi, hib⟩
    · have := h4 i b hib
      exact ⟨by omega, by omega, by omega, k3 b (by omega) this.2.2.2⟩
    · have := hFb b hib
      exact ⟨by omega, by omega, by omega, k3 b (by omega) (hvF b hib)⟩
  · rcases hi with ⟨hi, hib⟩ | ⟨hi, hib⟩ <;> rcases hj with ⟨hj, hjb⟩ | ⟨hj, hjb⟩
    · exact h5 i j b hij hib hjb
    · have := h4 i b hib; have := hFb b hjb; omega
    · have := h4 j b hjb; have := hFb b hib; omega
    · omega
theorem CInv.done {w wr : World} {l : List Ex} {v : Value} (h : CInv w l l.length v wr) : ∃ a c, v = .slice a l.length c ∧ ExK w.heap.size wr a c l ∧ Below w.heap.size w wr := by
  obtain ⟨a, c, e⟩ := h.slice (Nat.le_refl _)
  obtain ⟨L, K, h1, h2, h3, h4, h5, h6⟩ := h
  rw [List.take_length] at h2
  subst e
  refine ⟨a, c, rfl, ?_, h6⟩
  rw [← h2]
  exact ExK.row h1 h3 (fun i q b _ hb => ⟨(h4 i b hb).2.1, (h4 i b hb).2.2.1, (h4 i b hb).2.2.2⟩) h5 (Nat.le_refl _)
/-- What copiedExprs answers. -/
def CpL (l : List Ex) (w : World) (r : Ending) (w' : World) : Prop := ∃ a c, r = .returned (.slice a l.length c) ∧ ExK w.heap.size w' a c l ∧ Below w.heap.size w w'
/-- What copiedExpr answers. -/
def CpE (e : Ex) (w : World) (r : Ending) (w' : World) : Prop := ∃ a c, r = .returned (e.val a c) ∧ ExK w.heap.size w' a c e.args ∧ Below w.heap.size w w'
set_option maxHeartbeats 2000000 in
theorem cpl_step (l : List Ex) (a : Option Addr) (c : Nat) (w : World) (hl : l.length ≤ 2097152) (ha : Ex.all w a l) (IH : ∀ (i : Nat) (x : Ex), l[i]? = some x → ∀ (a' : Option Addr) (c' : Nat) (W : World), Ex.all W a' x.args → Calls Tryz.prog 4 #[x.val a' c'] W (CpE x W)) :
    Calls Tryz.prog 5 #[.slice a l.length c] w (CpL l w) := by
  have HA := hide ha
  have HIH := hide IH
  have HI0 := hide (CInv.nil w l)
  clear ha IH
  go_enter Tryz.func5, Tryz.ntmps5
  go_wp2_with fail
  go_loopw [3, 8] (fun s3 s8 wr => ∃ (k : Nat) (v : Value), s3 = v ∧ s8 = .int .i64 (k : Int) ∧ k ≤ l.length ∧ Hid (CInv w l k v wr)) (fun _ s _ => l.length - (intOf s).toNat)
  case atStart => exact ⟨0, _, rfl, rfl, Nat.zero_le _, HI0⟩
  case round =>
    obtain ⟨k, v, rfl, rfl, hk, HI⟩ := hrel
    clear HI0
    obtain ⟨av, cv, hv⟩ := (unhide HI).slice hk
    subst hv
    by_cases hi : k < l.length
    · obtain ⟨x, hx⟩ : ∃ x, l[k]? = some x := ⟨_, List.getElem?_eq_getElem hi⟩
      have hbw := (unhide HI).below
      obtain ⟨vb, vo, rfl, hat⟩ := Ex.all_get (Ex.all_later _ (unhide HA) hbw) hx
      obtain ⟨a', c', ⟨d0, d1, d2, d3, d4, d5⟩, hal⟩ := Ex.at_open hat
      have i1 : (k : Int) < (l.length : Int) := by omega
      have hba := below_alloc (Below.refl _ wr) (.cells #[.int .i64 x.op, .int .i64 x.n, .int .i64 x.v.k, .int .i64 x.v.n, .string x.v.s, .slice a' x.args.length c'] 26)
      have HBA := hide hba
      have HC := hide (unhide HIH k x hx a' c' _ (Ex.all_later _ hal hba))
      have HX := hide hx
      rw [Ex.val_open] at HC
      clear hbw hat hal hba hx
      go_wp2_with (first
        | (go_at_call 4; refine (unhide HC).mono ?_; rintro r w2 ⟨a2, c2, rfl, hK2, hb2⟩; rw [Ex.val_open]; obtain ⟨v', w4, hrun, hI4⟩ := (unhide HI).app (unhide HX) (below_step (unhide HBA) hb2) hK2 (unhide HBA).size (by omega); have HI4 := hide hI4; replace hrun := hide hrun; clear hI4 hK2 hb2)
        | (at_builtin; refine wpList_app_run rfl (.tmp 12) (.tmp 15) 24 rfl _ _ rfl rfl (unhide hrun) ?_))
      go_roundw
      case rel => exact ⟨k + 1, v', rfl, by go_num, by omega, HI4⟩
      case measure => simp [intOf]; omega
    · have i1 : ¬ (k : Int) < (l.length : Int) := by omega
      obtain rfl : k = l.length := by omega
      obtain ⟨a3, c3, e3, hK, hb⟩ := (unhide HI).done
      injection e3 with e1 _ e2
      subst e1 e2
      have HK := hide hK
      have HB := hide hb
      clear hK hb
      go_wp2
      go_ret
      exact ⟨av, cv, rfl, unhide HK, unhide HB⟩
end Go.Proofs.YtmagpdblacgneaaGreat

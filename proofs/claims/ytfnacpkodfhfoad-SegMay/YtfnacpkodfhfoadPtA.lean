import Derived.Test.YtfnacpkodfhfoadPaI
import Derived.Test.YtfnacpkodfhfoadRmM
set_option linter.unusedSimpArgs false
set_option linter.unusedVariables false
namespace Go.Proofs.Ytfnacpkodfhfoad
open Go.RowKit Go.Sort

set_option maxHeartbeats 1000000 in
set_option maxRecDepth 100000 in
theorem rparts_and (e : Ex) (hf : e.fin) (h19 : e.op = 19) (hbt : builtE e = true) (x y : Ex) (hxy : e.args = [x, y]) (a : Option Addr) (c : Nat) (w : World) (ha : Ex.all w a e.args)
    (IHx : ∀ (a' : Option Addr) (c' : Nat) (W : World), Ex.all W a' x.args → Calls Try.prog 22 #[x.val a' c'] W (PartsK W x))
    (IHy : ∀ (a' : Option Addr) (c' : Nat) (W : World), Ex.all W a' y.args → Calls Try.prog 22 #[y.val a' c'] W (PartsK W y)) :
    Calls Try.prog 22 #[e.val a c] w (PartsK w e) := by
  have HB := hide (fun (W : World) (hW : Below w.heap.size w W) => rbuilt_any e hf a c W (Ex.all_later _ ha hW))
  have HB0 := hide (below_alloc (Below.refl _ w) (.cells #[.int .i64 e.op, .int .i64 e.n, .int .i64 e.v.k, .int .i64 e.v.n, .string e.v.s, .slice a e.args.length c] 26))
  have H6 : Hid (Six (w.alloc (.cells #[.int .i64 e.op, .int .i64 e.n, .int .i64 e.v.k, .int .i64 e.v.n, .string e.v.s, .slice a e.args.length c] 26)) w.heap.size e a c) := Six.new w e a c
  obtain ⟨vb, vo, rfl, hx0⟩ := Ex.all_get ha (i := 0) (e := x) (by rw [hxy]; rfl)
  obtain ⟨vb', vo', ee, hy0⟩ := Ex.all_get ha (i := 1) (e := y) (by rw [hxy]; rfl)
  injection ee with ee
  injection ee with e1 e2
  subst e1 e2
  have HX := hide (fun (W : World) (hW : Below w.heap.size w W) => Ex.at_open (Ex.at_later _ hx0 hW))
  have HY := hide (fun (W : World) (hW : Below w.heap.size w W) => Ex.at_open (Ex.at_later _ hy0 hW))
  have hln : e.args.length = 2 := by rw [hxy]; rfl
  have HPE : Hid (partsE e = partsE x ++ partsE y) := by
    show _ = _
    rw [partsE_eq, h19, hbt, hxy, partsL, partsL, partsL, List.append_nil]
    rfl
  have hpl := parts_400 hbt
  rw [unhide HPE, List.length_append] at hpl
  have H19 := hide h19
  have HIX := hide IHx
  have HIY := hide IHy
  rw [Ex.val_open] at HB ⊢
  rw [hbt] at HB
  rw [h19, hln] at HB HB0 H6 ⊢
  clear ha IHx IHy hx0 hy0 hxy hbt hf h19
  go_enter Try.func22, Try.ntmps22
  go_wp2_with (go_at_call 40; refine (unhide HB _ (unhide HB0)).mono ?_; rintro r w1 ⟨rfl, hb1⟩; have hB1 := below_step (unhide HB0) hb1; obtain ⟨b0, b1, b2, b3, b4, b5⟩ := (unhide H6).later hb1; rw [unhide H19] at b0)
  obtain ⟨ax, cx, ⟨x0, x1, x2, x3, x4, x5⟩, hax⟩ := unhide HX w1 hB1
  obtain ⟨ay, cy, ⟨y0, y1, y2, y3, y4, y5⟩, hay⟩ := unhide HY w1 hB1
  rw [Nat.zero_mul, Nat.add_zero] at x0 x1 x2 x3 x4 x5
  rw [Nat.one_mul] at y0 y1 y2 y3 y4 y5
  have HAX := hide hax
  have HAY := hide hay
  have HB1 := hide hB1
  rw [hln] at b5
  clear hax hay hB1 hb1 HX HY HB H6 HB0 hln
  go_cut [2] (fun v wx => Hid (PartsK w e (.returned v) wx))
  case first =>
    refine wp_region_noPanic ?_
    refine wp_region_G (S := fun w' : World => Below w1.heap.size w1 w') (k := 11) (by kernel_rfl) ?_
    refine anyG_takel (i := 0) (v := (.pointer (some ⟨w.heap.size, 5, none⟩))) [1, 2, 3, 4, 10, 11] rfl (by kernel_rfl) (by kernel_rfl) (by kernel_rfl) (by kernel_rfl) (fun _ _ _ h => h) (Or.inl ⟨by rfl, fun w' hSw => ?_⟩) ((Below.refl _ w1).drew) ?_
    · have e5 := clater b5 hSw; have f0 := clater x0 hSw; have f1 := clater x1 hSw; have f2 := clater x2 hSw; have f3 := clater x3 hSw; have f4 := clater x4 hSw; have f5 := clater x5 hSw; have f6 := clater y0 hSw; have f7 := clater y1 hSw; have f8 := clater y2 hSw; have f9 := clater y3 hSw; have f10 := clater y4 hSw; have f11 := clater y5 hSw
      clear b0 b1 b2 b3 b4 b5 x0 x1 x2 x3 x4 x5 y0 y1 y2 y3 y4 y5
      go_simp
    try simp only [Act.put, List.setIfInBounds_toArray, List.set_cons_zero, List.set_cons_succ]
    refine anyG_takel (i := 1) (v := (.slice (some ⟨vb, vo, none⟩) 2 c)) [2, 3, 4, 10, 11] rfl (by kernel_rfl) (by kernel_rfl) (by kernel_rfl) (by kernel_rfl) (fun _ _ _ h => h) (Or.inl ⟨by rfl, fun w' hSw => ?_⟩) ((Below.refl _ w1).drew) ?_
    · have e5 := clater b5 hSw; have f0 := clater x0 hSw; have f1 := clater x1 hSw; have f2 := clater x2 hSw; have f3 := clater x3 hSw; have f4 := clater x4 hSw; have f5 := clater x5 hSw; have f6 := clater y0 hSw; have f7 := clater y1 hSw; have f8 := clater y2 hSw; have f9 := clater y3 hSw; have f10 := clater y4 hSw; have f11 := clater y5 hSw
      clear b0 b1 b2 b3 b4 b5 x0 x1 x2 x3 x4 x5 y0 y1 y2 y3 y4 y5
      go_simp
    try simp only [Act.put, List.setIfInBounds_toArray, List.set_cons_zero, List.set_cons_succ]
    refine anyG_takel (i := 2) (v := (.pointer (some ⟨vb, vo, none⟩))) [3, 4, 10, 11] rfl (by kernel_rfl) (by kernel_rfl) (by kernel_rfl) (by kernel_rfl) (fun _ _ _ h => h) (Or.inl ⟨by rfl, fun w' hSw => ?_⟩) ((Below.refl _ w1).drew) ?_
    · have e5 := clater b5 hSw; have f0 := clater x0 hSw; have f1 := clater x1 hSw; have f2 := clater x2 hSw; have f3 := clater x3 hSw; have f4 := clater x4 hSw; have f5 := clater x5 hSw; have f6 := clater y0 hSw; have f7 := clater y1 hSw; have f8 := clater y2 hSw; have f9 := clater y3 hSw; have f10 := clater y4 hSw; have f11 := clater y5 hSw
      clear b0 b1 b2 b3 b4 b5 x0 x1 x2 x3 x4 x5 y0 y1 y2 y3 y4 y5
      go_simp
    try simp only [Act.put, List.setIfInBounds_toArray, List.set_cons_zero, List.set_cons_succ]
    refine anyG_takel (i := 3) (v := (.agg #[.int .i64 x.op, .int .i64 x.n, .int .i64 x.v.k, .int .i64 x.v.n, .string x.v.s, .slice ax x.args.length cx])) [4, 10, 11] rfl (by kernel_rfl) (by kernel_rfl) (by kernel_rfl) (by kernel_rfl) (fun _ _ _ h => h) (Or.inl ⟨by rfl, fun w' hSw => ?_⟩) ((Below.refl _ w1).drew) ?_
    · have e5 := clater b5 hSw; have f0 := clater x0 hSw; have f1 := clater x1 hSw; have f2 := clater x2 hSw; have f3 := clater x3 hSw; have f4 := clater x4 hSw; have f5 := clater x5 hSw; have f6 := clater y0 hSw; have f7 := clater y1 hSw; have f8 := clater y2 hSw; have f9 := clater y3 hSw; have f10 := clater y4 hSw; have f11 := clater y5 hSw
      clear b0 b1 b2 b3 b4 b5 x0 x1 x2 x3 x4 x5 y0 y1 y2 y3 y4 y5
      go_simp
    try simp only [Act.put, List.setIfInBounds_toArray, List.set_cons_zero, List.set_cons_succ]
    refine anyG_takel (i := 5) (v := (.pointer (some ⟨w.heap.size, 5, none⟩))) [6, 7, 8, 9, 10, 11] rfl (by kernel_rfl) (by kernel_rfl) (by kernel_rfl) (by kernel_rfl) (fun _ _ _ h => h) (Or.inl ⟨by rfl, fun w' hSw => ?_⟩) ((Below.refl _ w1).drew) ?_
    · have e5 := clater b5 hSw; have f0 := clater x0 hSw; have f1 := clater x1 hSw; have f2 := clater x2 hSw; have f3 := clater x3 hSw; have f4 := clater x4 hSw; have f5 := clater x5 hSw; have f6 := clater y0 hSw; have f7 := clater y1 hSw; have f8 := clater y2 hSw; have f9 := clater y3 hSw; have f10 := clater y4 hSw; have f11 := clater y5 hSw
      clear b0 b1 b2 b3 b4 b5 x0 x1 x2 x3 x4 x5 y0 y1 y2 y3 y4 y5
      go_simp
    try simp only [Act.put, List.setIfInBounds_toArray, List.set_cons_zero, List.set_cons_succ]
    refine anyG_takel (i := 6) (v := (.slice (some ⟨vb, vo, none⟩) 2 c)) [7, 8, 9, 10, 11] rfl (by kernel_rfl) (by kernel_rfl) (by kernel_rfl) (by kernel_rfl) (fun _ _ _ h => h) (Or.inl ⟨by rfl, fun w' hSw => ?_⟩) ((Below.refl _ w1).drew) ?_
    · have e5 := clater b5 hSw; have f0 := clater x0 hSw; have f1 := clater x1 hSw; have f2 := clater x2 hSw; have f3 := clater x3 hSw; have f4 := clater x4 hSw; have f5 := clater x5 hSw; have f6 := clater y0 hSw; have f7 := clater y1 hSw; have f8 := clater y2 hSw; have f9 := clater y3 hSw; have f10 := clater y4 hSw; have f11 := clater y5 hSw
      clear b0 b1 b2 b3 b4 b5 x0 x1 x2 x3 x4 x5 y0 y1 y2 y3 y4 y5
      go_simp
    try simp only [Act.put, List.setIfInBounds_toArray, List.set_cons_zero, List.set_cons_succ]
    refine anyG_takel (i := 7) (v := (.pointer (some ⟨vb, vo + 6, none⟩))) [8, 9, 10, 11] rfl (by kernel_rfl) (by kernel_rfl) (by kernel_rfl) (by kernel_rfl) (fun _ _ _ h => h) (Or.inl ⟨by rfl, fun w' hSw => ?_⟩) ((Below.refl _ w1).drew) ?_
    · have e5 := clater b5 hSw; have f0 := clater x0 hSw; have f1 := clater x1 hSw; have f2 := clater x2 hSw; have f3 := clater x3 hSw; have f4 := clater x4 hSw; have f5 := clater x5 hSw; have f6 := clater y0 hSw; have f7 := clater y1 hSw; have f8 := clater y2 hSw; have f9 := clater y3 hSw; have f10 := clater y4 hSw; have f11 := clater y5 hSw
      clear b0 b1 b2 b3 b4 b5 x0 x1 x2 x3 x4 x5 y0 y1 y2 y3 y4 y5
      go_simp
    try simp only [Act.put, List.setIfInBounds_toArray, List.set_cons_zero, List.set_cons_succ]
    refine anyG_takel (i := 8) (v := (.agg #[.int .i64 y.op, .int .i64 y.n, .int .i64 y.v.k, .int .i64 y.v.n, .string y.v.s, .slice ay y.args.length cy])) [9, 10, 11] rfl (by kernel_rfl) (by kernel_rfl) (by kernel_rfl) (by kernel_rfl) (fun _ _ _ h => h) (Or.inl ⟨by rfl, fun w' hSw => ?_⟩) ((Below.refl _ w1).drew) ?_
    · have e5 := clater b5 hSw; have f0 := clater x0 hSw; have f1 := clater x1 hSw; have f2 := clater x2 hSw; have f3 := clater x3 hSw; have f4 := clater x4 hSw; have f5 := clater x5 hSw; have f6 := clater y0 hSw; have f7 := clater y1 hSw; have f8 := clater y2 hSw; have f9 := clater y3 hSw; have f10 := clater y4 hSw; have f11 := clater y5 hSw
      clear b0 b1 b2 b3 b4 b5 x0 x1 x2 x3 x4 x5 y0 y1 y2 y3 y4 y5
      go_simp
    try simp only [Act.put, List.setIfInBounds_toArray, List.set_cons_zero, List.set_cons_succ]
    clear b0 b1 b2 b3 b4 b5 x0 x1 x2 x3 x4 x5 y0 y1 y2 y3 y4 y5
    have HCX := hide (unhide HIX ax cx _ (Ex.all_later _ (unhide HAX) ((Below.refl _ w1).drew)))
    rw [Ex.val_open] at HCX
    refine anyG_one (i := 4) (by kernel_rfl) ?_
    refine wpOp_lit rfl (by rfl) fun K' hK' => ?_
    go_simp
    refine (unhide HCX).mono ?_
    rintro r wB ⟨g1, c1, L1, rfl, o1, m1, k1, bb1⟩
    go_simp
    have hS1 : Below w1.heap.size w1 wB := below_step ((Below.refl _ w1).drew) bb1
    have hbg1 : w1.heap.size ≤ g1 := by
      obtain ⟨g', e', h', _⟩ := o1.some (by have := parts_pos x; rw [← m1, List.length_map] at this; exact this)
      injection e' with e'
      injection e' with e' _
      rw [e']
      exact h'
    have HO1 := hide o1
    have HM1 := hide m1
    have HK1 := hide k1
    have HBB1 := hide bb1
    clear HCX o1 m1 k1 bb1
    refine unhide hK' _ _ ⟨fun _ => hS1, ?_⟩
    clear hK' K'
    have HCY := hide (unhide HIY ay cy wB (Ex.all_later _ (unhide HAY) hS1))
    rw [Ex.val_open] at HCY
    refine anyG_one (i := 9) (by kernel_rfl) ?_
    refine wpOp_lit rfl (by rfl) fun K' hK' => ?_
    go_simp
    refine (unhide HCY).mono ?_
    rintro r wD ⟨g2, c2, L2, rfl, o2, m2, k2, bb2⟩
    go_simp
    have hS2 : Below w1.heap.size w1 wD := below_step hS1 bb2
    refine unhide hK' _ _ ⟨fun _ => hS2, ?_⟩
    clear hK' K' HCY
    have hl12 : L1.length + L2.length ≤ 1000000000 := by
      have h1 : L1.length = (partsE x).length := by rw [← unhide HM1, List.length_map]
      have h2 : L2.length = (partsE y).length := by rw [← m2, List.length_map]
      omega
    have hpos : 0 < (L1 ++ L2).length := by
      have h1 : L1.length = (partsE x).length := by rw [← unhide HM1, List.length_map]
      have := parts_pos x
      rw [List.length_append]
      omega
    refine anyG_one (i := 10) (by kernel_rfl) ?_
    refine wpOp_lit rfl (by rfl) fun K' hK' => ?_
    refine op_append_nodes (.tmp 18) (.tmp 23) rfl w1.drew.heap.size wB.heap.size (.slice (some ⟨g1, 0, none⟩) L1.length c1) L1 L2 rfl ((unhide HO1).later bb2) g2 c2 rfl o2 hl12 hS2.size ?_
    intro v3 w3 o3 gr hv
    have hS3 : Below w1.heap.size w1 w3 := hS2.trans (grown_below gr hS2.size (fun g h => by simp [Value.ownBlock] at h; omega))
    refine unhide hK' _ _ ⟨fun _ => hS3, ?_⟩
    clear hK' K'
    have HFIN := hide (joined_ok (w3 := w3) (v' := v3) (below_step (unhide HB1) ((Below.refl _ w1).drew)) (unhide HPE) (unhide HM1) (unhide HK1) (unhide HBB1) (unhide HO1) (Below.refl _ wB) m2 k2 bb2 o3 gr hv hpos)
    clear o2 m2 k2 bb2 o3 gr hv hpos hl12
    simp only [Act.put, List.setIfInBounds_toArray, List.set_cons_zero, List.set_cons_succ]
    refine anyG_one (i := 11) (by kernel_rfl) ?_
    refine wpOp_lit rfl (by rfl) fun K' hK' => ?_
    go_simp
    refine unhide hK' _ _ ⟨fun hh => absurd hh (by decide), ?_⟩
    clear hK' K'
    refine anyG_done (by kernel_rfl) ?_ _
    refine NoPanic.normal ?_
    go_wp2
    go_meet
    exact HFIN
  case rest =>
    go_wp2
    go_ret
    exact unhide hcut
set_option maxHeartbeats 1000000 in
set_option maxRecDepth 100000 in
theorem rparts_leaf (e : Ex) (hf : e.fin) (h19 : ¬ e.op = 19) (hbt : builtE e = true) (a : Option Addr) (c : Nat) (w : World) (ha : Ex.all w a e.args) : Calls Try.prog 22 #[e.val a c] w (PartsK w e) := by
  have HB := hide (fun (W : World) (hW : Below w.heap.size w W) => rbuilt_any e hf a c W (Ex.all_later _ ha hW))
  have HC := hide (fun (W : World) (hW : Below w.heap.size w W) => neat_any e (meas_short soundE e 400 40 (by omega) hbt) a c W (Ex.all_later _ ha hW))
  have HB0 := hide (below_alloc (Below.refl _ w) (.cells #[.int .i64 e.op, .int .i64 e.n, .int .i64 e.v.k, .int .i64 e.v.n, .string e.v.s, .slice a e.args.length c] 26))
  have H6 : Hid (Six (w.alloc (.cells #[.int .i64 e.op, .int .i64 e.n, .int .i64 e.v.k, .int .i64 e.v.n, .string e.v.s, .slice a e.args.length c] 26)) w.heap.size e a c) := Six.new w e a c
  have hcT : copyT e = copyE e := by unfold copyT; rw [built_ends hbt]; rfl
  have HP : Hid (partsE e = [copyT e]) := by
    show _ = _
    rw [partsE_eq, if_neg]
    simp [h19]
  have HCT := hide hcT
  have e19 : (e.op != 19) = true := by simpa using h19
  rw [Ex.val_open] at HB HC ⊢
  rw [hbt] at HB
  clear ha hcT hbt hf
  go_enter Try.func22, Try.ntmps22
  go_wp2_with (first
    | (go_at_call 43; refine (unhide HC w1 hB1).mono ?_; rintro r w2 ⟨a2, c2, rfl, hK2, hb2⟩; rw [Ex.val_open])
    | (go_at_call 40; refine (unhide HB _ (unhide HB0)).mono ?_; rintro r w1 ⟨rfl, hb1⟩; have hB1 := below_step (unhide HB0) hb1; obtain ⟨b0, b1, b2, b3, b4, b5⟩ := (unhide H6).later hb1))
  go_ret
  have h := leaf_k2 (c2 := c2) hB1 hb2 (by rw [unhide HCT]; exact hK2) (unhide HP)
  rw [unhide HCT] at h
  exact h
/-- tallyref.Parts (22), of what is built. -/
theorem rparts_built : ∀ (k : Nat) (e : Ex), e.size ≤ k → e.fin → builtE e = true → ∀ (a : Option Addr) (c : Nat) (w : World), Ex.all w a e.args → Calls Try.prog 22 #[e.val a c] w (PartsK w e)
  | 0, e, hs, _, _, _, _, _, _ => by rw [Ex.size_mk] at hs; omega
  | k + 1, e, hs, hf, hb, a, c, w, ha => by
    by_cases h19 : e.op = 19
    · obtain ⟨x, y, hxy⟩ := two_args (built_good hb) (by rw [h19]; decide)
      have h0 : e.args[0]? = some x := by rw [hxy]; rfl
      have h1 : e.args[1]? = some y := by rw [hxy]; rfl
      have := Ex.size_arg h0
      have := Ex.size_arg h1
      exact rparts_and e hf h19 hb x y hxy a c w ha (fun a' c' W hW => rparts_built k x (by omega) (Ex.fin_arg hf h0) (built_arg hb h0) a' c' W hW) (fun a' c' W hW => rparts_built k y (by omega) (Ex.fin_arg hf h1) (built_arg hb h1) a' c' W hW)
    · exact rparts_leaf e hf h19 hb a c w ha
end Go.Proofs.Ytfnacpkodfhfoad

import Derived.Test.YtmjeiepljlepbacGreatFdE
set_option linter.unusedSimpArgs false
set_option linter.unusedVariables false
set_option maxRecDepth 100000
namespace Go.Proofs.YtmjeiepljlepbacGreat
open Go.RowKit Go.Sort

set_option maxHeartbeats 4000000 in
/-- The law: what both sides answer of an expression is the same. -/
theorem law_ey (e : Ex) (hf : e.fin) (hm : (measE allE e 33554432 131072).2.2 = true) (a : Option Addr) (c : Nat) (row : List Val) (hv : ∀ x ∈ row, VOk x) (hrl : row.length ≤ 140737488355328) (aR : Option Addr) (cR : Nat) (ks : List Int) (hkl : ks.length ≤ 140737488355328) (aK : Option Addr) (cK : Nat) (cols : List Int) (hcl : cols.length ≤ 140737488355328) (aC : Option Addr) (cC : Nat)
    (w : World) (ha : Ex.all w a e.args) (hr : RowAt w aR row) (hK : IntsAt w aK ks) (hC : IntsAt w aC cols) :
    Calls Tryz.prog 4 #[e.val a c, .slice aR row.length cR, .slice aK ks.length cK, .slice aC cols.length cC] w fun r w' => r = .returned (.bool true) ∧ Below w.heap.size w w' := by
  have hbc : BuiltC e := fun a c W hW => rbuilt_any e hf a c W hW
  have HSZ := hide (fun (W : World) (hW : Below w.heap.size w W) => size_any e hf a c W (Ex.all_later _ ha hW))
  have HRZ := hide (fun (W : World) (hW : Below w.heap.size w W) => rsize_any e hf a c W (Ex.all_later _ ha hW))
  have HKI := hide (fun (W : World) (hW : Below w.heap.size w W) => kind_val ks hkl aK cK e hf a c W (Ex.all_later _ ha hW) (hK.later hW))
  have HRK := hide (fun (W : World) (hW : Below w.heap.size w W) => rkind_val ks hkl aK cK e hf a c W (Ex.all_later _ ha hW) (hK.later hW))
  have HNU := hide lawnum_any
  have HEV0 := hide (fun (W : World) (hW : Below w.heap.size w W) => evals_any e hf row hv hrl a aR c cR W (Ex.all_later _ ha hW) (hr.later hW))
  have HRE0 := hide (fun (W : World) (hW : Below w.heap.size w W) => rEval_any row hv hrl aR cR e hf hbc a c W (Ex.all_later _ ha hW) (hr.later hW))
  have HCO0 := hide (fun (W : World) (hW : Below w.heap.size w W) => cols_one e hf a c W (Ex.all_later _ ha hW))
  have HRC0 := hide (fun (W : World) (hW : Below w.heap.size w W) => rcols_one e hf a c W (Ex.all_later _ ha hW))
  have HSN := hide (fun (a b : Option Addr) (c d : Nat) (W : World) (h1 : IntsAt W a (colsU e)) (h2 : IntsAt W b (colsU e)) => samenums_one (colsU e) a b c d W (by have := colsU_few e; omega) h1 h2)
  have HPA0 := hide (fun (W : World) (hW : Below w.heap.size w W) => parts_one e hf a c W (Ex.all_later _ ha hW))
  have HRP0 := hide (fun (W : World) (hW : Below w.heap.size w W) => rparts_one e hf hm a c W (Ex.all_later _ ha hW))
  have HSE := hide (fun (a b : Option Addr) (c d : Nat) (W : World) (h1 : Ex.all W a (partsE e)) (h2 : Ex.all W b (partsE e)) => sameexprs_one (partsE e) (fun x hx a a' c c' W' g1 g2 => rsame_any x (parts_short e (meas_short allE e _ _ (by omega) hm) x hx) a a' c c' W' g1 g2) a b c d W (by have := @parts_few e; omega) h1 h2)
  have HST0 := hide (fun (W : World) (hW : Below w.heap.size w W) => strict_any cols e hf hcl aC cC a c W (hC.later hW) (Ex.all_later _ ha hW))
  have HRS0 := hide (fun (W : World) (hW : Below w.heap.size w W) => rstrict_any cols e hf hbc hcl aC cC a c W (hC.later hW) (Ex.all_later _ ha hW))
  have HFO0 := hide (fun (W : World) (hW : Below w.heap.size w W) => fold_one e hf hm a c W (Ex.all_later _ ha hW))
  have HRF0 := hide (fun (W : World) (hW : Below w.heap.size w W) => rFold_any e hf (meas_short allE e _ _ (by omega) hm) a c W (Ex.all_later _ ha hW))
  have HSA := hide (fun (a b : Option Addr) (c d : Nat) (W : World) (h1 : Ex.all W a (foldR e).args) (h2 : Ex.all W b (foldR e).args) => rsame_any (foldR e) (foldR_short e hm) a b c d W h1 h2)
  have hst : strictE cols e = (builtE e && ntE cols e) := rfl
  rw [← hst] at HRS0
  rw [← evalB_eq] at HRE0
  obtain ⟨sn, hsn⟩ : ∃ x, x = (sizeB e).1 := ⟨_, rfl⟩
  obtain ⟨sh, hsh⟩ : ∃ x, x = (sizeB e).2 := ⟨_, rfl⟩
  rw [← hsn, ← hsh] at HSZ HRZ
  obtain ⟨er, her⟩ : ∃ x, x = kErr ks e := ⟨_, rfl⟩
  rw [← her] at HKI HRK
  unfold IPost at HCO0 HRC0
  unfold EPost at HPA0 HRP0
  unfold XPost at HFO0
  generalize evalB row e = ev at *
  generalize colsU e = U at *
  generalize partsE e = Pt at *
  generalize strictE cols e = st at *
  generalize foldR e = F at *
  have H6 := hide (Six.new w e a c)
  have HB0 := hide (below_alloc (Below.refl _ w) (.cells #[.int .i64 e.op, .int .i64 e.n, .int .i64 e.v.k, .int .i64 e.v.n, .string e.v.s, .slice a e.args.length c] 59))
  rw [Ex.val_open] at HSZ HRZ HKI HRK HEV0 HRE0 HCO0 HRC0 HPA0 HRP0 HST0 HRS0 HFO0 HRF0 ⊢
  simp only [Ex.val_open F] at HSA
  rw [Val.open_] at HEV0 HRE0
  clear ha hr hK hC hv hf hm hsn hsh her hst hbc
  go_enter Tryz.func4, Tryz.ntmps4
  go_upto_region 2 with (go_at_call 25; refine (unhide HSZ _ (unhide HB0)).mono ?_; rintro r w1 ⟨rfl, hb1⟩)
  refine enter_with (fun wy => Six wy w.heap.size e a c ∧ Below w.heap.size w wy) ⟨(unhide H6).later hb1, below_step (unhide HB0) hb1⟩ ?_
  intro wy HW
  clear hb1 H6 HB0
  obtain ⟨⟨b0, b1, b2, b3, b4, b5⟩, hBy⟩ := unhide HW
  go_upto_region 3 with (go_at_call 26; refine (unhide HRZ wy hBy).mono ?_; rintro r w2 ⟨rfl, hb2⟩)
  refine enter_with (fun wy => Six wy w.heap.size e a c ∧ Below w.heap.size w wy) ⟨(unhide HW).1.later hb2, below_step hBy hb2⟩ ?_
  intro wy2 HW2
  clear hb2 HW hBy b0 b1 b2 b3 b4 b5
  obtain ⟨⟨b0, b1, b2, b3, b4, b5⟩, hBy⟩ := unhide HW2
  go_upto_region 4 with (go_at_call 27; refine (unhide HKI wy2 hBy).mono ?_; rintro r w3 ⟨⟨kk, rfl, hkr⟩, hb3⟩)
  refine enter_with (fun wy => Six wy w.heap.size e a c ∧ Below w.heap.size w wy) ⟨(unhide HW2).1.later hb3, below_step hBy hb3⟩ ?_
  intro wy3 HW3
  have HKR := hide hkr
  clear hb3 HW2 hBy b0 b1 b2 b3 b4 b5 hkr
  obtain ⟨⟨b0, b1, b2, b3, b4, b5⟩, hBy⟩ := unhide HW3
  have HRK2 : Hid (Calls Tryz.prog 28 #[.agg #[.int .i64 e.op, .int .i64 e.n, .int .i64 e.v.k, .int .i64 e.v.n, .string e.v.s, .slice a e.args.length c], .slice aK ks.length cK] wy3 fun r w' => r = .returned (.tuple #[.int .i64 kk, .int .i64 er]) ∧ Below wy3.heap.size wy3 w') := (unhide HRK wy3 hBy).mono fun r w' ⟨⟨l, h1, h2⟩, h3⟩ => ⟨by rw [h1, (unhide HKR).same h2], h3⟩
  go_upto_region 5 with (go_at_call 28; refine (unhide HRK2).mono ?_; rintro r w4 ⟨rfl, hb4⟩)
  refine enter_with (fun wy => Six wy w.heap.size e a c ∧ Below w.heap.size w wy) ⟨(unhide HW3).1.later hb4, below_step hBy hb4⟩ ?_
  intro wx HX
  clear hb4 HW3 hBy b0 b1 b2 b3 b4 b5 HRK2 HKR HKI HRK HSZ HRZ
  have HY := hide (unhide HX).1
  have HEV := hide (fun (W : World) (hW : Below wx.heap.size wx W) => unhide HEV0 W (below_step (unhide HX).2 hW))
  have HREV := hide (fun (W : World) (hW : Below wx.heap.size wx W) => unhide HRE0 W (below_step (unhide HX).2 hW))
  go_cut [66] (fun v wz => v = .bool false ∧ Hid (Below wx.heap.size wx wz))
  case first =>
    refine wp_region_noPanic ?_
    refine wp_region_G (S := fun w' : World => Below wx.heap.size wx w') (k := 27) (by kernel_rfl) ?_
    refine anyG_takel (i := 0) (v := (.int .i64 sn)) [2, 3, 4, 5, 6, 7, 8, 9, 10, 11, 12, 13, 14, 15, 16, 17, 18, 19, 20, 21, 22, 23, 24, 25, 26, 27] rfl (by kernel_rfl) (by kernel_rfl) (by kernel_rfl) (by kernel_rfl) (fun _ _ _ h => h) (Or.inl ⟨by rfl, fun w' hSw => ?_⟩) ((Below.refl _ wx).drew) ?_
    · go_simp
    try simp only [Act.put, List.setIfInBounds_toArray, List.set_cons_zero, List.set_cons_succ]
    refine anyG_takel (i := 1) (v := (.int .i64 sn)) [2, 3, 4, 5, 6, 7, 8, 9, 10, 11, 12, 13, 14, 15, 16, 17, 18, 19, 20, 21, 22, 23, 24, 25, 26, 27] rfl (by kernel_rfl) (by kernel_rfl) (by kernel_rfl) (by kernel_rfl) (fun _ _ _ h => h) (Or.inl ⟨by rfl, fun w' hSw => ?_⟩) ((Below.refl _ wx).drew) ?_
    · go_simp
    try simp only [Act.put, List.setIfInBounds_toArray, List.set_cons_zero, List.set_cons_succ]
    refine anyG_takel (i := 2) (v := (.bool false)) [3, 4, 5, 6, 7, 8, 9, 10, 11, 12, 13, 14, 15, 16, 17, 18, 19, 20, 21, 22, 23, 24, 25, 26, 27] rfl (by kernel_rfl) (by kernel_rfl) (by kernel_rfl) (by kernel_rfl) (fun _ _ _ h => h) (Or.inl ⟨by rfl, fun w' hSw => ?_⟩) ((Below.refl _ wx).drew) ?_
    · go_simp
    try simp only [Act.put, List.setIfInBounds_toArray, List.set_cons_zero, List.set_cons_succ]
    refine anyG_takel (i := 3) (v := (.bool false)) [4, 5, 6, 7, 8, 9, 10, 11, 12, 13, 14, 15, 16, 17, 18, 19, 20, 21, 22, 23, 24, 25, 26, 27] rfl (by kernel_rfl) (by kernel_rfl) (by kernel_rfl) (by kernel_rfl) (fun _ _ _ h => h) (Or.inl ⟨by rfl, fun w' hSw => ?_⟩) ((Below.refl _ wx).drew) ?_
    · go_simp
    try simp only [Act.put, List.setIfInBounds_toArray, List.set_cons_zero, List.set_cons_succ]
    refine anyG_takel (i := 4) (v := (.int .i64 sh)) [6, 7, 8, 9, 10, 11, 12, 13, 14, 15, 16, 17, 18, 19, 20, 21, 22, 23, 24, 25, 26, 27] rfl (by kernel_rfl) (by kernel_rfl) (by kernel_rfl) (by kernel_rfl) (fun _ _ _ h => h) (Or.inl ⟨by rfl, fun w' hSw => ?_⟩) ((Below.refl _ wx).drew) ?_
    · go_simp
    try simp only [Act.put, List.setIfInBounds_toArray, List.set_cons_zero, List.set_cons_succ]
    refine anyG_takel (i := 5) (v := (.int .i64 sh)) [6, 7, 8, 9, 10, 11, 12, 13, 14, 15, 16, 17, 18, 19, 20, 21, 22, 23, 24, 25, 26, 27] rfl (by kernel_rfl) (by kernel_rfl) (by kernel_rfl) (by kernel_rfl) (fun _ _ _ h => h) (Or.inl ⟨by rfl, fun w' hSw => ?_⟩) ((Below.refl _ wx).drew) ?_
    · go_simp
    try simp only [Act.put, List.setIfInBounds_toArray, List.set_cons_zero, List.set_cons_succ]
    refine anyG_takel (i := 6) (v := (.bool false)) [7, 8, 9, 10, 11, 12, 13, 14, 15, 16, 17, 18, 19, 20, 21, 22, 23, 24, 25, 26, 27] rfl (by kernel_rfl) (by kernel_rfl) (by kernel_rfl) (by kernel_rfl) (fun _ _ _ h => h) (Or.inl ⟨by rfl, fun w' hSw => ?_⟩) ((Below.refl _ wx).drew) ?_
    · go_simp
    try simp only [Act.put, List.setIfInBounds_toArray, List.set_cons_zero, List.set_cons_succ]
    refine anyG_takel (i := 7) (v := (.bool false)) [8, 9, 10, 11, 12, 13, 14, 15, 16, 17, 18, 19, 20, 21, 22, 23, 24, 25, 26, 27] rfl (by kernel_rfl) (by kernel_rfl) (by kernel_rfl) (by kernel_rfl) (fun _ _ _ h => h) (Or.inl ⟨by rfl, fun w' hSw => ?_⟩) ((Below.refl _ wx).drew) ?_
    · go_simp
    try simp only [Act.put, List.setIfInBounds_toArray, List.set_cons_zero, List.set_cons_succ]
    refine anyG_takel (i := 8) (v := (.bool false)) [9, 10, 11, 12, 13, 14, 15, 16, 17, 18, 19, 20, 21, 22, 23, 24, 25, 26, 27] rfl (by kernel_rfl) (by kernel_rfl) (by kernel_rfl) (by kernel_rfl) (fun _ _ _ h => h) (Or.inl ⟨by rfl, fun w' hSw => ?_⟩) ((Below.refl _ wx).drew) ?_
    · go_simp
    try simp only [Act.put, List.setIfInBounds_toArray, List.set_cons_zero, List.set_cons_succ]
    refine anyG_takel (i := 9) (v := (.int .i64 kk)) [11, 12, 13, 14, 15, 16, 17, 18, 19, 20, 21, 22, 23, 24, 25, 26, 27] rfl (by kernel_rfl) (by kernel_rfl) (by kernel_rfl) (by kernel_rfl) (fun _ _ _ h => h) (Or.inl ⟨by rfl, fun w' hSw => ?_⟩) ((Below.refl _ wx).drew) ?_
    · go_simp
    try simp only [Act.put, List.setIfInBounds_toArray, List.set_cons_zero, List.set_cons_succ]
    refine anyG_takel (i := 10) (v := (.int .i64 kk)) [11, 12, 13, 14, 15, 16, 17, 18, 19, 20, 21, 22, 23, 24, 25, 26, 27] rfl (by kernel_rfl) (by kernel_rfl) (by kernel_rfl) (by kernel_rfl) (fun _ _ _ h => h) (Or.inl ⟨by rfl, fun w' hSw => ?_⟩) ((Below.refl _ wx).drew) ?_
    · go_simp
    try simp only [Act.put, List.setIfInBounds_toArray, List.set_cons_zero, List.set_cons_succ]
    refine anyG_takel (i := 11) (v := (.bool false)) [12, 13, 14, 15, 16, 17, 18, 19, 20, 21, 22, 23, 24, 25, 26, 27] rfl (by kernel_rfl) (by kernel_rfl) (by kernel_rfl) (by kernel_rfl) (fun _ _ _ h => h) (Or.inl ⟨by rfl, fun w' hSw => ?_⟩) ((Below.refl _ wx).drew) ?_
    · go_simp
    try simp only [Act.put, List.setIfInBounds_toArray, List.set_cons_zero, List.set_cons_succ]
    refine anyG_takel (i := 12) (v := (.bool false)) [13, 14, 15, 16, 17, 18, 19, 20, 21, 22, 23, 24, 25, 26, 27] rfl (by kernel_rfl) (by kernel_rfl) (by kernel_rfl) (by kernel_rfl) (fun _ _ _ h => h) (Or.inl ⟨by rfl, fun w' hSw => ?_⟩) ((Below.refl _ wx).drew) ?_
    · go_simp
    try simp only [Act.put, List.setIfInBounds_toArray, List.set_cons_zero, List.set_cons_succ]
    refine anyG_takel (i := 13) (v := (.bool false)) [14, 15, 16, 17, 18, 19, 20, 21, 22, 23, 24, 25, 26, 27] rfl (by kernel_rfl) (by kernel_rfl) (by kernel_rfl) (by kernel_rfl) (fun _ _ _ h => h) (Or.inl ⟨by rfl, fun w' hSw => ?_⟩) ((Below.refl _ wx).drew) ?_
    · go_simp
    try simp only [Act.put, List.setIfInBounds_toArray, List.set_cons_zero, List.set_cons_succ]
    refine anyG_takel (i := 14) (v := (.int .i64 er)) [15, 17, 18, 19, 20, 21, 22, 23, 24, 25, 26, 27] rfl (by kernel_rfl) (by kernel_rfl) (by kernel_rfl) (by kernel_rfl) (fun _ _ _ h => h) (Or.inl ⟨by rfl, fun w' hSw => ?_⟩) ((Below.refl _ wx).drew) ?_
    · go_simp
    try simp only [Act.put, List.setIfInBounds_toArray, List.set_cons_zero, List.set_cons_succ]
    refine anyG_takel (i := 16) (v := (.int .i64 er)) [17, 18, 19, 20, 21, 22, 23, 24, 25, 26, 27] rfl (by kernel_rfl) (by kernel_rfl) (by kernel_rfl) (by kernel_rfl) (fun _ _ _ h => h) (Or.inl ⟨by rfl, fun w' hSw => ?_⟩) ((Below.refl _ wx).drew) ?_
    · go_simp
    try simp only [Act.put, List.setIfInBounds_toArray, List.set_cons_zero, List.set_cons_succ]
    refine anyG_one (i := 15) (by kernel_rfl) ?_
    refine wpOp_lit rfl (by rfl) fun K' hK' => ?_
    go_simp
    refine (unhide HNU er wx.drew).mono ?_
    rintro r w6 ⟨rfl, hb6⟩
    go_simp
    have hS6 : Below wx.heap.size wx w6 := below_step ((Below.refl _ wx).drew) hb6
    refine unhide hK' _ _ ⟨fun _ => hS6, ?_⟩
    clear hK' K'
    refine anyG_takel (i := 17) (v := (.bool false)) [18, 19, 20, 21, 22, 23, 24, 25, 26, 27] rfl (by kernel_rfl) (by kernel_rfl) (by kernel_rfl) (by kernel_rfl) (fun _ _ _ h => h) (Or.inl ⟨by rfl, fun w' hSw => ?_⟩) hS6 ?_
    · go_simp
    try simp only [Act.put, List.setIfInBounds_toArray, List.set_cons_zero, List.set_cons_succ]
    refine anyG_takel (i := 18) (v := (.bool false)) [19, 20, 21, 22, 23, 24, 25, 26, 27] rfl (by kernel_rfl) (by kernel_rfl) (by kernel_rfl) (by kernel_rfl) (fun _ _ _ h => h) (Or.inl ⟨by rfl, fun w' hSw => ?_⟩) hS6 ?_
    · go_simp
    try simp only [Act.put, List.setIfInBounds_toArray, List.set_cons_zero, List.set_cons_succ]
    refine anyG_takel (i := 19) (v := (.bool false)) [20, 21, 22, 23, 24, 25, 26, 27] rfl (by kernel_rfl) (by kernel_rfl) (by kernel_rfl) (by kernel_rfl) (fun _ _ _ h => h) (Or.inl ⟨by rfl, fun w' hSw => ?_⟩) hS6 ?_
    · go_simp
    try simp only [Act.put, List.setIfInBounds_toArray, List.set_cons_zero, List.set_cons_succ]
    refine anyG_takel (i := 20) (v := (.agg #[.int .i64 e.op, .int .i64 e.n, .int .i64 e.v.k, .int .i64 e.v.n, .string e.v.s, .slice a e.args.length c])) [22, 25, 26, 27] rfl (by kernel_rfl) (by kernel_rfl) (by kernel_rfl) (by kernel_rfl) (fun _ _ _ h => h) (Or.inl ⟨by rfl, fun w' hSw => ?_⟩) hS6 ?_
    · obtain ⟨e0, e1, e2, e3, e4, e5⟩ := (unhide HY).later hSw
      go_simp
    try simp only [Act.put, List.setIfInBounds_toArray, List.set_cons_zero, List.set_cons_succ]
    refine anyG_takel (i := 21) (v := (.slice aR row.length cR)) [22, 25, 26, 27] rfl (by kernel_rfl) (by kernel_rfl) (by kernel_rfl) (by kernel_rfl) (fun _ _ _ h => h) (Or.inl ⟨by rfl, fun w' hSw => ?_⟩) hS6 ?_
    · go_simp
    try simp only [Act.put, List.setIfInBounds_toArray, List.set_cons_zero, List.set_cons_succ]
    refine anyG_takel (i := 23) (v := (.agg #[.int .i64 e.op, .int .i64 e.n, .int .i64 e.v.k, .int .i64 e.v.n, .string e.v.s, .slice a e.args.length c])) [25, 26, 27] rfl (by kernel_rfl) (by kernel_rfl) (by kernel_rfl) (by kernel_rfl) (fun _ _ _ h => h) (Or.inl ⟨by rfl, fun w' hSw => ?_⟩) hS6 ?_
    · obtain ⟨e0, e1, e2, e3, e4, e5⟩ := (unhide HY).later hSw
      go_simp
    try simp only [Act.put, List.setIfInBounds_toArray, List.set_cons_zero, List.set_cons_succ]
    refine anyG_takel (i := 24) (v := (.slice aR row.length cR)) [25, 26, 27] rfl (by kernel_rfl) (by kernel_rfl) (by kernel_rfl) (by kernel_rfl) (fun _ _ _ h => h) (Or.inl ⟨by rfl, fun w' hSw => ?_⟩) hS6 ?_
    · go_simp
    try simp only [Act.put, List.setIfInBounds_toArray, List.set_cons_zero, List.set_cons_succ]
    refine anyG_one (i := 22) (by kernel_rfl) ?_
    refine wpOp_lit rfl (by rfl) fun K' hK' => ?_
    go_simp
    refine (unhide HEV w6 hS6).mono ?_
    rintro r w7 ⟨rfl, hb7⟩
    go_simp
    have hS7 : Below wx.heap.size wx w7 := below_step hS6 hb7
    refine unhide hK' _ _ ⟨fun _ => hS7, ?_⟩
    clear hK' K'
    refine anyG_one (i := 25) (by kernel_rfl) ?_
    refine wpOp_lit rfl (by rfl) fun K' hK' => ?_
    go_simp
    refine (unhide HREV w7 hS7).mono ?_
    rintro r w8 ⟨rfl, hb8⟩
    go_simp
    have hS8 : Below wx.heap.size wx w8 := below_step hS7 hb8
    refine unhide hK' _ _ ⟨fun _ => hS8, ?_⟩
    clear hK' K'
    refine anyG_takel (i := 26) (v := (.bool false)) [27] rfl (by kernel_rfl) (by kernel_rfl) (by kernel_rfl) (by kernel_rfl) (fun _ _ _ h => h) (Or.inl ⟨by rfl, fun w' hSw => ?_⟩) hS8 ?_
    · have hq := neqV ev w'
      have hg : (eqGuard .neq 38 (.tmp 61) (.tmp 64) (.agg #[.int .i64 ev.k, .int .i64 ev.n, .string ev.s]) (.agg #[.int .i64 ev.k, .int .i64 ev.n, .string ev.s])).run Tryz.prog w' = .ok () w' := run_eqGuard_agg w' .neq 38 (.tmp 61) (.tmp 64) _ _ (by kernel_rfl)
      unfold execOp
      simp only [Sem.run_bind]
      erw [hg]
      simp only [Result.andThen_ok]
      erw [hq]
      rfl
    try simp only [Act.put, List.setIfInBounds_toArray, List.set_cons_zero, List.set_cons_succ]
    refine anyG_one (i := 27) (by kernel_rfl) ?_
    refine wpOp_lit rfl (by rfl) fun K' hK' => ?_
    go_simp
    refine unhide hK' _ _ ⟨fun hh => absurd hh (by decide), ?_⟩
    clear hK' K'
    refine anyG_done (by kernel_rfl) ?_ _
    refine NoPanic.normal ?_
    go_wp2
    go_meet
    exact ⟨rfl, hS8⟩
  case rest =>
    obtain ⟨rfl, HZ⟩ := hcut
    have HY := hide ((unhide HX).1.later (unhide HZ))
    have HBZ := hide (below_step (unhide HX).2 (unhide HZ))
    have HCO := hide (fun (W : World) (hW : Below wc.heap.size wc W) => unhide HCO0 W (below_step (unhide HBZ) hW))
    have HRC := hide (fun (W : World) (hW : Below wc.heap.size wc W) => unhide HRC0 W (below_step (unhide HBZ) hW))
    have HPA := hide (fun (W : World) (hW : Below wc.heap.size wc W) => unhide HPA0 W (below_step (unhide HBZ) hW))
    have HRP := hide (fun (W : World) (hW : Below wc.heap.size wc W) => unhide HRP0 W (below_step (unhide HBZ) hW))
    have HST := hide (fun (W : World) (hW : Below wc.heap.size wc W) => unhide HST0 W (below_step (unhide HBZ) hW))
    have HRS := hide (fun (W : World) (hW : Below wc.heap.size wc W) => unhide HRS0 W (below_step (unhide HBZ) hW))
    have HFO := hide (fun (W : World) (hW : Below wc.heap.size wc W) => unhide HFO0 W (below_step (unhide HBZ) hW))
    have HRF := hide (fun (W : World) (hW : Below wc.heap.size wc W) => unhide HRF0 W (below_step (unhide HBZ) hW))
    clear HX HZ HCO0 HRC0 HPA0 HRP0 HST0 HRS0 HFO0 HRF0 HEV0 HRE0 HEV HREV HNU
    go_upto_region 7 with fail
    go_cut [8] (fun v wq => v = .bool true ∧ Hid (Below wc.heap.size wc wq))
    case first =>
      refine wp_region_noPanic ?_
      refine wp_region_G (S := fun w' : World => Below wc.heap.size wc w') (k := 28) (by kernel_rfl) ?_
      refine anyG_takel (i := 0) (v := (.agg #[.int .i64 e.op, .int .i64 e.n, .int .i64 e.v.k, .int .i64 e.v.n, .string e.v.s, .slice a e.args.length c])) [1, 3, 4, 5, 6, 7, 8, 9, 10, 11, 12, 13, 14, 15, 16, 17, 18, 19, 20, 21, 22, 23, 24, 25, 26, 27, 28] rfl (by kernel_rfl) (by kernel_rfl) (by kernel_rfl) (by kernel_rfl) (fun _ _ _ h => h) (Or.inl ⟨by rfl, fun w' hSw => ?_⟩) ((Below.refl _ wc).drew) ?_
      · obtain ⟨e0, e1, e2, e3, e4, e5⟩ := (unhide HY).later hSw
        go_simp
      try simp only [Act.put, List.setIfInBounds_toArray, List.set_cons_zero, List.set_cons_succ]
      refine anyG_takel (i := 2) (v := (.agg #[.int .i64 e.op, .int .i64 e.n, .int .i64 e.v.k, .int .i64 e.v.n, .string e.v.s, .slice a e.args.length c])) [3, 4, 5, 6, 7, 8, 9, 10, 11, 12, 13, 14, 15, 16, 17, 18, 19, 20, 21, 22, 23, 24, 25, 26, 27, 28] rfl (by kernel_rfl) (by kernel_rfl) (by kernel_rfl) (by kernel_rfl) (fun _ _ _ h => h) (Or.inl ⟨by rfl, fun w' hSw => ?_⟩) ((Below.refl _ wc).drew) ?_
      · obtain ⟨e0, e1, e2, e3, e4, e5⟩ := (unhide HY).later hSw
        go_simp
      try simp only [Act.put, List.setIfInBounds_toArray, List.set_cons_zero, List.set_cons_succ]
      refine anyG_one (i := 1) (by kernel_rfl) ?_
      refine wpOp_lit rfl (by rfl) fun K' hK' => ?_
      go_simp
      refine (unhide HCO wc.drew ((Below.refl _ wc).drew)).mono ?_
      rintro r w1 ⟨a1, c1, rfl, hI1, hb1⟩
      go_simp
      have hS1 : Below wc.heap.size wc w1 := below_step ((Below.refl _ wc).drew) hb1
      refine unhide hK' _ _ ⟨fun _ => hS1, ?_⟩
      clear hK' K'
      refine anyG_one (i := 3) (by kernel_rfl) ?_
      refine wpOp_lit rfl (by rfl) fun K' hK' => ?_
      go_simp
      refine (unhide HRC w1 hS1).mono ?_
      rintro r w2 ⟨a2, c2, rfl, hI2, hb2⟩
      go_simp
      have hS2 : Below wc.heap.size wc w2 := below_step hS1 hb2
      refine unhide hK' _ _ ⟨fun _ => hS2, ?_⟩
      clear hK' K'
      refine anyG_one (i := 4) (by kernel_rfl) ?_
      refine wpOp_lit rfl (by rfl) fun K' hK' => ?_
      go_simp
      refine (unhide HSN a1 a2 c1 c2 w2 (hI1.later hb2) hI2).mono ?_
      rintro r w3 ⟨rfl, hb3⟩
      go_simp
      have hS3 : Below wc.heap.size wc w3 := below_step hS2 hb3
      clear hI1 hI2
      refine unhide hK' _ _ ⟨fun _ => hS3, ?_⟩
      clear hK' K'
      refine anyG_takel (i := 5) (v := (.bool true)) [6, 7, 8, 9, 10, 11, 12, 13, 14, 15, 16, 17, 18, 19, 20, 21, 22, 23, 24, 25, 26, 27, 28] rfl (by kernel_rfl) (by kernel_rfl) (by kernel_rfl) (by kernel_rfl) (fun _ _ _ h => h) (Or.inl ⟨by rfl, fun w' hSw => ?_⟩) hS3 ?_
      · go_simp
      try simp only [Act.put, List.setIfInBounds_toArray, List.set_cons_zero, List.set_cons_succ]
      refine anyG_takel (i := 6) (v := (.agg #[.int .i64 e.op, .int .i64 e.n, .int .i64 e.v.k, .int .i64 e.v.n, .string e.v.s, .slice a e.args.length c])) [7, 9, 10, 11, 12, 13, 14, 15, 16, 17, 18, 19, 20, 21, 22, 23, 24, 25, 26, 27, 28] rfl (by kernel_rfl) (by kernel_rfl) (by kernel_rfl) (by kernel_rfl) (fun _ _ _ h => h) (Or.inl ⟨by rfl, fun w' hSw => ?_⟩) hS3 ?_
      · obtain ⟨e0, e1, e2, e3, e4, e5⟩ := (unhide HY).later hSw
        go_simp
      try simp only [Act.put, List.setIfInBounds_toArray, List.set_cons_zero, List.set_cons_succ]
      refine anyG_takel (i := 8) (v := (.agg #[.int .i64 e.op, .int .i64 e.n, .int .i64 e.v.k, .int .i64 e.v.n, .string e.v.s, .slice a e.args.length c])) [9, 10, 11, 12, 13, 14, 15, 16, 17, 18, 19, 20, 21, 22, 23, 24, 25, 26, 27, 28] rfl (by kernel_rfl) (by kernel_rfl) (by kernel_rfl) (by kernel_rfl) (fun _ _ _ h => h) (Or.inl ⟨by rfl, fun w' hSw => ?_⟩) hS3 ?_
      · obtain ⟨e0, e1, e2, e3, e4, e5⟩ := (unhide HY).later hSw
        go_simp
      try simp only [Act.put, List.setIfInBounds_toArray, List.set_cons_zero, List.set_cons_succ]
      refine anyG_one (i := 7) (by kernel_rfl) ?_
      refine wpOp_lit rfl (by rfl) fun K' hK' => ?_
      go_simp
      refine (unhide HPA w3 hS3).mono ?_
      rintro r w4 ⟨a4, c4, rfl, hX4, hb4⟩
      go_simp
      have hS4 : Below wc.heap.size wc w4 := below_step hS3 hb4
      refine unhide hK' _ _ ⟨fun _ => hS4, ?_⟩
      clear hK' K'
      refine anyG_one (i := 9) (by kernel_rfl) ?_
      refine wpOp_lit rfl (by rfl) fun K' hK' => ?_
      go_simp
      refine (unhide HRP w4 hS4).mono ?_
      rintro r w5 ⟨a5, c5, rfl, hX5, hb5⟩
      go_simp
      have hS5 : Below wc.heap.size wc w5 := below_step hS4 hb5
      refine unhide hK' _ _ ⟨fun _ => hS5, ?_⟩
      clear hK' K'
      refine anyG_one (i := 10) (by kernel_rfl) ?_
      refine wpOp_lit rfl (by rfl) fun K' hK' => ?_
      go_simp
      refine (unhide HSE a4 a5 c4 c5 w5 (Ex.all_later _ hX4 hb5) hX5).mono ?_
      rintro r w6 ⟨rfl, hb6⟩
      go_simp
      have hS6 : Below wc.heap.size wc w6 := below_step hS5 hb6
      clear hX4 hX5
      refine unhide hK' _ _ ⟨fun _ => hS6, ?_⟩
      clear hK' K'
      refine anyG_takel (i := 11) (v := (.bool true)) [12, 13, 14, 15, 16, 17, 18, 19, 20, 21, 22, 23, 24, 25, 26, 27, 28] rfl (by kernel_rfl) (by kernel_rfl) (by kernel_rfl) (by kernel_rfl) (fun _ _ _ h => h) (Or.inl ⟨by rfl, fun w' hSw => ?_⟩) hS6 ?_
      · go_simp
      try simp only [Act.put, List.setIfInBounds_toArray, List.set_cons_zero, List.set_cons_succ]
      refine anyG_takel (i := 12) (v := (.bool true)) [13, 14, 15, 16, 17, 18, 19, 20, 21, 22, 23, 24, 25, 26, 27, 28] rfl (by kernel_rfl) (by kernel_rfl) (by kernel_rfl) (by kernel_rfl) (fun _ _ _ h => h) (Or.inl ⟨by rfl, fun w' hSw => ?_⟩) hS6 ?_
      · go_simp
      try simp only [Act.put, List.setIfInBounds_toArray, List.set_cons_zero, List.set_cons_succ]
      refine anyG_takel (i := 13) (v := (.agg #[.int .i64 e.op, .int .i64 e.n, .int .i64 e.v.k, .int .i64 e.v.n, .string e.v.s, .slice a e.args.length c])) [15, 18, 19, 20, 21, 22, 23, 24, 25, 26, 27, 28] rfl (by kernel_rfl) (by kernel_rfl) (by kernel_rfl) (by kernel_rfl) (fun _ _ _ h => h) (Or.inl ⟨by rfl, fun w' hSw => ?_⟩) hS6 ?_
      · obtain ⟨e0, e1, e2, e3, e4, e5⟩ := (unhide HY).later hSw
        go_simp
      try simp only [Act.put, List.setIfInBounds_toArray, List.set_cons_zero, List.set_cons_succ]
      refine anyG_takel (i := 14) (v := (.slice aC cols.length cC)) [15, 18, 19, 20, 21, 22, 23, 24, 25, 26, 27, 28] rfl (by kernel_rfl) (by kernel_rfl) (by kernel_rfl) (by kernel_rfl) (fun _ _ _ h => h) (Or.inl ⟨by rfl, fun w' hSw => ?_⟩) hS6 ?_
      · go_simp
      try simp only [Act.put, List.setIfInBounds_toArray, List.set_cons_zero, List.set_cons_succ]
      refine anyG_takel (i := 16) (v := (.agg #[.int .i64 e.op, .int .i64 e.n, .int .i64 e.v.k, .int .i64 e.v.n, .string e.v.s, .slice a e.args.length c])) [18, 19, 20, 21, 22, 23, 24, 25, 26, 27, 28] rfl (by kernel_rfl) (by kernel_rfl) (by kernel_rfl) (by kernel_rfl) (fun _ _ _ h => h) (Or.inl ⟨by rfl, fun w' hSw => ?_⟩) hS6 ?_
      · obtain ⟨e0, e1, e2, e3, e4, e5⟩ := (unhide HY).later hSw
        go_simp
      try simp only [Act.put, List.setIfInBounds_toArray, List.set_cons_zero, List.set_cons_succ]
      refine anyG_takel (i := 17) (v := (.slice aC cols.length cC)) [18, 19, 20, 21, 22, 23, 24, 25, 26, 27, 28] rfl (by kernel_rfl) (by kernel_rfl) (by kernel_rfl) (by kernel_rfl) (fun _ _ _ h => h) (Or.inl ⟨by rfl, fun w' hSw => ?_⟩) hS6 ?_
      · go_simp
      try simp only [Act.put, List.setIfInBounds_toArray, List.set_cons_zero, List.set_cons_succ]
      refine anyG_one (i := 15) (by kernel_rfl) ?_
      refine wpOp_lit rfl (by rfl) fun K' hK' => ?_
      go_simp
      refine (unhide HST w6 hS6).mono ?_
      rintro r w7 ⟨rfl, hb7⟩
      go_simp
      have hS7 : Below wc.heap.size wc w7 := below_step hS6 hb7
      refine unhide hK' _ _ ⟨fun _ => hS7, ?_⟩
      clear hK' K'
      refine anyG_one (i := 18) (by kernel_rfl) ?_
      refine wpOp_lit rfl (by rfl) fun K' hK' => ?_
      go_simp
      refine (unhide HRS w7 hS7).mono ?_
      rintro r w8 ⟨rfl, hb8⟩
      go_simp
      have hS8 : Below wc.heap.size wc w8 := below_step hS7 hb8
      refine unhide hK' _ _ ⟨fun _ => hS8, ?_⟩
      clear hK' K'
      refine anyG_takel (i := 19) (v := (.bool true)) [20, 21, 22, 23, 24, 25, 26, 27, 28] rfl (by kernel_rfl) (by kernel_rfl) (by kernel_rfl) (by kernel_rfl) (fun _ _ _ h => h) (Or.inl ⟨by rfl, fun w' hSw => ?_⟩) hS8 ?_
      · go_simp
      try simp only [Act.put, List.setIfInBounds_toArray, List.set_cons_zero, List.set_cons_succ]
      refine anyG_takel (i := 20) (v := (.bool true)) [21, 22, 23, 24, 25, 26, 27, 28] rfl (by kernel_rfl) (by kernel_rfl) (by kernel_rfl) (by kernel_rfl) (fun _ _ _ h => h) (Or.inl ⟨by rfl, fun w' hSw => ?_⟩) hS8 ?_
      · go_simp
      try simp only [Act.put, List.setIfInBounds_toArray, List.set_cons_zero, List.set_cons_succ]
      refine anyG_takel (i := 21) (v := (.bool true)) [22, 23, 24, 25, 26, 27, 28] rfl (by kernel_rfl) (by kernel_rfl) (by kernel_rfl) (by kernel_rfl) (fun _ _ _ h => h) (Or.inl ⟨by rfl, fun w' hSw => ?_⟩) hS8 ?_
      · go_simp
      try simp only [Act.put, List.setIfInBounds_toArray, List.set_cons_zero, List.set_cons_succ]
      refine anyG_takel (i := 22) (v := (.agg #[.int .i64 e.op, .int .i64 e.n, .int .i64 e.v.k, .int .i64 e.v.n, .string e.v.s, .slice a e.args.length c])) [23, 25, 26, 27, 28] rfl (by kernel_rfl) (by kernel_rfl) (by kernel_rfl) (by kernel_rfl) (fun _ _ _ h => h) (Or.inl ⟨by rfl, fun w' hSw => ?_⟩) hS8 ?_
      · obtain ⟨e0, e1, e2, e3, e4, e5⟩ := (unhide HY).later hSw
        go_simp
      try simp only [Act.put, List.setIfInBounds_toArray, List.set_cons_zero, List.set_cons_succ]
      refine anyG_takel (i := 24) (v := (.agg #[.int .i64 e.op, .int .i64 e.n, .int .i64 e.v.k, .int .i64 e.v.n, .string e.v.s, .slice a e.args.length c])) [25, 26, 27, 28] rfl (by kernel_rfl) (by kernel_rfl) (by kernel_rfl) (by kernel_rfl) (fun _ _ _ h => h) (Or.inl ⟨by rfl, fun w' hSw => ?_⟩) hS8 ?_
      · obtain ⟨e0, e1, e2, e3, e4, e5⟩ := (unhide HY).later hSw
        go_simp
      try simp only [Act.put, List.setIfInBounds_toArray, List.set_cons_zero, List.set_cons_succ]
      refine anyG_one (i := 23) (by kernel_rfl) ?_
      refine wpOp_lit rfl (by rfl) fun K' hK' => ?_
      go_simp
      refine (unhide HFO w8 hS8).mono ?_
      rintro r w9 ⟨a9, c9, rfl, hX9, hb9⟩
      go_simp
      have hS9 : Below wc.heap.size wc w9 := below_step hS8 hb9
      rw [Ex.val_open]
      refine unhide hK' _ _ ⟨fun _ => hS9, ?_⟩
      clear hK' K'
      refine anyG_one (i := 25) (by kernel_rfl) ?_
      refine wpOp_lit rfl (by rfl) fun K' hK' => ?_
      go_simp
      refine (unhide HRF w9 hS9).mono ?_
      rintro r w10 ⟨a10, c10, rfl, hX10, hb10⟩
      go_simp
      have hS10 : Below wc.heap.size wc w10 := below_step hS9 hb10
      rw [Ex.val_open]
      refine unhide hK' _ _ ⟨fun _ => hS10, ?_⟩
      clear hK' K'
      refine anyG_one (i := 26) (by kernel_rfl) ?_
      refine wpOp_lit rfl (by rfl) fun K' hK' => ?_
      go_simp
      refine (unhide HSA a9 a10 c9 c10 w10 (Ex.all_later _ hX9 hb10) hX10).mono ?_
      rintro r w11 ⟨rfl, hb11⟩
      go_simp
      have hS11 : Below wc.heap.size wc w11 := below_step hS10 hb11
      refine unhide hK' _ _ ⟨fun _ => hS11, ?_⟩
      clear hK' K'
      refine anyG_takel (i := 27) (v := (.bool true)) [28] rfl (by kernel_rfl) (by kernel_rfl) (by kernel_rfl) (by kernel_rfl) (fun _ _ _ h => h) (Or.inl ⟨by rfl, fun w' hSw => ?_⟩) hS11 ?_
      · go_simp
      try simp only [Act.put, List.setIfInBounds_toArray, List.set_cons_zero, List.set_cons_succ]
      refine anyG_one (i := 28) (by kernel_rfl) ?_
      refine wpOp_lit rfl (by rfl) fun K' hK' => ?_
      go_simp
      refine unhide hK' _ _ ⟨fun hh => absurd hh (by decide), ?_⟩
      clear hK' K'
      refine anyG_done (by kernel_rfl) ?_ _
      refine NoPanic.normal ?_
      go_wp2
      go_meet
      exact ⟨rfl, hS11⟩
    obtain ⟨rfl, HQ⟩ := hcut
    go_wp2
    go_ret
    exact ⟨rfl, below_step (unhide HBZ) (unhide HQ)⟩
end Go.Proofs.YtmjeiepljlepbacGreat

import Derived.Test.YtfnacpkodfhfoacFoI
set_option linter.unusedSimpArgs false
set_option linter.unusedVariables false
namespace Go.Proofs.Ytfnacpkodfhfoac
open Go.RowKit Go.Sort

theorem ent36 : Enters 36 := fun args w => by kernel_rfl
set_option maxRecDepth 100000 in
theorem by_simp (W : World) : By W (.func (.func 36) #[] #[]) simpE (fun e => goodE e ∧ e.fin) :=
  ⟨36, #[], rfl, ent36, fun W' lo e a c _ _ hP hK => simpler_any e hP.1 hP.2 a c lo W' hK⟩
theorem made_fold (e : Ex) (hb : builtE e = true) (hf : e.fin) (a : Option Addr) (c : Nat) (w : World) (ha : Ex.all w a e.args) :
    Calls Try.prog 22 #[e.val a c, .func (.func 36) #[] #[]] w fun r w' => ∃ a2 c2, r = .returned ((foldE e).val a2 c2) ∧ ExK w.heap.size w' a2 (foldE e).args ∧ Below w.heap.size w w' :=
  made_all (F := .func (.func 36) #[] #[]) (g := simpE) (P := fun e => goodE e ∧ e.fin) (Q := fun e => goodE e ∧ e.fin)
    (fun x hq => ⟨fold_node x hq.1, node_fin x hq.2 fun y hy => fold_fin y (goodL_mem (good_open hq.1).2 hy) (Ex.fins_mem (Ex.fin_open hq.2).2 hy)⟩)
    (fun x y i hq hy => ⟨good_arg hq.1 hy, Ex.fin_arg hq.2 hy⟩) e.size e (Nat.le_refl _) (meas_short soundE e 400 40 (by omega) hb) ⟨built_good hb, hf⟩ a c w ha (by_simp w)
set_option maxHeartbeats 400000 in
set_option maxRecDepth 100000 in
theorem copied_far (e : Ex) (hf : e.fin) (hfar : (measE allE e 33554432 131072).2.2 = false) (a : Option Addr) (c : Nat) (w : World) (ha : Ex.all w a e.args) :
    Calls Try.prog 28 #[e.val a c] w fun r w' => r = .returned (e.val a c) ∧ Below w.heap.size w w' := by
  have HM := hide (fun (W : World) (hW : Below w.heap.size w W) => measuredA_all e.size e (Nat.le_refl _) hf 33554432 131072 a c W (by omega) (by omega) (by omega) (by omega) (Ex.all_later _ ha hW))
  have HA := hide (fun (W : World) (hW : Below w.heap.size w W) => Ex.all_later _ ha hW)
  have HB0 : Hid (Below w.heap.size w ((w.alloc (.cells #[.int .i64 e.op, .int .i64 e.n, .int .i64 e.v.k, .int .i64 e.v.n, .string e.v.s, .slice a e.args.length c] 26)).alloc (.cells #[.int .i64 0, .int .i64 0, .int .i64 0, .int .i64 0, .string ⟨#[]⟩, .slice none 0 0] 26))) := below_alloc (below_alloc (Below.refl _ w) _) _
  have H6 : Hid (Six ((w.alloc (.cells #[.int .i64 e.op, .int .i64 e.n, .int .i64 e.v.k, .int .i64 e.v.n, .string e.v.s, .slice a e.args.length c] 26)).alloc (.cells #[.int .i64 0, .int .i64 0, .int .i64 0, .int .i64 0, .string ⟨#[]⟩, .slice none 0 0] 26)) w.heap.size e a c) := (Six.new w e a c).later (below_alloc (Below.refl _ _) _)
  have HZ : Hid (Box6 ((w.alloc (.cells #[.int .i64 e.op, .int .i64 e.n, .int .i64 e.v.k, .int .i64 e.v.n, .string e.v.s, .slice a e.args.length c] 26)).alloc (.cells #[.int .i64 0, .int .i64 0, .int .i64 0, .int .i64 0, .string ⟨#[]⟩, .slice none 0 0] 26)) (w.heap.size + 1) zeroE none 0) := by
    have h := Box6.new (w.alloc (.cells #[.int .i64 e.op, .int .i64 e.n, .int .i64 e.v.k, .int .i64 e.v.n, .string e.v.s, .slice a e.args.length c] 26)) zeroE none 0
    rw [show (w.alloc (.cells #[.int .i64 e.op, .int .i64 e.n, .int .i64 e.v.k, .int .i64 e.v.n, .string e.v.s, .slice a e.args.length c] 26)).heap.size = w.heap.size + 1 by simp [go_sem]] at h
    exact h
  have HS : Hid (((w.alloc (.cells #[.int .i64 e.op, .int .i64 e.n, .int .i64 e.v.k, .int .i64 e.v.n, .string e.v.s, .slice a e.args.length c] 26)).alloc (.cells #[.int .i64 0, .int .i64 0, .int .i64 0, .int .i64 0, .string ⟨#[]⟩, .slice none 0 0] 26)).heap.size = w.heap.size + 2) := by
    show _ = _
    simp [go_sem]
  clear ha
  obtain ⟨q, hq⟩ : ∃ q, measE allE e 33554432 131072 = q := ⟨_, rfl⟩
  rw [hq] at HM hfar
  obtain ⟨c2, h2, ok⟩ := q
  clear hq
  simp only at hfar
  subst hfar
  rw [Ex.val_open] at HM ⊢
  go_enter Try.func28, Try.ntmps28
  go_wp2_with (go_at_call 37; refine (unhide HM _ (unhide HB0)).mono ?_; rintro r w1 ⟨rfl, hb1⟩; obtain ⟨b0, b1, b2, b3, b4, b5⟩ := (unhide H6).later hb1; obtain ⟨⟨z0, z1, z2, z3, z4, z5⟩, f0, f1, f2, f3, f4, f5⟩ := (unhide HZ).later hb1)
  refine bodyPost_ret (v := e.val a c) (by simp [results, Try.results28, go_sem, Ex.val, *]) rfl ⟨rfl, ?_⟩
  exact put6 (below_step (unhide HB0) hb1) (by omega) _ _ _ _ _ _
set_option maxHeartbeats 400000 in
set_option maxRecDepth 100000 in
/-- Fold (14). -/
theorem fold_any (e : Ex) (hf : e.fin) (a : Option Addr) (c : Nat) (w : World) (ha : Ex.all w a e.args) :
    Calls Try.prog 14 #[e.val a c] w fun r w' => ∃ a2 c2, r = .returned ((foldB e).val a2 c2) ∧ Ex.all w' a2 (foldB e).args ∧ Below w.heap.size w w' := by
  have HB := hide (fun (W : World) (hW : Below w.heap.size w W) => built_any e hf a c W (Ex.all_later _ ha hW))
  have HC := hide (fun (W : World) (hW : Below w.heap.size w W) => copied_any e hf a c W (Ex.all_later _ ha hW))
  have HCF := hide (fun (hn : (measE allE e 33554432 131072).2.2 = false) (W : World) (hW : Below w.heap.size w W) => copied_far e hf hn a c W (Ex.all_later _ ha hW))
  have HAL := hide (fun (W : World) (hW : Below w.heap.size w W) => Ex.all_later _ ha hW)
  have HM := hide (fun (hb : builtE e = true) (W : World) (hW : Below w.heap.size w W) => made_fold e hb hf a c W (Ex.all_later _ ha hW))
  have HB0 : Hid (Below w.heap.size w ((w.alloc (.cells #[.int .i64 e.op, .int .i64 e.n, .int .i64 e.v.k, .int .i64 e.v.n, .string e.v.s, .slice a e.args.length c] 26)).alloc (.cells #[.int .i64 0, .int .i64 0, .int .i64 0, .int .i64 0, .string ⟨#[]⟩, .slice none 0 0] 26))) := below_alloc (below_alloc (Below.refl _ w) _) _
  have H6 : Hid (Six ((w.alloc (.cells #[.int .i64 e.op, .int .i64 e.n, .int .i64 e.v.k, .int .i64 e.v.n, .string e.v.s, .slice a e.args.length c] 26)).alloc (.cells #[.int .i64 0, .int .i64 0, .int .i64 0, .int .i64 0, .string ⟨#[]⟩, .slice none 0 0] 26)) w.heap.size e a c) := (Six.new w e a c).later (below_alloc (Below.refl _ _) _)
  have HZ : Hid (Box6 ((w.alloc (.cells #[.int .i64 e.op, .int .i64 e.n, .int .i64 e.v.k, .int .i64 e.v.n, .string e.v.s, .slice a e.args.length c] 26)).alloc (.cells #[.int .i64 0, .int .i64 0, .int .i64 0, .int .i64 0, .string ⟨#[]⟩, .slice none 0 0] 26)) (w.heap.size + 1) zeroE none 0) := by
    have h := Box6.new (w.alloc (.cells #[.int .i64 e.op, .int .i64 e.n, .int .i64 e.v.k, .int .i64 e.v.n, .string e.v.s, .slice a e.args.length c] 26)) zeroE none 0
    rw [show (w.alloc (.cells #[.int .i64 e.op, .int .i64 e.n, .int .i64 e.v.k, .int .i64 e.v.n, .string e.v.s, .slice a e.args.length c] 26)).heap.size = w.heap.size + 1 by simp [go_sem]] at h
    exact h
  have HS : Hid (((w.alloc (.cells #[.int .i64 e.op, .int .i64 e.n, .int .i64 e.v.k, .int .i64 e.v.n, .string e.v.s, .slice a e.args.length c] 26)).alloc (.cells #[.int .i64 0, .int .i64 0, .int .i64 0, .int .i64 0, .string ⟨#[]⟩, .slice none 0 0] 26)).heap.size = w.heap.size + 2) := by
    show _ = _
    simp [go_sem]
  rw [Ex.val_open] at HB HC HM HCF ⊢
  clear ha
  cases hb : builtE e with
  | true =>
    have HM2 := hide (unhide HM hb)
    have HV : Hid (foldB e = foldE e) := by show _ = _; unfold foldB; rw [if_pos hb]
    rw [hb] at HB
    clear HM hb HC HCF HAL
    go_enter Try.func14, Try.ntmps14
    go_wp2_with (first
      | (go_at_call 18; refine (unhide HB _ (unhide HB0)).mono ?_; rintro r w1 ⟨rfl, hb1⟩; have hB1 := below_step (unhide HB0) hb1; obtain ⟨b0, b1, b2, b3, b4, b5⟩ := (unhide H6).later hb1)
      | (go_at_call 22; refine (unhide HM2 _ hB1).mono ?_; rintro r w2 ⟨a2, c2, rfl, hK2, hb2⟩; have HK2 := hide hK2; clear hK2; have hs1 := (unhide HS); have hs2 := hb1.size; obtain ⟨⟨z0, z1, z2, z3, z4, z5⟩, f0, f1, f2, f3, f4, f5⟩ := (unhide HZ).later (below_step hb1 hb2); rw [Ex.val_open]))
    have hE := put6 (below_step hB1 hb2) (B := w.heap.size + 1) (by omega) (.int .i64 (foldE e).op) (.int .i64 (foldE e).n) (.int .i64 (foldE e).v.k) (.int .i64 (foldE e).v.n) (.string (foldE e).v.s) (.slice a2 (foldE e).args.length c2)
    refine bodyPost_ret (v := (foldE e).val a2 c2) (by simp [results, Try.results14, go_sem, Ex.val, *]) rfl ⟨a2, c2, by rw [unhide HV], ?_, hE⟩
    rw [unhide HV]
    refine ((unhide HK2).on ((((((Kept.of_low _ _ _ _ ?_).trans (Kept.of_low _ _ _ _ ?_)).trans (Kept.of_low _ _ _ _ ?_)).trans (Kept.of_low _ _ _ _ ?_)).trans (Kept.of_low _ _ _ _ ?_)).trans (Kept.of_low _ _ _ _ ?_))).now <;> omega
  | false =>
    have HV : Hid (foldB e = copyT e) := by show _ = _; unfold foldB; rw [hb]; rfl
    rw [hb] at HB
    clear HM hb
    cases hm : (measE allE e 33554432 131072).2.2 with
    | true =>
      have HMT := hide hm
      clear hm HCF HAL
      go_enter Try.func14, Try.ntmps14
      go_wp2_with (first
        | (go_at_call 18; refine (unhide HB _ (unhide HB0)).mono ?_; rintro r w1 ⟨rfl, hb1⟩; have hB1 := below_step (unhide HB0) hb1; obtain ⟨b0, b1, b2, b3, b4, b5⟩ := (unhide H6).later hb1)
        | (go_at_call 28; refine (unhide HC _ hB1).mono ?_; rintro r w2 ⟨a2, c2, rfl, hK2, _, hb2⟩; have HK2 := hide (hK2 (unhide HMT)); clear hK2; have hs1 := (unhide HS); have hs2 := hb1.size; obtain ⟨⟨z0, z1, z2, z3, z4, z5⟩, f0, f1, f2, f3, f4, f5⟩ := (unhide HZ).later (below_step hb1 hb2); rw [Ex.val_open]))
      have hE := put6 (below_step hB1 hb2) (B := w.heap.size + 1) (by omega) (.int .i64 (copyT e).op) (.int .i64 (copyT e).n) (.int .i64 (copyT e).v.k) (.int .i64 (copyT e).v.n) (.string (copyT e).v.s) (.slice a2 (copyT e).args.length c2)
      refine bodyPost_ret (v := (copyT e).val a2 c2) (by simp [results, Try.results14, go_sem, Ex.val, *]) rfl ⟨a2, c2, by rw [unhide HV], ?_, hE⟩
      rw [unhide HV]
      refine ((unhide HK2).on ((((((Kept.of_low _ _ _ _ ?_).trans (Kept.of_low _ _ _ _ ?_)).trans (Kept.of_low _ _ _ _ ?_)).trans (Kept.of_low _ _ _ _ ?_)).trans (Kept.of_low _ _ _ _ ?_)).trans (Kept.of_low _ _ _ _ ?_))).now <;> omega
    | false =>
      have HC2 := hide (unhide HCF hm)
      have HV2 : Hid (copyT e = e) := by show _ = _; unfold copyT; rw [hm]; rfl
      clear hm HCF HC
      go_enter Try.func14, Try.ntmps14
      go_wp2_with (first
        | (go_at_call 18; refine (unhide HB _ (unhide HB0)).mono ?_; rintro r w1 ⟨rfl, hb1⟩; have hB1 := below_step (unhide HB0) hb1; obtain ⟨b0, b1, b2, b3, b4, b5⟩ := (unhide H6).later hb1)
        | (go_at_call 28; refine (unhide HC2 _ hB1).mono ?_; rintro r w2 ⟨rfl, hb2⟩; have hs1 := (unhide HS); have hs2 := hb1.size; obtain ⟨⟨z0, z1, z2, z3, z4, z5⟩, f0, f1, f2, f3, f4, f5⟩ := (unhide HZ).later (below_step hb1 hb2); try rw [Ex.val_open]))
      have hE := put6 (below_step hB1 hb2) (B := w.heap.size + 1) (by omega) (.int .i64 e.op) (.int .i64 e.n) (.int .i64 e.v.k) (.int .i64 e.v.n) (.string e.v.s) (.slice a e.args.length c)
      refine bodyPost_ret (v := e.val a c) (by simp [results, Try.results14, go_sem, Ex.val, *]) rfl ⟨a, c, by rw [unhide HV, unhide HV2], ?_, hE⟩
      rw [unhide HV, unhide HV2]
      exact unhide HAL _ hE
set_option maxHeartbeats 400000 in
set_option maxRecDepth 100000 in
/-- Size (15). -/
theorem size_any (e : Ex) (hf : e.fin) (a : Option Addr) (c : Nat) (w : World) (ha : Ex.all w a e.args) :
    Calls Try.prog 15 #[e.val a c] w fun r w' => r = .returned (.tuple #[.int .i64 (sizeB e).1, .int .i64 (sizeB e).2]) ∧ Below w.heap.size w w' := by
  have HM := hide (fun o => measured_all e.size e (Nat.le_refl _) hf 400 40 a c (w.alloc o) (by omega) (by omega) (by omega) (by omega) (Ex.all_later _ ha (below_alloc (Below.refl _ _) o)))
  rw [Ex.val_open] at HM ⊢
  clear ha
  cases hb : builtE e with
  | true =>
    have hs : sizeB e = ((e.size : Int), (e.high : Int)) := by unfold sizeB; rw [if_pos hb]
    rw [built_size hb] at HM
    rw [hs]
    clear hb hs
    go_enter Try.func15, Try.ntmps15
    go_wp2_with (go_at_call 37; refine (unhide HM _).mono ?_; rintro r w1 ⟨rfl, hb1⟩)
    refine bodyPost_ret (v := .tuple #[.int .i64 (e.size : Int), .int .i64 (e.high : Int)]) (by simp [results, Try.results15, go_sem]) rfl ⟨rfl, below_one hb1⟩
  | false =>
    have hs : sizeB e = (401, 41) := by unfold sizeB; rw [hb]; rfl
    obtain ⟨q, hq⟩ : ∃ q, measE soundE e 400 40 = q := ⟨_, rfl⟩
    have hb2 : builtE e = q.2.2 := by rw [← hq]; rfl
    rw [hb] at hb2
    rw [hq] at HM
    obtain ⟨c2, h2, ok⟩ := q
    simp only at hb2
    subst hb2
    rw [hs]
    clear hb hs hq
    go_enter Try.func15, Try.ntmps15
    go_wp2_with (go_at_call 37; refine (unhide HM _).mono ?_; rintro r w1 ⟨rfl, hb1⟩)
    refine bodyPost_ret (v := .tuple #[.int .i64 401, .int .i64 41]) (by simp [results, Try.results15, go_sem]) rfl ⟨rfl, below_one hb1⟩
end Go.Proofs.Ytfnacpkodfhfoac

import Derived.Test.YtfnacpkodfhfoacPuC
set_option linter.unusedSimpArgs false
set_option linter.unusedVariables false
namespace Go.Proofs.Ytfnacpkodfhfoac
open Go.RowKit Go.Sort

/-- May it be put in? -/
def okP (by_ : List Ex) (e : Ex) : Bool := builtE e && (!(by_.any fun e => !builtE e)) && usesB e by_.length && builtE (madeE (putG by_) e)
theorem okP_last {by_ : List Ex} {e : Ex} (h : builtE (madeE (putG by_) e) = false) : okP by_ e = false := by unfold okP; rw [h]; simp
/-- The error of Put. -/
def errP (by_ : List Ex) (e : Ex) : Int := if builtE e && (!(by_.any fun e => !builtE e)) && usesB e by_.length then 3 else 1
/-- What Put answers. -/
def PutPost (by_ : List Ex) (e : Ex) (w : World) (r : Ending) (w' : World) : Prop :=
  (builtE e = true ∧ (∀ x ∈ by_, builtE x = true) ∧ usesB e by_.length = true ∧ builtE (madeE (putG by_) e) = true ∧ ∃ a2 c2, r = .returned (.tuple #[(madeE (putG by_) e).val a2 c2, .int .i64 0]) ∧ Ex.all w' a2 (madeE (putG by_) e).args ∧ Below w.heap.size w w') ∨
  (∃ er : Int, er ≠ 0 ∧ okP by_ e = false ∧ r = .returned (.tuple #[zeroE.val none 0, .int .i64 er]) ∧ Below w.heap.size w w')
/-- What Put answers, with its error. -/
def PutPost2 (by_ : List Ex) (e : Ex) (w : World) (r : Ending) (w' : World) : Prop :=
  (builtE e = true ∧ (∀ x ∈ by_, builtE x = true) ∧ usesB e by_.length = true ∧ builtE (madeE (putG by_) e) = true ∧ ∃ a2 c2, r = .returned (.tuple #[(madeE (putG by_) e).val a2 c2, .int .i64 0]) ∧ ExK w.heap.size w' a2 (madeE (putG by_) e).args ∧ Below w.heap.size w w') ∨
  (okP by_ e = false ∧ r = .returned (.tuple #[zeroE.val none 0, .int .i64 (errP by_ e)]) ∧ Below w.heap.size w w')
set_option maxHeartbeats 1000000 in
set_option maxRecDepth 100000 in
/-- Put (10). -/
theorem put_err (by_ : List Ex) (hbf : Ex.fins by_) (hbl : by_.length ≤ 140737488355328) (aB : Option Addr) (cB : Nat) (e : Ex) (hf : e.fin) (a : Option Addr) (c : Nat) (w : World) (ha : Ex.all w a e.args) (hA : Ex.all w aB by_) :
    Calls Try.prog 10 #[e.val a c, .slice aB by_.length cB] w (PutPost2 by_ e w) := by
  have HB := hide (fun (W : World) (hW : Below w.heap.size w W) => built_any e hf a c W (Ex.all_later _ ha hW))
  have HN := hide (fun (W : World) (hW : Below w.heap.size w W) => containsE_any (.func (.func 26) #[] #[]) (fun e => !builtE e) aB cB by_ W hbl hbf (Ex.all_later _ hA hW) (test_notbuilt W))
  have HU := hide (fun (hb : builtE e = true) (W : World) (hW : Below w.heap.size w W) => uses_any e (built_good hb) hf (built_bounds hb).1 by_.length a c W (Ex.all_later _ ha hW))
  have HM := hide (fun (hb : ∀ x ∈ by_, builtE x = true) (hbe : builtE e = true) (hu : usesB e by_.length = true) (B : Nat) (W : World) (hW : Below w.heap.size w W) (hB : Box1 W B (.slice aB by_.length cB)) => made_put by_ hb hbf hbl B aB cB e hbe hf hu a c W (Ex.all_later _ ha hW) hB (Ex.all_later _ hA hW))
  have HFB := hide (fun (hb : ∀ x ∈ by_, builtE x = true) (hbe : builtE e = true) (hu : usesB e by_.length = true) (a' : Option Addr) (c' : Nat) (W : World) (h : Ex.all W a' (madeE (putG by_) e).args) => built_any (madeE (putG by_) e) (put_fin by_ hb hbf e (built_good hbe) hu hf) a' c' W h)
  obtain ⟨wa, hwa⟩ : ∃ wa, wa = (((w.alloc (.cells #[.int .i64 e.op, .int .i64 e.n, .int .i64 e.v.k, .int .i64 e.v.n, .string e.v.s, .slice a e.args.length c] 26)).alloc (.cells #[.slice aB by_.length cB] 24)).alloc (.cells #[.int .i64 0, .int .i64 0, .int .i64 0, .int .i64 0, .string ⟨#[]⟩, .slice none 0 0] 26)) := ⟨_, rfl⟩
  have HBA : Hid (Below w.heap.size w wa) := by rw [hwa]; exact below_alloc (below_alloc (below_alloc (Below.refl _ w) _) _) _
  have H6 : Hid (Six wa w.heap.size e a c) := by rw [hwa]; exact (Six.new w e a c).later (below_alloc (below_alloc (Below.refl _ _) _) _)
  have HBX : Hid (wa.cell? ⟨w.heap.size + 1, 0, none⟩ = some (.slice aB by_.length cB)) := by rw [hwa]; show _ = _; simp [go_sem]
  have HZ : Hid (Box6 wa (w.heap.size + 2) zeroE none 0) := by
    have h := Box6.new ((w.alloc (.cells #[.int .i64 e.op, .int .i64 e.n, .int .i64 e.v.k, .int .i64 e.v.n, .string e.v.s, .slice a e.args.length c] 26)).alloc (.cells #[.slice aB by_.length cB] 24)) zeroE none 0
    rw [show ((w.alloc (.cells #[.int .i64 e.op, .int .i64 e.n, .int .i64 e.v.k, .int .i64 e.v.n, .string e.v.s, .slice a e.args.length c] 26)).alloc (.cells #[.slice aB by_.length cB] 24)).heap.size = w.heap.size + 2 by simp [go_sem]] at h
    rw [hwa]
    exact h
  have hsa : wa.heap.size = w.heap.size + 3 := by rw [hwa]; simp [go_sem]
  rw [Ex.val_open] at HB HU HM ⊢
  clear ha hA
  cases hb : builtE e with
  | false =>
    rw [hb] at HB
    have HOK : Hid (okP by_ e = false) := by show _ = _; unfold okP; rw [hb]; rfl
    have HER : Hid (errP by_ e = 1) := by show _ = _; unfold errP; rw [hb]; simp
    clear hb HN HU HM HFB
    go_enter Try.func10, Try.ntmps10
    go_upto_region 1 with fail
    rw [← hwa]
    clear hwa
    obtain ⟨b0, b1, b2, b3, b4, b5⟩ := unhide H6
    go_wp2_with (go_at_call 18; refine (unhide HB wa (unhide HBA)).mono ?_; rintro r w1 ⟨rfl, hb1⟩; have hB1 := below_step (unhide HBA) hb1; obtain ⟨b0, b1, b2, b3, b4, b5⟩ := (unhide H6).later hb1; have q0 := clater (unhide HBX) hb1; obtain ⟨⟨z0, z1, z2, z3, z4, z5⟩, f0, f1, f2, f3, f4, f5⟩ := (unhide HZ).later hb1)
    refine bodyPost_ret (v := .tuple #[zeroE.val none 0, .int .i64 1]) (by simp [results, Try.results10, go_sem, Ex.val, Ex.op, Ex.n, Ex.v, Ex.args, Val.null, *]) rfl (.inr ⟨unhide HOK, by rw [unhide HER], ?_⟩)
    exact put6 hB1 (by omega) _ _ _ _ _ _
  | true =>
    have HU := hide (unhide HU hb)
    rw [hb] at HB
    cases hn : by_.any (fun e => !builtE e) with
    | true =>
      rw [hn] at HN
      have HOK : Hid (okP by_ e = false) := by show _ = _; unfold okP; rw [hn]; simp
      have HER : Hid (errP by_ e = 1) := by show _ = _; unfold errP; rw [hn]; simp
      clear hb hn HU HM HFB
      go_enter Try.func10, Try.ntmps10
      go_upto_region 1 with fail
      rw [← hwa]
      clear hwa
      obtain ⟨b0, b1, b2, b3, b4, b5⟩ := unhide H6
      go_wp2_with (first
        | (go_at_call 25; refine (unhide HN w1 hB1).mono ?_; rintro r w2 ⟨rfl, hb2⟩; have hB2 := below_step hB1 hb2; have hb12 := below_step hb1 hb2; obtain ⟨b0, b1, b2, b3, b4, b5⟩ := (unhide H6).later hb12; have q0 := clater (unhide HBX) hb12; obtain ⟨⟨z0, z1, z2, z3, z4, z5⟩, f0, f1, f2, f3, f4, f5⟩ := (unhide HZ).later hb12)
        | (go_at_call 18; refine (unhide HB wa (unhide HBA)).mono ?_; rintro r w1 ⟨rfl, hb1⟩; have hB1 := below_step (unhide HBA) hb1; obtain ⟨b0, b1, b2, b3, b4, b5⟩ := (unhide H6).later hb1; have q0 := clater (unhide HBX) hb1; obtain ⟨⟨z0, z1, z2, z3, z4, z5⟩, f0, f1, f2, f3, f4, f5⟩ := (unhide HZ).later hb1))
      refine bodyPost_ret (v := .tuple #[zeroE.val none 0, .int .i64 1]) (by simp [results, Try.results10, go_sem, Ex.val, Ex.op, Ex.n, Ex.v, Ex.args, Val.null, *]) rfl (.inr ⟨unhide HOK, by rw [unhide HER], ?_⟩)
      exact put6 hB2 (by omega) _ _ _ _ _ _
    | false =>
      have hall : ∀ x ∈ by_, builtE x = true := fun x hx => by
        have := List.any_eq_false.1 hn x hx
        simpa using this
      rw [hn] at HN
      cases hu : usesB e by_.length with
      | false =>
        rw [hu] at HU
        have HOK : Hid (okP by_ e = false) := by show _ = _; unfold okP; rw [hu]; simp
        have HER : Hid (errP by_ e = 1) := by show _ = _; unfold errP; rw [hu]; simp
        clear hb hn hu HM HFB hall
        go_enter Try.func10, Try.ntmps10
        go_upto_region 1 with fail
        rw [← hwa]
        clear hwa
        obtain ⟨b0, b1, b2, b3, b4, b5⟩ := unhide H6
        go_wp2_with (first
          | (go_at_call 19; refine (unhide HU w2 hB2).mono ?_; rintro r w3 ⟨rfl, hb3⟩; have hB3 := below_step hB2 hb3; have hb13 := below_step hb12 hb3; obtain ⟨b0, b1, b2, b3, b4, b5⟩ := (unhide H6).later hb13; have q0 := clater (unhide HBX) hb13; obtain ⟨⟨z0, z1, z2, z3, z4, z5⟩, f0, f1, f2, f3, f4, f5⟩ := (unhide HZ).later hb13)
          | (go_at_call 25; refine (unhide HN w1 hB1).mono ?_; rintro r w2 ⟨rfl, hb2⟩; have hB2 := below_step hB1 hb2; have hb12 := below_step hb1 hb2; obtain ⟨b0, b1, b2, b3, b4, b5⟩ := (unhide H6).later hb12; have q0 := clater (unhide HBX) hb12; obtain ⟨⟨z0, z1, z2, z3, z4, z5⟩, f0, f1, f2, f3, f4, f5⟩ := (unhide HZ).later hb12)
          | (go_at_call 18; refine (unhide HB wa (unhide HBA)).mono ?_; rintro r w1 ⟨rfl, hb1⟩; have hB1 := below_step (unhide HBA) hb1; obtain ⟨b0, b1, b2, b3, b4, b5⟩ := (unhide H6).later hb1; have q0 := clater (unhide HBX) hb1; obtain ⟨⟨z0, z1, z2, z3, z4, z5⟩, f0, f1, f2, f3, f4, f5⟩ := (unhide HZ).later hb1))
        refine bodyPost_ret (v := .tuple #[zeroE.val none 0, .int .i64 1]) (by simp [results, Try.results10, go_sem, Ex.val, Ex.op, Ex.n, Ex.v, Ex.args, Val.null, *]) rfl (.inr ⟨unhide HOK, by rw [unhide HER], ?_⟩)
        exact put6 hB3 (by omega) _ _ _ _ _ _
      | true =>
        rw [hu] at HU
        have HM2 := hide (unhide HM hall hb hu (w.heap.size + 1))
        have HF2 := hide (unhide HFB hall hb hu)
        have HALL : Hid (builtE e = true ∧ (∀ x ∈ by_, builtE x = true) ∧ usesB e by_.length = true) := ⟨hb, hall, hu⟩
        have HER : Hid (errP by_ e = 3) := by show _ = _; unfold errP; rw [hb, hn, hu]; rfl
        clear hb hn hu HM HFB hall
        go_enter Try.func10, Try.ntmps10
        go_upto_region 1 with fail
        rw [← hwa]
        clear hwa
        obtain ⟨b0, b1, b2, b3, b4, b5⟩ := unhide H6
        obtain ⟨f, hfe⟩ : ∃ f, f = madeE (putG by_) e := ⟨_, rfl⟩
        rw [← hfe] at HM2 HF2
        have HFE := hide hfe
        clear hfe
        cases hbb : builtE f with
        | true =>
          rw [hbb] at HF2
          have HBB := hide hbb
          clear hbb
          go_wp2_with (first
            | (go_at_call 18; refine (unhide HF2 a2 c2 (w4.alloc (.cells #[.int .i64 f.op, .int .i64 f.n, .int .i64 f.v.k, .int .i64 f.v.n, .string f.v.s, .slice a2 f.args.length c2] 26)) (Ex.all_later _ (unhide HK4).now (below_alloc (Below.refl _ w4) _))).mono ?_; rintro r w5 ⟨rfl, hb5⟩; have hb45 := below_step (below_alloc (Below.refl _ w4) (.cells #[.int .i64 f.op, .int .i64 f.n, .int .i64 f.v.k, .int .i64 f.v.n, .string f.v.s, .slice a2 f.args.length c2] 26)) hb5; have hB5 := below_step hB4 hb45; have hb15 := below_step hb14 hb45; obtain ⟨g0, g1, g2, g3, g4, g5⟩ := (Six.new w4 f a2 c2).later hb5; obtain ⟨⟨z0, z1, z2, z3, z4, z5⟩, f0, f1, f2, f3, f4, f5⟩ := (unhide HZ).later hb15)
            | (go_at_call 22; refine (unhide HM2 w3 hB3 q0).mono ?_; rintro r w4 ⟨a2, c2, rfl, hK4, hb4⟩; have hB4 := below_step hB3 hb4; have HK4 := hide hK4; have hb14 := below_step hb13 hb4; clear hK4; rw [Ex.val_open])
            | (go_at_call 19; refine (unhide HU w2 hB2).mono ?_; rintro r w3 ⟨rfl, hb3⟩; have hB3 := below_step hB2 hb3; have hb13 := below_step hb12 hb3; obtain ⟨b0, b1, b2, b3, b4, b5⟩ := (unhide H6).later hb13; have q0 := clater (unhide HBX) hb13; obtain ⟨⟨z0, z1, z2, z3, z4, z5⟩, f0, f1, f2, f3, f4, f5⟩ := (unhide HZ).later hb13)
            | (go_at_call 25; refine (unhide HN w1 hB1).mono ?_; rintro r w2 ⟨rfl, hb2⟩; have hB2 := below_step hB1 hb2; have hb12 := below_step hb1 hb2; obtain ⟨b0, b1, b2, b3, b4, b5⟩ := (unhide H6).later hb12; have q0 := clater (unhide HBX) hb12; obtain ⟨⟨z0, z1, z2, z3, z4, z5⟩, f0, f1, f2, f3, f4, f5⟩ := (unhide HZ).later hb12)
            | (go_at_call 18; refine (unhide HB wa (unhide HBA)).mono ?_; rintro r w1 ⟨rfl, hb1⟩; have hB1 := below_step (unhide HBA) hb1; obtain ⟨b0, b1, b2, b3, b4, b5⟩ := (unhide H6).later hb1; have q0 := clater (unhide HBX) hb1; obtain ⟨⟨z0, z1, z2, z3, z4, z5⟩, f0, f1, f2, f3, f4, f5⟩ := (unhide HZ).later hb1))
          have hE := put6 hB5 (B := w.heap.size + 2) (by omega) (.int .i64 f.op) (.int .i64 f.n) (.int .i64 f.v.k) (.int .i64 f.v.n) (.string f.v.s) (.slice a2 f.args.length c2)
          have hs3 := hb13.size
          refine bodyPost_ret (v := .tuple #[f.val a2 c2, .int .i64 0]) (by simp [results, Try.results10, go_sem, Ex.val, *]) rfl (.inl ⟨(unhide HALL).1, (unhide HALL).2.1, (unhide HALL).2.2, by rw [← unhide HFE]; exact unhide HBB, a2, c2, by rw [← unhide HFE], ?_, hE⟩)
          rw [← unhide HFE]
          refine ((((unhide HK4).on (Kept.of_below _ _ hb45)).on ((((((Kept.of_low _ _ _ _ ?_).trans (Kept.of_low _ _ _ _ ?_)).trans (Kept.of_low _ _ _ _ ?_)).trans (Kept.of_low _ _ _ _ ?_)).trans (Kept.of_low _ _ _ _ ?_)).trans (Kept.of_low _ _ _ _ ?_))).more ?_) <;> omega
        | false =>
          rw [hbb] at HF2
          have HBB := hide hbb
          clear hbb
          go_wp2_with (first
            | (go_at_call 18; refine (unhide HF2 a2 c2 (w4.alloc (.cells #[.int .i64 f.op, .int .i64 f.n, .int .i64 f.v.k, .int .i64 f.v.n, .string f.v.s, .slice a2 f.args.length c2] 26)) (Ex.all_later _ (unhide HK4).now (below_alloc (Below.refl _ w4) _))).mono ?_; rintro r w5 ⟨rfl, hb5⟩; have hb45 := below_step (below_alloc (Below.refl _ w4) (.cells #[.int .i64 f.op, .int .i64 f.n, .int .i64 f.v.k, .int .i64 f.v.n, .string f.v.s, .slice a2 f.args.length c2] 26)) hb5; have hB5 := below_step hB4 hb45; have hb15 := below_step hb14 hb45; obtain ⟨g0, g1, g2, g3, g4, g5⟩ := (Six.new w4 f a2 c2).later hb5; obtain ⟨⟨z0, z1, z2, z3, z4, z5⟩, f0, f1, f2, f3, f4, f5⟩ := (unhide HZ).later hb15)
            | (go_at_call 22; refine (unhide HM2 w3 hB3 q0).mono ?_; rintro r w4 ⟨a2, c2, rfl, hK4, hb4⟩; have hB4 := below_step hB3 hb4; have HK4 := hide hK4; have hb14 := below_step hb13 hb4; clear hK4; rw [Ex.val_open])
            | (go_at_call 19; refine (unhide HU w2 hB2).mono ?_; rintro r w3 ⟨rfl, hb3⟩; have hB3 := below_step hB2 hb3; have hb13 := below_step hb12 hb3; obtain ⟨b0, b1, b2, b3, b4, b5⟩ := (unhide H6).later hb13; have q0 := clater (unhide HBX) hb13; obtain ⟨⟨z0, z1, z2, z3, z4, z5⟩, f0, f1, f2, f3, f4, f5⟩ := (unhide HZ).later hb13)
            | (go_at_call 25; refine (unhide HN w1 hB1).mono ?_; rintro r w2 ⟨rfl, hb2⟩; have hB2 := below_step hB1 hb2; have hb12 := below_step hb1 hb2; obtain ⟨b0, b1, b2, b3, b4, b5⟩ := (unhide H6).later hb12; have q0 := clater (unhide HBX) hb12; obtain ⟨⟨z0, z1, z2, z3, z4, z5⟩, f0, f1, f2, f3, f4, f5⟩ := (unhide HZ).later hb12)
            | (go_at_call 18; refine (unhide HB wa (unhide HBA)).mono ?_; rintro r w1 ⟨rfl, hb1⟩; have hB1 := below_step (unhide HBA) hb1; obtain ⟨b0, b1, b2, b3, b4, b5⟩ := (unhide H6).later hb1; have q0 := clater (unhide HBX) hb1; obtain ⟨⟨z0, z1, z2, z3, z4, z5⟩, f0, f1, f2, f3, f4, f5⟩ := (unhide HZ).later hb1))
          refine bodyPost_ret (v := .tuple #[zeroE.val none 0, .int .i64 3]) (by simp [results, Try.results10, go_sem, Ex.val, Ex.op, Ex.n, Ex.v, Ex.args, Val.null, *]) rfl (.inr ⟨okP_last (by rw [← unhide HFE]; exact unhide HBB), by rw [unhide HER], ?_⟩)
          exact put6 hB5 (by omega) _ _ _ _ _ _
theorem errP_ne (by_ : List Ex) (e : Ex) : errP by_ e ≠ 0 := by unfold errP; split <;> decide
theorem put_any (by_ : List Ex) (hbf : Ex.fins by_) (hbl : by_.length ≤ 140737488355328) (aB : Option Addr) (cB : Nat) (e : Ex) (hf : e.fin) (a : Option Addr) (c : Nat) (w : World) (ha : Ex.all w a e.args) (hA : Ex.all w aB by_) :
    Calls Try.prog 10 #[e.val a c, .slice aB by_.length cB] w (PutPost by_ e w) := (put_err by_ hbf hbl aB cB e hf a c w ha hA).mono fun r w' h => h.elim (fun ⟨h1, h2, h3, h4, a2, c2, h5, h6, h7⟩ => .inl ⟨h1, h2, h3, h4, a2, c2, h5, h6.now, h7⟩) fun ⟨h1, h2, h3⟩ => .inr ⟨_, errP_ne by_ e, h1, h2, h3⟩
end Go.Proofs.Ytfnacpkodfhfoac

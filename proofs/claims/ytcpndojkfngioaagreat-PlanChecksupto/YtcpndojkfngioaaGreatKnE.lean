import Derived.Test.YtcpndojkfngioaaGreatKnD
set_option linter.unusedSimpArgs false
set_option linter.unusedVariables false
set_option maxRecDepth 100000
namespace Go.Proofs.YtcpndojkfngioaaGreat
open Go.RowKit Go.Sort

/-- tallyref.kindOf (42). -/
theorem rkof_all (ks : List Int) (hkl : ks.length ≤ 140737488355328) (hks : ∀ k ∈ ks, 0 ≤ k) (aK : Option Addr) (cK : Nat) : ∀ (k : Nat) (e : Ex), e.size ≤ k → goodE e → usesB e ks.length = true → ∀ (a : Option Addr) (c : Nat) (w : World), Ex.all w a e.args → IntsAt w aK ks → Calls Tryz.prog 97 #[e.val a c, .slice aK ks.length cK] w (KPost (kE ks e) w)
  | 0, e, hs, _, _, _, _, _, _, _ => by rw [Ex.size_mk] at hs; omega
  | k + 1, e, hs, hg, hu, a, c, w, ha, hK => rkof_step ks hkl hks aK cK e hg hu a c w ha hK fun i x hx a' c' W hW hal =>
    rkof_all ks hkl hks aK cK k x (by have := Ex.size_arg hx; omega) (good_arg hg hx) (uses_arg hu hx) a' c' W hal (hK.later hW)
theorem nok_nat {ks : List Int} (h : ks.any noK = false) : ∀ k ∈ ks, 0 ≤ k := fun k hk => by
  have := List.any_eq_false.1 h k hk
  unfold noK at this
  simp at this
  omega
set_option maxHeartbeats 2000000 in
set_option maxRecDepth 100000 in
/-- tallyref.Kind (21): its error. -/
theorem rkind_any (ks : List Int) (hkl : ks.length ≤ 140737488355328) (aK : Option Addr) (cK : Nat) (e : Ex) (hf : e.fin) (a : Option Addr) (c : Nat) (w : World) (ha : Ex.all w a e.args) (hK : IntsAt w aK ks) :
    Calls Tryz.prog 67 #[e.val a c, .slice aK ks.length cK] w fun r w' => (∃ k : Int, r = .returned (.tuple #[.int .i64 k, .int .i64 (kErr ks e)])) ∧ Below w.heap.size w w' := by
  have HB := hide (fun (W : World) (hW : Below w.heap.size w W) => rbuilt_any e hf a c W (Ex.all_later _ ha hW))
  have HCo := hide (fun (W : World) (hW : Below w.heap.size w W) => rcols_any e hf a c W (Ex.all_later _ ha hW))
  have HKA := hide (fun (W : World) (hW : Below w.heap.size w W) => hK.later hW)
  have HV := hide (fun (hb : builtE e = true) (hn : ks.any noK = false) (hu : usesB e ks.length = true) (W : World) (hW : Below w.heap.size w W) => rkof_all ks hkl (nok_nat hn) aK cK e.size e (Nat.le_refl _) (built_good hb) hu a c W (Ex.all_later _ ha hW) (hK.later hW))
  have HB0 := hide (below_alloc (Below.refl _ w) (.cells #[.int .i64 e.op, .int .i64 e.n, .int .i64 e.v.k, .int .i64 e.v.n, .string e.v.s, .slice a e.args.length c] 74))
  have H6 := hide (Six.new w e a c)
  rw [Ex.val_open] at HB HV HCo ⊢
  clear ha hK
  obtain ⟨ER, hER⟩ : ∃ ER, ER = kErr ks e := ⟨_, rfl⟩
  rw [← hER]
  cases hb : builtE e with
  | false =>
    rw [hb] at HB
    have HE : Hid (ER = 1) := by show _ = _; rw [hER]; unfold kErr; rw [hb]; rfl
    clear hb hER HV HCo
    go_enter Tryz.func67, Tryz.ntmps67
    go_wp2_with (go_at_call 78; refine (unhide HB _ (unhide HB0)).mono ?_; rintro r w1 ⟨rfl, hb1⟩)
    refine bodyPost_ret (v := .tuple #[.int .i64 0, .int .i64 1]) (by simp [results, Tryz.results67, go_sem]) rfl ⟨⟨0, by rw [unhide HE]⟩, below_step (unhide HB0) hb1⟩
  | true =>
    rw [hb] at HB
    have HV := hide (unhide HV hb)
    have HBT := hide hb
    have HER := hide hER
    clear hb hER
    go_enter Tryz.func67, Tryz.ntmps67
    go_upto_region 4 with (go_at_call 78; refine (unhide HB _ (unhide HB0)).mono ?_; rintro r w1 ⟨rfl, hb1⟩)
    have HB1 := hide (below_step (unhide HB0) hb1)
    have H61 := hide ((unhide H6).later hb1)
    clear hb1
    go_loopw [17] (fun i wr => ∃ k : Nat, k ≤ ks.length ∧ i = .int .i64 (k : Int) ∧ Hid (∀ (j : Nat) (x : Int), j < k → ks[j]? = some x → noK x = false) ∧ Hid (Below w1.heap.size w1 wr)) (fun i _ => ks.length - (intOf i).toNat)
    case atStart => exact ⟨0, Nat.zero_le _, rfl, fun j x hj => absurd hj (by omega), Below.refl _ _⟩
    case round =>
      obtain ⟨k, hk, rfl, HN, HBr⟩ := hrel
      by_cases hlt : k < ks.length
      · have h9 : (k : Int) < (ks.length : Int) := by omega
        obtain ⟨x, hx⟩ : ∃ x, ks[k]? = some x := ⟨_, List.getElem?_eq_getElem hlt⟩
        obtain ⟨vb, vo, rfl, d0⟩ := (unhide HKA wr (below_step (unhide HB1) (unhide HBr))).get hx
        by_cases h1 : x = 1
        · subst h1
          have HN2 := hide (no_step (p := noK) (unhide HN) hx rfl)
          clear hx HN
          go_wp2
          exact ⟨⟨k + 1, by omega, by go_num, unhide HN2, unhide HBr⟩, by simp [intOf]; omega⟩
        · have e1 : (x != 1) = true := by simpa using h1
          by_cases h2 : x = 2
          · subst h2
            have HN2 := hide (no_step (p := noK) (unhide HN) hx rfl)
            clear hx HN
            go_wp2
            exact ⟨⟨k + 1, by omega, by go_num, unhide HN2, unhide HBr⟩, by simp [intOf]; omega⟩
          · have e2 : (x != 2) = true := by simpa using h2
            have HE : Hid (ER = 1) := by
              have hn : ks.any noK = true := any_at (p := noK) hx (by unfold noK; rw [e1, e2]; rfl)
              show _ = _
              rw [unhide HER]
              unfold kErr
              rw [hn]
              simp
            clear hx HN
            go_wp2
            refine bodyPost_ret (v := .tuple #[.int .i64 0, .int .i64 1]) (by simp [results, Tryz.results67, go_sem]) rfl ⟨⟨0, by rw [unhide HE]⟩, below_step (unhide HB1) (unhide HBr)⟩
      · have h9 : ¬ (k : Int) < (ks.length : Int) := by omega
        have hnk : ks.any noK = false := any_no fun i x hi hx => unhide HN i x (by omega) hx
        have HV := hide (unhide HV hnk)
        have HNK := hide hnk
        have HBW := hide (below_step (unhide HB1) (unhide HBr))
        obtain ⟨s0, s1, s2, s3, s4, s5⟩ := (unhide H61).later (unhide HBr)
        have HC0 := hide (unhide HCo wr (unhide HBW))
        clear HN hnk hk h9
        go_upto_region 10 with (go_at_call 96; refine (unhide HC0).mono ?_; rintro r wc ⟨vc, Lc, rfl, hO, hSd, _, hbc⟩; obtain ⟨ac, capc, rfl⟩ := hO.slice; have HI := hide hO.ints; have HSD := hide (hSd (unhide HBT)); have HBc := hide hbc; clear hO hSd hbc)
        have HBC := hide (below_step (unhide HBW) (unhide HBc))
        have hLc : Lc.length ≤ 1000 := Nat.le_trans (unhide HSD).2.2 (Nat.le_trans (cols_size e) (by have := (built_bounds (unhide HBT)).1; omega))
        have H6c := hide ((unhide H61).later (below_step (unhide HBr) (unhide HBc)))
        clear s0 s1 s2 s3 s4 s5
        go_loopw [31] (fun i wr2 => ∃ k : Nat, k ≤ Lc.length ∧ i = .int .i64 (k : Int) ∧ Hid (∀ (j : Nat) (x : Int), j < k → Lc[j]? = some x → x < ks.length) ∧ Hid (Below wc.heap.size wc wr2)) (fun i _ => Lc.length - (intOf i).toNat)
        case atStart => exact ⟨0, Nat.zero_le _, rfl, fun j x hj => absurd hj (by omega), Below.refl _ _⟩
        case round =>
          obtain ⟨k2, hk2, rfl, HN2, HBr2⟩ := hrel
          have HBF := hide (below_step (unhide HBC) (unhide HBr2))
          by_cases hlt2 : k2 < Lc.length
          · have h92 : (k2 : Int) < (Lc.length : Int) := by omega
            obtain ⟨x, hx⟩ : ∃ x, Lc[k2]? = some x := ⟨_, List.getElem?_eq_getElem hlt2⟩
            obtain ⟨vb, vo, rfl, d0⟩ := ((unhide HI).later (unhide HBr2)).get hx
            by_cases hxn : x < (ks.length : Int)
            · have HN3 : Hid (∀ (j : Nat) (y : Int), j < k2 + 1 → Lc[j]? = some y → y < ks.length) := fun j y hj hy => by
                by_cases ej : j = k2
                · subst ej; rw [hx] at hy; injection hy with hy; omega
                · exact unhide HN2 j y (by omega) hy
              clear hx HN2
              go_wp2
              exact ⟨⟨k2 + 1, by omega, by go_num, unhide HN3, unhide HBr2⟩, by simp [intOf]; omega⟩
            · have HE : Hid (ER = 1) := by
                have hu : usesB e ks.length = false := by
                  have hm : x ∈ colsE e := ((unhide HSD).2.1 x).1 (List.mem_of_getElem? hx)
                  by_cases hq : usesB e ks.length = true
                  · unfold usesB at hq
                    rw [List.all_eq_true] at hq
                    have := hq x hm
                    simp at this
                    omega
                  · simpa using hq
                show _ = _
                rw [unhide HER]
                unfold kErr
                rw [hu]
                simp
              clear hx HN2
              go_wp2
              refine bodyPost_ret (v := .tuple #[.int .i64 0, .int .i64 1]) (by simp [results, Tryz.results67, go_sem]) rfl ⟨⟨0, by rw [unhide HE]⟩, unhide HBF⟩
          · have h92 : ¬ (k2 : Int) < (Lc.length : Int) := by omega
            have hu : usesB e ks.length = true := by
              unfold usesB
              rw [List.all_eq_true]
              intro x hx
              obtain ⟨j, hj⟩ := List.mem_iff_getElem?.1 (((unhide HSD).2.1 x).2 hx)
              have := unhide HN2 j x (by have := (List.getElem?_eq_some_iff.1 hj).1; omega) hj
              simpa using this
            have HV := hide (unhide HV hu _ (unhide HBF))
            have HE : Hid (ER = if (kE ks e).isSome then 0 else 4) := by show _ = _; rw [unhide HER]; unfold kErr; rw [unhide HBT, unhide HNK, hu]; rfl
            generalize kE ks e = O at *
            obtain ⟨bo, hbo⟩ : ∃ bo, bo = O.isSome := ⟨_, rfl⟩
            rw [← hbo] at HE
            have HV2 : Hid (Calls Tryz.prog 97 #[.agg #[.int .i64 e.op, .int .i64 e.n, .int .i64 e.v.k, .int .i64 e.v.n, .string e.v.s, .slice a e.args.length c], .slice aK ks.length cK] wr fun r w' => (∃ kk : Int, r = .returned (.tuple #[.int .i64 kk, .bool bo])) ∧ Below wr.heap.size wr w') := (unhide HV).mono fun r w' ⟨⟨kk, ok, h1, h2, _⟩, hb⟩ => ⟨⟨kk, by rw [h1, h2, ← hbo]⟩, hb⟩
            obtain ⟨s0, s1, s2, s3, s4, s5⟩ := (unhide H6c).later (unhide HBr2)
            clear hu hbo HV HN2
            cases bo with
            | true =>
              go_wp2_with (go_at_call 97; refine (unhide HV2).mono ?_; rintro r w4 ⟨⟨kk, rfl⟩, hb4⟩)
              refine bodyPost_ret (v := .tuple #[.int .i64 kk, .int .i64 0]) (by simp [results, Tryz.results67, go_sem]) rfl ⟨⟨kk, by rw [unhide HE]; rfl⟩, below_step (unhide HBF) hb4⟩
            | false =>
              go_wp2_with (go_at_call 97; refine (unhide HV2).mono ?_; rintro r w4 ⟨⟨kk, rfl⟩, hb4⟩)
              refine bodyPost_ret (v := .tuple #[.int .i64 0, .int .i64 4]) (by simp [results, Tryz.results67, go_sem]) rfl ⟨⟨0, by rw [unhide HE]; rfl⟩, below_step (unhide HBF) hb4⟩
end Go.Proofs.YtcpndojkfngioaaGreat
set_option linter.unusedSimpArgs false
set_option linter.unusedVariables false
set_option maxRecDepth 100000
namespace Go.Proofs.YtcpndojkfngioaaGreat
open Go.RowKit Go.Sort

/-- The kind that Kind answers. -/
def KR (ks : List Int) (e : Ex) (k : Int) : Prop := (kErr ks e = 0 → kE ks e = some k) ∧ (kErr ks e ≠ 0 → k = 0)
theorem KR.one {ks : List Int} {e : Ex} (h : kErr ks e ≠ 0) : KR ks e 0 := ⟨fun h0 => absurd h0 h, fun _ => rfl⟩
theorem KR.yes {ks : List Int} {e : Ex} {k : Int} (h : kE ks e = some k) (h0 : kErr ks e = 0) : KR ks e k := ⟨fun _ => h, fun h1 => absurd h0 h1⟩
theorem KR.same {ks : List Int} {e : Ex} {k l : Int} (h1 : KR ks e k) (h2 : KR ks e l) : k = l := by
  by_cases h : kErr ks e = 0
  · have := (h1.1 h).symm.trans (h2.1 h)
    injection this
  · rw [h1.2 h, h2.2 h]
theorem kr_yes {R : Int → Prop} {O : Option Int} {kk : Int} (hy : ∀ k, O = some k → R k) (hk : ∀ x, O = some x → kk = x) (hb : true = O.isSome) : R kk := by
  cases O with
  | none => cases hb
  | some x => rw [hk x rfl]; exact hy x rfl
set_option maxHeartbeats 1000000 in
/-- Kind (27). -/
theorem kind_val (ks : List Int) (hkl : ks.length ≤ 140737488355328) (aK : Option Addr) (cK : Nat) (e : Ex) (hf : e.fin) (a : Option Addr) (c : Nat) (w : World) (ha : Ex.all w a e.args) (hK : IntsAt w aK ks) :
    Calls Tryz.prog 89 #[e.val a c, .slice aK ks.length cK] w fun r w' => (∃ k : Int, r = .returned (.tuple #[.int .i64 k, .int .i64 (kErr ks e)]) ∧ KR ks e k) ∧ Below w.heap.size w w' := by
  have HB := hide (fun (W : World) (hW : Below w.heap.size w W) => built_any e hf a c W (Ex.all_later _ ha hW))
  have HN := hide (fun (W : World) (hW : Below w.heap.size w W) => containsK_any aK cK ks W hkl (hK.later hW))
  have HU := hide (fun (hb : builtE e = true) (W : World) (hW : Below w.heap.size w W) => uses_any e (built_good hb) hf (built_bounds hb).1 ks.length a c W (Ex.all_later _ ha hW))
  have HV := hide (fun (hb : builtE e = true) (hu : usesB e ks.length = true) (W : World) (hW : Below w.heap.size w W) => kover_all ks hkl aK cK e.size e (Nat.le_refl _) (built_good hb) hu a c W (Ex.all_later _ ha hW) (hK.later hW))
  have HB0 := hide (below_alloc (Below.refl _ w) (.cells #[.int .i64 e.op, .int .i64 e.n, .int .i64 e.v.k, .int .i64 e.v.n, .string e.v.s, .slice a e.args.length c] 74))
  have H6 := hide (Six.new w e a c)
  rw [Ex.val_open] at HB HU HV ⊢
  clear ha hK
  cases hb : builtE e with
  | false =>
    rw [hb] at HB
    have hke : kErr ks e = 1 := by unfold kErr; rw [hb]; rfl
    have HKR := hide (KR.one (by rw [hke]; decide))
    rw [hke]
    clear hb hke HN HU HV
    go_enter Tryz.func89, Tryz.ntmps89
    go_wp2_with (go_at_call 110; refine (unhide HB _ (unhide HB0)).mono ?_; rintro r w1 ⟨rfl, hb1⟩)
    refine bodyPost_ret (v := .tuple #[.int .i64 0, .int .i64 1]) (by simp [results, Tryz.results89, go_sem]) rfl ⟨⟨0, rfl, unhide HKR⟩, below_step (unhide HB0) hb1⟩
  | true =>
    rw [hb] at HB
    have HU := hide (unhide HU hb)
    have HV := hide (unhide HV hb)
    cases hn : ks.any noK with
    | true =>
      rw [hn] at HN
      have hke : kErr ks e = 1 := by unfold kErr; rw [hn]; simp
      have HKR := hide (KR.one (by rw [hke]; decide))
      rw [hke]
      clear hb hn hke HU HV
      go_enter Tryz.func89, Tryz.ntmps89
      go_wp2_with (first
        | (go_at_call 62; refine (unhide HN w1 hB1).mono ?_; rintro r w2 ⟨rfl, hb2⟩)
        | (go_at_call 110; refine (unhide HB _ (unhide HB0)).mono ?_; rintro r w1 ⟨rfl, hb1⟩; have hB1 := below_step (unhide HB0) hb1))
      refine bodyPost_ret (v := .tuple #[.int .i64 0, .int .i64 1]) (by simp [results, Tryz.results89, go_sem]) rfl ⟨⟨0, rfl, unhide HKR⟩, below_step hB1 hb2⟩
    | false =>
      rw [hn] at HN
      cases hu : usesB e ks.length with
      | false =>
        rw [hu] at HU
        have hke : kErr ks e = 1 := by unfold kErr; rw [hu]; simp
        have HKR := hide (KR.one (by rw [hke]; decide))
        rw [hke]
        clear hb hn hu hke HV
        go_enter Tryz.func89, Tryz.ntmps89
        go_wp2_with (first
          | (go_at_call 115; refine (unhide HU w2 hB2).mono ?_; rintro r w3 ⟨rfl, hb3⟩)
          | (go_at_call 62; refine (unhide HN w1 hB1).mono ?_; rintro r w2 ⟨rfl, hb2⟩; have hB2 := below_step hB1 hb2; obtain ⟨b0, b1, b2, b3, b4, b5⟩ := (unhide H6).later (below_step hb1 hb2))
          | (go_at_call 110; refine (unhide HB _ (unhide HB0)).mono ?_; rintro r w1 ⟨rfl, hb1⟩; have hB1 := below_step (unhide HB0) hb1))
        refine bodyPost_ret (v := .tuple #[.int .i64 0, .int .i64 1]) (by simp [results, Tryz.results89, go_sem]) rfl ⟨⟨0, rfl, unhide HKR⟩, below_step hB2 hb3⟩
      | true =>
        rw [hu] at HU
        have HV := hide (unhide HV hu)
        have hke : kErr ks e = if (kE ks e).isSome then 0 else 4 := by unfold kErr; rw [hb, hn, hu]; rfl
        have HKY : Hid (∀ kk, kE ks e = some kk → KR ks e kk) := fun kk h => KR.yes h (by rw [hke, h]; rfl)
        have HKN : Hid ((kE ks e).isSome = false → KR ks e 0) := fun h => KR.one (by rw [hke, h]; decide)
        rw [hke]
        generalize kE ks e = O at *
        obtain ⟨bo, hbo⟩ : ∃ bo, bo = O.isSome := ⟨_, rfl⟩
        rw [← hbo]
        have HV2 : Hid (∀ W, Below w.heap.size w W → Calls Tryz.prog 116 #[.agg #[.int .i64 e.op, .int .i64 e.n, .int .i64 e.v.k, .int .i64 e.v.n, .string e.v.s, .slice a e.args.length c], .slice aK ks.length cK] W fun r w' => (∃ kk : Int, r = .returned (.tuple #[.int .i64 kk, .bool bo]) ∧ Hid (∀ x, O = some x → kk = x)) ∧ Below W.heap.size W w') := fun W hW => (unhide HV W hW).mono fun r w' ⟨⟨kk, ok, h1, h2, h3⟩, hb⟩ => ⟨⟨kk, by rw [h1, h2, ← hbo], h3⟩, hb⟩
        have HBO := hide hbo
        clear hb hn hu hke hbo HV
        cases bo with
        | true =>
          simp only [if_true]
          go_enter Tryz.func89, Tryz.ntmps89
          go_wp2_with (first
            | (go_at_call 116; refine (unhide HV2 w3 hB3).mono ?_; rintro r w4 ⟨⟨kk, rfl, HKK⟩, hb4⟩)
            | (go_at_call 115; refine (unhide HU w2 hB2).mono ?_; rintro r w3 ⟨rfl, hb3⟩; have hB3 := below_step hB2 hb3; obtain ⟨b0, b1, b2, b3, b4, b5⟩ := (unhide H6).later (below_step (below_step hb1 hb2) hb3))
            | (go_at_call 62; refine (unhide HN w1 hB1).mono ?_; rintro r w2 ⟨rfl, hb2⟩; have hB2 := below_step hB1 hb2; obtain ⟨b0, b1, b2, b3, b4, b5⟩ := (unhide H6).later (below_step hb1 hb2))
            | (go_at_call 110; refine (unhide HB _ (unhide HB0)).mono ?_; rintro r w1 ⟨rfl, hb1⟩; have hB1 := below_step (unhide HB0) hb1))
          refine bodyPost_ret (v := .tuple #[.int .i64 kk, .int .i64 0]) (by simp [results, Tryz.results89, go_sem]) rfl ⟨⟨kk, rfl, kr_yes (unhide HKY) (unhide HKK) (unhide HBO)⟩, below_step hB3 hb4⟩
        | false =>
          simp only [Bool.false_eq_true, if_false]
          go_enter Tryz.func89, Tryz.ntmps89
          go_wp2_with (first
            | (go_at_call 116; refine (unhide HV2 w3 hB3).mono ?_; rintro r w4 ⟨⟨kk, rfl, HKK⟩, hb4⟩)
            | (go_at_call 115; refine (unhide HU w2 hB2).mono ?_; rintro r w3 ⟨rfl, hb3⟩; have hB3 := below_step hB2 hb3; obtain ⟨b0, b1, b2, b3, b4, b5⟩ := (unhide H6).later (below_step (below_step hb1 hb2) hb3))
            | (go_at_call 62; refine (unhide HN w1 hB1).mono ?_; rintro r w2 ⟨rfl, hb2⟩; have hB2 := below_step hB1 hb2; obtain ⟨b0, b1, b2, b3, b4, b5⟩ := (unhide H6).later (below_step hb1 hb2))
            | (go_at_call 110; refine (unhide HB _ (unhide HB0)).mono ?_; rintro r w1 ⟨rfl, hb1⟩; have hB1 := below_step (unhide HB0) hb1))
          refine bodyPost_ret (v := .tuple #[.int .i64 0, .int .i64 4]) (by simp [results, Tryz.results89, go_sem]) rfl ⟨⟨0, rfl, unhide HKN (unhide HBO).symm⟩, below_step hB3 hb4⟩
set_option maxHeartbeats 2000000 in
/-- tallyref.Kind (28). -/
theorem rkind_val (ks : List Int) (hkl : ks.length ≤ 140737488355328) (aK : Option Addr) (cK : Nat) (e : Ex) (hf : e.fin) (a : Option Addr) (c : Nat) (w : World) (ha : Ex.all w a e.args) (hK : IntsAt w aK ks) :
    Calls Tryz.prog 67 #[e.val a c, .slice aK ks.length cK] w fun r w' => (∃ k : Int, r = .returned (.tuple #[.int .i64 k, .int .i64 (kErr ks e)]) ∧ KR ks e k) ∧ Below w.heap.size w w' := by
  have HB := hide (fun (W : World) (hW : Below w.heap.size w W) => rbuilt_any e hf a c W (Ex.all_later _ ha hW))
  have HCo := hide (fun (W : World) (hW : Below w.heap.size w W) => rcols_any e hf a c W (Ex.all_later _ ha hW))
  have HKA := hide (fun (W : World) (hW : Below w.heap.size w W) => hK.later hW)
  have HV := hide (fun (hb : builtE e = true) (hn : ks.any noK = false) (hu : usesB e ks.length = true) (W : World) (hW : Below w.heap.size w W) => rkof_all ks hkl (nok_nat hn) aK cK e.size e (Nat.le_refl _) (built_good hb) hu a c W (Ex.all_later _ ha hW) (hK.later hW))
  have HB0 := hide (below_alloc (Below.refl _ w) (.cells #[.int .i64 e.op, .int .i64 e.n, .int .i64 e.v.k, .int .i64 e.v.n, .string e.v.s, .slice a e.args.length c] 74))
  have H6 := hide (Six.new w e a c)
  rw [Ex.val_open] at HB HV HCo ⊢
  clear ha hK
  obtain ⟨ER, hER⟩ : ∃ ER, ER = kErr ks e := ⟨_, rfl⟩
  rw [← hER]
  have HK1 : Hid (ER = 1 → KR ks e 0) := fun h => KR.one (by rw [← hER, h]; decide)
  cases hb : builtE e with
  | false =>
    rw [hb] at HB
    have HE : Hid (ER = 1) := by show _ = _; rw [hER]; unfold kErr; rw [hb]; rfl
    clear hb hER HV HCo
    go_enter Tryz.func67, Tryz.ntmps67
    go_wp2_with (go_at_call 78; refine (unhide HB _ (unhide HB0)).mono ?_; rintro r w1 ⟨rfl, hb1⟩)
    refine bodyPost_ret (v := .tuple #[.int .i64 0, .int .i64 1]) (by simp [results, Tryz.results67, go_sem]) rfl ⟨⟨0, by rw [unhide HE], unhide HK1 (unhide HE)⟩, below_step (unhide HB0) hb1⟩
  | true =>
    rw [hb] at HB
    have HV := hide (unhide HV hb)
    have HBT := hide hb
    have HER := hide hER
    clear hb hER
    go_enter Tryz.func67, Tryz.ntmps67
    go_upto_region 4 with (go_at_call 78; refine (unhide HB _ (unhide HB0)).mono ?_; rintro r w1 ⟨rfl, hb1⟩)
    have HB1 := hide (below_step (unhide HB0) hb1)
    have H61 := hide ((unhide H6).later hb1)
    clear hb1
    go_loopw [17] (fun i wr => ∃ k : Nat, k ≤ ks.length ∧ i = .int .i64 (k : Int) ∧ Hid (∀ (j : Nat) (x : Int), j < k → ks[j]? = some x → noK x = false) ∧ Hid (Below w1.heap.size w1 wr)) (fun i _ => ks.length - (intOf i).toNat)
    case atStart => exact ⟨0, Nat.zero_le _, rfl, fun j x hj => absurd hj (by omega), Below.refl _ _⟩
    case round =>
      obtain ⟨k, hk, rfl, HN, HBr⟩ := hrel
      by_cases hlt : k < ks.length
      · have h9 : (k : Int) < (ks.length : Int) := by omega
        obtain ⟨x, hx⟩ : ∃ x, ks[k]? = some x := ⟨_, List.getElem?_eq_getElem hlt⟩
        obtain ⟨vb, vo, rfl, d0⟩ := (unhide HKA wr (below_step (unhide HB1) (unhide HBr))).get hx
        by_cases h1 : x = 1
        · subst h1
          have HN2 := hide (no_step (p := noK) (unhide HN) hx rfl)
          clear hx HN
          go_wp2
          exact ⟨⟨k + 1, by omega, by go_num, unhide HN2, unhide HBr⟩, by simp [intOf]; omega⟩
        · have e1 : (x != 1) = true := by simpa using h1
          by_cases h2 : x = 2
          · subst h2
            have HN2 := hide (no_step (p := noK) (unhide HN) hx rfl)
            clear hx HN
            go_wp2
            exact ⟨⟨k + 1, by omega, by go_num, unhide HN2, unhide HBr⟩, by simp [intOf]; omega⟩
          · have e2 : (x != 2) = true := by simpa using h2
            have HE : Hid (ER = 1) := by
              have hn : ks.any noK = true := any_at (p := noK) hx (by unfold noK; rw [e1, e2]; rfl)
              show _ = _
              rw [unhide HER]
              unfold kErr
              rw [hn]
              simp
            clear hx HN
            go_wp2
            refine bodyPost_ret (v := .tuple #[.int .i64 0, .int .i64 1]) (by simp [results, Tryz.results67, go_sem]) rfl ⟨⟨0, by rw [unhide HE], unhide HK1 (unhide HE)⟩, below_step (unhide HB1) (unhide HBr)⟩
      · have h9 : ¬ (k : Int) < (ks.length : Int) := by omega
        have hnk : ks.any noK = false := any_no fun i x hi hx => unhide HN i x (by omega) hx
        have HV := hide (unhide HV hnk)
        have HNK := hide hnk
        have HBW := hide (below_step (unhide HB1) (unhide HBr))
        obtain ⟨s0, s1, s2, s3, s4, s5⟩ := (unhide H61).later (unhide HBr)
        have HC0 := hide (unhide HCo wr (unhide HBW))
        clear HN hnk hk h9
        go_upto_region 10 with (go_at_call 96; refine (unhide HC0).mono ?_; rintro r wc ⟨vc, Lc, rfl, hO, hSd, _, hbc⟩; obtain ⟨ac, capc, rfl⟩ := hO.slice; have HI := hide hO.ints; have HSD := hide (hSd (unhide HBT)); have HBc := hide hbc; clear hO hSd hbc)
        have HBC := hide (below_step (unhide HBW) (unhide HBc))
        have hLc : Lc.length ≤ 1000 := Nat.le_trans (unhide HSD).2.2 (Nat.le_trans (cols_size e) (by have := (built_bounds (unhide HBT)).1; omega))
        have H6c := hide ((unhide H61).later (below_step (unhide HBr) (unhide HBc)))
        clear s0 s1 s2 s3 s4 s5
        go_loopw [31] (fun i wr2 => ∃ k : Nat, k ≤ Lc.length ∧ i = .int .i64 (k : Int) ∧ Hid (∀ (j : Nat) (x : Int), j < k → Lc[j]? = some x → x < ks.length) ∧ Hid (Below wc.heap.size wc wr2)) (fun i _ => Lc.length - (intOf i).toNat)
        case atStart => exact ⟨0, Nat.zero_le _, rfl, fun j x hj => absurd hj (by omega), Below.refl _ _⟩
        case round =>
          obtain ⟨k2, hk2, rfl, HN2, HBr2⟩ := hrel
          have HBF := hide (below_step (unhide HBC) (unhide HBr2))
          by_cases hlt2 : k2 < Lc.length
          · have h92 : (k2 : Int) < (Lc.length : Int) := by omega
            obtain ⟨x, hx⟩ : ∃ x, Lc[k2]? = some x := ⟨_, List.getElem?_eq_getElem hlt2⟩
            obtain ⟨vb, vo, rfl, d0⟩ := ((unhide HI).later (unhide HBr2)).get hx
            by_cases hxn : x < (ks.length : Int)
            · have HN3 : Hid (∀ (j : Nat) (y : Int), j < k2 + 1 → Lc[j]? = some y → y < ks.length) := fun j y hj hy => by
                by_cases ej : j = k2
                · subst ej; rw [hx] at hy; injection hy with hy; omega
                · exact unhide HN2 j y (by omega) hy
              clear hx HN2
              go_wp2
              exact ⟨⟨k2 + 1, by omega, by go_num, unhide HN3, unhide HBr2⟩, by simp [intOf]; omega⟩
            · have HE : Hid (ER = 1) := by
                have hu : usesB e ks.length = false := by
                  have hm : x ∈ colsE e := ((unhide HSD).2.1 x).1 (List.mem_of_getElem? hx)
                  by_cases hq : usesB e ks.length = true
                  · unfold usesB at hq
                    rw [List.all_eq_true] at hq
                    have := hq x hm
                    simp at this
                    omega
                  · simpa using hq
                show _ = _
                rw [unhide HER]
                unfold kErr
                rw [hu]
                simp
              clear hx HN2
              go_wp2
              refine bodyPost_ret (v := .tuple #[.int .i64 0, .int .i64 1]) (by simp [results, Tryz.results67, go_sem]) rfl ⟨⟨0, by rw [unhide HE], unhide HK1 (unhide HE)⟩, unhide HBF⟩
          · have h92 : ¬ (k2 : Int) < (Lc.length : Int) := by omega
            have hu : usesB e ks.length = true := by
              unfold usesB
              rw [List.all_eq_true]
              intro x hx
              obtain ⟨j, hj⟩ := List.mem_iff_getElem?.1 (((unhide HSD).2.1 x).2 hx)
              have := unhide HN2 j x (by have := (List.getElem?_eq_some_iff.1 hj).1; omega) hj
              simpa using this
            have HV := hide (unhide HV hu _ (unhide HBF))
            have HE : Hid (ER = if (kE ks e).isSome then 0 else 4) := by show _ = _; rw [unhide HER]; unfold kErr; rw [unhide HBT, unhide HNK, hu]; rfl
            have HKY : Hid (∀ kk, kE ks e = some kk → KR ks e kk) := fun kk h => KR.yes h (by rw [← unhide HER, unhide HE, h]; rfl)
            have HKN : Hid ((kE ks e).isSome = false → KR ks e 0) := fun h => KR.one (by rw [← unhide HER, unhide HE, h]; decide)
            generalize kE ks e = O at *
            obtain ⟨bo, hbo⟩ : ∃ bo, bo = O.isSome := ⟨_, rfl⟩
            rw [← hbo] at HE
            have HV2 : Hid (Calls Tryz.prog 97 #[.agg #[.int .i64 e.op, .int .i64 e.n, .int .i64 e.v.k, .int .i64 e.v.n, .string e.v.s, .slice a e.args.length c], .slice aK ks.length cK] wr fun r w' => (∃ kk : Int, r = .returned (.tuple #[.int .i64 kk, .bool bo]) ∧ Hid (∀ x, O = some x → kk = x)) ∧ Below wr.heap.size wr w') := (unhide HV).mono fun r w' ⟨⟨kk, ok, h1, h2, h3⟩, hb⟩ => ⟨⟨kk, by rw [h1, h2, ← hbo], h3⟩, hb⟩
            have HBO := hide hbo
            obtain ⟨s0, s1, s2, s3, s4, s5⟩ := (unhide H6c).later (unhide HBr2)
            clear hu hbo HV HN2
            cases bo with
            | true =>
              go_wp2_with (go_at_call 97; refine (unhide HV2).mono ?_; rintro r w4 ⟨⟨kk, rfl, HKK⟩, hb4⟩)
              refine bodyPost_ret (v := .tuple #[.int .i64 kk, .int .i64 0]) (by simp [results, Tryz.results67, go_sem]) rfl ⟨⟨kk, by rw [unhide HE]; rfl, kr_yes (unhide HKY) (unhide HKK) (unhide HBO)⟩, below_step (unhide HBF) hb4⟩
            | false =>
              go_wp2_with (go_at_call 97; refine (unhide HV2).mono ?_; rintro r w4 ⟨⟨kk, rfl, HKK⟩, hb4⟩)
              refine bodyPost_ret (v := .tuple #[.int .i64 0, .int .i64 4]) (by simp [results, Tryz.results67, go_sem]) rfl ⟨⟨0, by rw [unhide HE]; rfl, unhide HKN (unhide HBO).symm⟩, below_step (unhide HBF) hb4⟩
end Go.Proofs.YtcpndojkfngioaaGreat

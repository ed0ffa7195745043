import Derived.Test.YtfnacpkodfhfoadMyC
import Derived.Test.YtfnacpkodfhfoadTeB
import Derived.Test.YtfnacpkodfhfoadPaI
set_option linter.unusedSimpArgs false
set_option linter.unusedVariables false
namespace Go.Proofs.Ytfnacpkodfhfoad
open Go.RowKit Go.Sort

mutual
theorem cols_copy : ∀ e : Ex, colsE (copyE e) = colsE e
  | .mk op n v l => by
    rw [copyE, colsE, colsE, cols_copyL l]
    by_cases h : (op == 1) = true
    · rw [if_pos h, if_pos h, if_pos h]
    · rw [if_neg h, if_neg h]
theorem cols_copyL : ∀ l : List Ex, colsL (copyL l) = colsL l
  | [] => by rw [copyL]
  | e :: l => by rw [copyL, colsL, colsL, cols_copy e, cols_copyL l]
end
/-- The parts of what is built are good, and have no other columns. -/
theorem parts_good (N : Int) : ∀ (k : Nat) (e : Ex), e.size ≤ k → builtE e = true → usesB e N = true → ∀ p ∈ partsE e, goodE p ∧ usesB p N = true := by
  intro k
  induction k with
  | zero => intro e hs; rw [Ex.size_mk] at hs; omega
  | succ k ih =>
    intro e hs hb hu p hp
    rw [partsE_eq] at hp
    split at hp
    · rename_i h
      simp only [Bool.and_eq_true, beq_iff_eq] at h
      obtain ⟨x, y, hxy⟩ := two_args (built_good h.2) (by rw [h.1]; decide)
      rw [hxy, partsL, partsL, partsL, List.append_nil, List.mem_append] at hp
      have h0 : e.args[0]? = some x := by rw [hxy]; rfl
      have h1 : e.args[1]? = some y := by rw [hxy]; rfl
      have := Ex.size_arg h0
      have := Ex.size_arg h1
      rcases hp with hp | hp
      · exact ih x (by omega) (built_arg hb h0) (uses_arg hu h0) p hp
      · exact ih y (by omega) (built_arg hb h1) (uses_arg hu h1) p hp
    · rw [List.mem_singleton] at hp
      subst hp
      have hc : copyT e = copyE e := by unfold copyT; rw [built_ends hb]; rfl
      rw [hc]
      refine ⟨built_good (by rw [built_copy]; exact hb), ?_⟩
      unfold usesB
      rw [cols_copy]
      exact hu
set_option maxHeartbeats 400000 in
set_option maxRecDepth 100000 in
/-- What May tests its parts by (18). -/
theorem may1_any (h : Hd) (m : Hm) (N : Nat) (hN : h.len N) (hN64 : N ≤ 140737488355328) (p : Ex) (hg : goodE p) (hu : usesB p N = true) (a : Option Addr) (c : Nat) (B : Nat) (w : World) (ha : Ex.all w a p.args) (hh : HdAt w h m) (hB : Four w B h m) :
    Calls Try.prog 18 #[p.val a c, .pointer (some ⟨B, 0, none⟩)] w fun r w' => r = .returned (.bool (neverE h p)) ∧ Below w.heap.size w w' := by
  have HB0 := hide (below_alloc (Below.refl _ w) (.cells #[.int .i64 p.op, .int .i64 p.n, .int .i64 p.v.k, .int .i64 p.v.n, .string p.v.s, .slice a p.args.length c] 26))
  have HX := hide (never_any h m N hN hN64 p hg hu a c _ (Ex.all_later _ ha (unhide HB0)) (hh.later (unhide HB0)))
  obtain ⟨u0, u1, u2, u3⟩ := hB.later (unhide HB0)
  generalize neverE h p = R at *
  rw [Ex.val_open, Hd.val_open] at HX
  rw [Ex.val_open]
  clear hN hg hu ha hh hB
  go_enter Try.func18, Try.ntmps18
  go_wp2_with (go_at_call 19; refine (unhide HX).mono ?_; rintro r w1 ⟨rfl, hb1⟩)
  go_ret
  exact ⟨rfl, below_step (unhide HB0) hb1⟩
theorem ent18 : Enters 18 := fun args w => by kernel_rfl
theorem test_never (h : Hd) (m : Hm) (N : Nat) (hN : h.len N) (hN64 : N ≤ 140737488355328) (B : Nat) (W : World) (hh : HdAt W h m) (hB : Four W B h m) : TestP W (.func (.func 18) #[] #[.pointer (some ⟨B, 0, none⟩)]) (neverE h) (fun x => goodE x ∧ usesB x N = true) :=
  ⟨18, #[.pointer (some ⟨B, 0, none⟩)], rfl, ent18, fun x a c W' hx hW ha => by simpa using may1_any h m N hN hN64 x hx.1 hx.2 a c B W' ha (hh.later hW) (hB.later hW)⟩
/-- Do all its lists have this length, and has it no rows less than none? -/
def fitH (h : Hd) (N : Nat) : Bool := !decide (h.rows < 0) && (decide (h.low.length = N) && (decide (h.high.length = N) && decide (h.nulls.length = N)))
/-- What both sides' May answer. -/
def mayR (ks : List Int) (h : Hd) (e : Ex) : Bool × Int := if fitH h ks.length then (if kErr ks e == 0 then (decide (0 < h.rows) && !(partsE e).any (neverE h), 0) else (false, kErr ks e)) else (false, 1)
theorem kErr_zero {ks : List Int} {e : Ex} (h : kErr ks e = 0) : builtE e = true ∧ usesB e ks.length = true := by
  unfold kErr at h
  split at h
  · rename_i q
    simp only [Bool.and_eq_true] at q
    exact ⟨q.1.1, q.2⟩
  · cases h
set_option maxHeartbeats 2000000 in
set_option maxRecDepth 100000 in
/-- seg.May (10). -/
theorem may_any (ks : List Int) (hkl : ks.length ≤ 140737488355328) (aK : Option Addr) (cK : Nat) (h : Hd) (m : Hm) (hl1 : h.low.length ≤ 140737488355328) (hl2 : h.high.length ≤ 140737488355328) (hl3 : h.nulls.length ≤ 140737488355328) (hr : In64 h.rows) (e : Ex) (hf : e.fin) (a : Option Addr) (c : Nat) (w : World) (ha : Ex.all w a e.args) (hK : IntsAt w aK ks) (hh : HdAt w h m) :
    Calls Try.prog 10 #[.slice aK ks.length cK, h.val m, e.val a c] w fun r w' => r = .returned (.tuple #[.bool (mayR ks h e).1, .int .i64 (mayR ks h e).2]) ∧ Below w.heap.size w w' := by
  have HKI := hide (fun (W : World) (hW : Below w.heap.size w W) => kind_any ks hkl aK cK e hf a c W (Ex.all_later _ ha hW) (hK.later hW))
  have HPA := hide (fun (W : World) (hW : Below w.heap.size w W) => parts_any e hf a c W (Ex.all_later _ ha hW))
  have HAT := hide (fun (W : World) (hW : Below w.heap.size w W) => hh.later hW)
  obtain ⟨wa, hwa⟩ : ∃ wa, wa = (w.alloc (h.box m)).alloc (e.box a c) := ⟨_, rfl⟩
  have HBA : Hid (Below w.heap.size w wa) := by rw [hwa]; exact below_alloc (below_alloc (Below.refl _ _) _) _
  have hs1 : (w.alloc (h.box m)).heap.size = w.heap.size + 1 := by simp [go_sem]
  have HH : Hid (Four wa w.heap.size h m) := by rw [hwa]; exact (Four.new w h m).later (below_alloc (Below.refl _ _) _)
  have H6 : Hid (Six wa (w.heap.size + 1) e a c) := by
    have q := Six.new (w.alloc (h.box m)) e a c
    rw [hs1] at q
    rw [hwa]
    exact q
  obtain ⟨R, hR⟩ : ∃ R, R = mayR ks h e := ⟨_, rfl⟩
  rw [← hR]
  obtain ⟨R1, R2⟩ := R
  have HR := hide hR
  rw [Ex.val_open] at HKI HPA
  rw [Ex.val_open, Hd.val_open]
  unfold Ex.box Hd.box at hwa
  clear hs1 ha hK hh hR
  simp only
  by_cases hneg : h.rows < 0
  · have HRR : Hid (R1 = false ∧ R2 = 1) := by
      have hq : fitH h ks.length = false := by unfold fitH; simp [hneg]
      have q := unhide HR
      unfold mayR at q
      rw [hq] at q
      show R1 = false ∧ R2 = 1
      simpa using q
    clear HR HKI HPA HAT
    go_enter Try.func10, Try.ntmps10
    go_upto_region 2 with fail
    rw [← hwa]
    clear hwa
    obtain ⟨u0, u1, u2, u3⟩ := unhide HH
    go_wp2
    exact bodyPost_ret (v := .tuple #[.bool false, .int .i64 1]) (by simp [results, Try.results10, go_sem]) rfl ⟨by rw [(unhide HRR).1, (unhide HRR).2], unhide HBA⟩
  have HBAD : Hid (¬ (h.low.length = ks.length ∧ h.high.length = ks.length ∧ h.nulls.length = ks.length) → R1 = false ∧ R2 = 1) := fun hn => by
    have hq : fitH h ks.length = false := by
      unfold fitH
      by_cases q : (!decide (h.rows < 0) && (decide (h.low.length = ks.length) && (decide (h.high.length = ks.length) && decide (h.nulls.length = ks.length)))) = true
      · simp only [Bool.and_eq_true, decide_eq_true_eq] at q
        exact absurd q.2 hn
      · simpa using q
    have q := unhide HR
    unfold mayR at q
    rw [hq] at q
    simpa using q
  by_cases n1 : h.low.length = ks.length
  · have N1 := hide n1
    by_cases n2 : h.high.length = ks.length
    · have N2 := hide n2
      by_cases n3 : h.nulls.length = ks.length
      · have N3 := hide n3
        have hfit : fitH h ks.length = true := by unfold fitH; simp [hneg, n1, n2, n3]
        have HR2 : Hid ((R1, R2) = if kErr ks e == 0 then (decide (0 < h.rows) && !(partsE e).any (neverE h), 0) else (false, kErr ks e)) := by
          have q := unhide HR
          unfold mayR at q
          rw [hfit] at q
          exact q
        have HLEN : Hid (h.len ks.length) := ⟨n1, n2, n3⟩
        have HGD : Hid (kErr ks e = 0 → ∀ p ∈ partsE e, goodE p ∧ usesB p ks.length = true) := fun q => parts_good ks.length e.size e (Nat.le_refl _) (kErr_zero q).1 (kErr_zero q).2
        have HPL : Hid (kErr ks e = 0 → (partsE e).length ≤ 400) := fun q => parts_400 (kErr_zero q).1
        obtain ⟨ER, hER⟩ : ∃ ER, ER = kErr ks e := ⟨_, rfl⟩
        rw [← hER] at HR2 HKI HGD HPL
        clear HR HBAD n1 n2 n3 hfit hER
        go_enter Try.func10, Try.ntmps10
        go_upto_region 2 with fail
        rw [← hwa]
        clear hwa
        obtain ⟨u0, u1, u2, u3⟩ := unhide HH
        obtain ⟨b0, b1, b2, b3, b4, b5⟩ := unhide H6
        have q1 : ((h.low.length : Nat) : Int) = (ks.length : Int) := by rw [unhide N1]
        have q2 : ((h.high.length : Nat) : Int) = (ks.length : Int) := by rw [unhide N2]
        have q3 : ((h.nulls.length : Nat) : Int) = (ks.length : Int) := by rw [unhide N3]
        go_upto_region 5 with (go_at_call 17; refine (unhide HKI _ (unhide HBA)).mono ?_; rintro r w1 ⟨⟨kk, rfl⟩, hb1⟩)
        clear q1 q2 q3 u0 u1 u2 u3 b0 b1 b2 b3 b4 b5
        have HB1 := hide (below_step (unhide HBA) hb1)
        have HH1 := hide ((unhide HH).later hb1)
        have H61 := hide ((unhide H6).later hb1)
        obtain ⟨u0, u1, u2, u3⟩ := unhide HH1
        obtain ⟨b0, b1, b2, b3, b4, b5⟩ := unhide H61
        by_cases hE : ER = 0
        · have HGD2 := hide (unhide HGD hE)
          have HPL2 := hide (unhide HPL hE)
          subst hE
          by_cases hr0 : h.rows = 0
          · have HRR : Hid (R1 = false ∧ R2 = 0) := by
              have q := unhide HR2
              rw [hr0] at q
              show R1 = false ∧ R2 = 0
              simpa using q
            rw [hr0] at u0
            clear HR2 hr0 hneg
            go_wp2
            exact bodyPost_ret (v := .tuple #[.bool false, .int .i64 0]) (by simp [results, Try.results10, go_sem]) rfl ⟨by rw [(unhide HRR).1, (unhide HRR).2], unhide HB1⟩
          · have hrp : decide (0 < h.rows) = true := by simp; omega
            have HRR : Hid (R1 = (!(partsE e).any (neverE h)) ∧ R2 = 0) := by
              have q := unhide HR2
              rw [hrp] at q
              show R1 = _ ∧ R2 = 0
              simpa using q
            have hr1 : ¬ h.rows = 0 := hr0
            have HPX := hide (unhide HPA w1 (unhide HB1))
            clear HR2 hrp hr0
            go_wp2_with (first
              | (go_at_call 20; refine (unhide HCT).mono ?_; rintro r w3 ⟨rfl, hb3⟩)
              | (go_at_call 9; refine (unhide HPX).mono ?_; rintro r w2 ⟨g, cap, L, rfl, hO, hM, hK, hb2⟩; have HCT := hide (containsP_any (.func (.func 18) #[] #[.pointer (some ⟨w.heap.size, 0, none⟩)]) (neverE h) (fun x => goodE x ∧ usesB x ks.length = true) (some ⟨g, 0, none⟩) cap (partsE e) w2 (by have := unhide HPL2; omega) (unhide HGD2) (by rw [← hM]; exact ownE_all hO fun q hq => hK q hq w2 hb2 (Kept.refl _ _ _)) (test_never h m ks.length (unhide HLEN) hkl w.heap.size w2 (unhide HAT w2 (below_step (unhide HB1) hb2)) ((unhide HH1).later hb2))); rw [← hM, List.length_map, hM] at HCT))
            exact bodyPost_ret (v := .tuple #[.bool (!(partsE e).any (neverE h)), .int .i64 0]) (by simp [results, Try.results10, go_sem]) rfl ⟨by rw [(unhide HRR).1, (unhide HRR).2], below_step (unhide HB1) (below_step hb2 hb3)⟩
        · have HRR : Hid (R1 = false ∧ R2 = ER) := by
            have q := unhide HR2
            rw [show (ER == 0) = false by simpa using hE] at q
            show R1 = false ∧ R2 = ER
            simpa using q
          clear HR2
          go_wp2
          exact bodyPost_ret (v := .tuple #[.bool false, .int .i64 ER]) (by simp [results, Try.results10, go_sem]) rfl ⟨by rw [(unhide HRR).1, (unhide HRR).2], unhide HB1⟩
      · have HRR := hide (unhide HBAD (fun q => n3 q.2.2))
        have q3 : ¬ (h.nulls.length : Int) = (ks.length : Int) := by omega
        clear n1 n2 n3
        clear HR HKI HPA HAT HBAD
        go_enter Try.func10, Try.ntmps10
        go_upto_region 2 with fail
        rw [← hwa]
        clear hwa
        obtain ⟨u0, u1, u2, u3⟩ := unhide HH
        have q1 : ((h.low.length : Nat) : Int) = (ks.length : Int) := by rw [unhide N1]
        have q2 : ((h.high.length : Nat) : Int) = (ks.length : Int) := by rw [unhide N2]
        go_wp2
        exact bodyPost_ret (v := .tuple #[.bool false, .int .i64 1]) (by simp [results, Try.results10, go_sem]) rfl ⟨by rw [(unhide HRR).1, (unhide HRR).2], unhide HBA⟩
    · have HRR := hide (unhide HBAD (fun q => n2 q.2.1))
      have q2 : ¬ (h.high.length : Int) = (ks.length : Int) := by omega
      clear n1 n2
      clear HR HKI HPA HAT HBAD
      go_enter Try.func10, Try.ntmps10
      go_upto_region 2 with fail
      rw [← hwa]
      clear hwa
      obtain ⟨u0, u1, u2, u3⟩ := unhide HH
      have q1 : ((h.low.length : Nat) : Int) = (ks.length : Int) := by rw [unhide N1]
      go_wp2
      exact bodyPost_ret (v := .tuple #[.bool false, .int .i64 1]) (by simp [results, Try.results10, go_sem]) rfl ⟨by rw [(unhide HRR).1, (unhide HRR).2], unhide HBA⟩
  · have HRR := hide (unhide HBAD (fun q => n1 q.1))
    have q1 : ¬ (h.low.length : Int) = (ks.length : Int) := by omega
    clear n1
    clear HR HKI HPA HAT HBAD
    go_enter Try.func10, Try.ntmps10
    go_upto_region 2 with fail
    rw [← hwa]
    clear hwa
    obtain ⟨u0, u1, u2, u3⟩ := unhide HH
    go_wp2
    exact bodyPost_ret (v := .tuple #[.bool false, .int .i64 1]) (by simp [results, Try.results10, go_sem]) rfl ⟨by rw [(unhide HRR).1, (unhide HRR).2], unhide HBA⟩
end Go.Proofs.Ytfnacpkodfhfoad

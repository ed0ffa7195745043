import Derived.Test.YtfnacpkodfhfoadMyD
import Derived.Test.YtfnacpkodfhfoadMyF
import Derived.Test.YtfnacpkodfhfoadPtA
import Derived.Test.YtfnacpkodfhfoadKnE
set_option linter.unusedSimpArgs false
set_option linter.unusedVariables false
namespace Go.Proofs.Ytfnacpkodfhfoad
open Go.RowKit Go.Sort

mutual
theorem copy_copy : ∀ e : Ex, copyE (copyE e) = copyE e
  | .mk op n v l => by
    rw [copyE, copyE, copy_copyL l]
    by_cases h1 : (op == 1) = true
    · have h2 : (op == 2) = false := by rw [beq_iff_eq] at h1; rw [h1]; rfl
      rw [if_pos h1, if_pos h1, h2]
      rfl
    · rw [if_neg h1, if_neg h1]
      by_cases h2 : (op == 2) = true
      · rw [if_pos h2, if_pos h2, clean_clean]
      · rw [if_neg h2, if_neg h2]
theorem copy_copyL : ∀ l : List Ex, copyL (copyL l) = copyL l
  | [] => by rw [copyL, copyL]
  | e :: l => by rw [copyL, copyL, copy_copy e, copy_copyL l]
end
theorem parts_clean : ∀ (k : Nat) (e : Ex), e.size ≤ k → builtE e = true → ∀ p ∈ partsE e, copyE p = p := by
  intro k
  induction k with
  | zero => intro e hs; rw [Ex.size_mk] at hs; omega
  | succ k ih =>
    intro e hs hb p hp
    rw [partsE_eq] at hp
    split at hp
    · rename_i h
      simp only [Bool.and_eq_true, beq_iff_eq] at h
      obtain ⟨x, y, hxy⟩ := two_args (built_good h.2) (by rw [h.1]; decide)
      rw [hxy, partsL, partsL, partsL, List.append_nil, List.mem_append] at hp
      have h0 : e.args[0]? = some x := by rw [hxy]; rfl
      have h1 : e.args[1]? = some y := by rw [hxy]; rfl
      have := Ex.size_arg h0
      have := Ex.size_arg h1
      rcases hp with hp | hp
      · exact ih x (by omega) (built_arg hb h0) p hp
      · exact ih y (by omega) (built_arg hb h1) p hp
    · rw [List.mem_singleton] at hp
      subst hp
      have hc : copyT e = copyE e := by unfold copyT; rw [built_ends hb]; rfl
      rw [hc, copy_copy]
set_option maxHeartbeats 2000000 in
set_option maxRecDepth 100000 in
/-- tallyref.May (11). -/
theorem rmay_any (ks : List Int) (hkl : ks.length ≤ 140737488355328) (aK : Option Addr) (cK : Nat) (h : Hd) (m : Hm) (hl1 : h.low.length ≤ 140737488355328) (hl2 : h.high.length ≤ 140737488355328) (hl3 : h.nulls.length ≤ 140737488355328) (hr : In64 h.rows) (e : Ex) (hf : e.fin) (a : Option Addr) (c : Nat) (w : World) (ha : Ex.all w a e.args) (hK : IntsAt w aK ks) (hh : HdAt w h m) :
    Calls Try.prog 11 #[.slice aK ks.length cK, h.val m, e.val a c] w fun r w' => r = .returned (.tuple #[.bool (mayR ks h e).1, .int .i64 (mayR ks h e).2]) ∧ Below w.heap.size w w' := by
  have HKI := hide (fun (W : World) (hW : Below w.heap.size w W) => rkind_any ks hkl aK cK e hf a c W (Ex.all_later _ ha hW) (hK.later hW))
  have HPA := hide (fun (hb : builtE e = true) (W : World) (hW : Below w.heap.size w W) => rparts_built e.size e (Nat.le_refl _) hf hb a c W (Ex.all_later _ ha hW))
  have HAT := hide (fun (W : World) (hW : Below w.heap.size w W) => hh.later hW)
  obtain ⟨wa, hwa⟩ : ∃ wa, wa = (w.alloc (h.box m)).alloc (e.box a c) := ⟨_, rfl⟩
  have HBA : Hid (Below w.heap.size w wa) := by rw [hwa]; exact below_alloc (below_alloc (Below.refl _ _) _) _
  have hs1 : (w.alloc (h.box m)).heap.size = w.heap.size + 1 := by simp [go_sem]
  have HH : Hid (Four wa w.heap.size h m) := by rw [hwa]; exact (Four.new w h m).later (below_alloc (Below.refl _ _) _)
  have H6 : Hid (Six wa (w.heap.size + 1) e a c) := by
    have q := Six.new (w.alloc (h.box m)) e a c
    rw [hs1] at q
    rw [hwa]
    exact q
  obtain ⟨R, hR⟩ : ∃ R, R = mayR ks h e := ⟨_, rfl⟩
  rw [← hR]
  obtain ⟨R1, R2⟩ := R
  have HR := hide hR
  rw [Ex.val_open] at HKI HPA
  rw [Ex.val_open, Hd.val_open]
  unfold Ex.box Hd.box at hwa
  clear hs1 ha hK hh hR
  simp only
  by_cases hneg : h.rows < 0
  · have HRR : Hid (R1 = false ∧ R2 = 1) := by
      have hq : fitH h ks.length = false := by unfold fitH; simp [hneg]
      have q := unhide HR
      unfold mayR at q
      rw [hq] at q
      show R1 = false ∧ R2 = 1
      simpa using q
    clear HR HKI HPA HAT
    go_enter Try.func11, Try.ntmps11
    go_upto_region 1 with fail
    rw [← hwa]
    clear hwa
    obtain ⟨u0, u1, u2, u3⟩ := unhide HH
    go_wp2
    exact bodyPost_ret (v := .tuple #[.bool false, .int .i64 1]) (by simp [results, Try.results11, go_sem]) rfl ⟨by rw [(unhide HRR).1, (unhide HRR).2], unhide HBA⟩
  have HBAD : Hid (¬ (h.low.length = ks.length ∧ h.high.length = ks.length ∧ h.nulls.length = ks.length) → R1 = false ∧ R2 = 1) := fun hn => by
    have hq : fitH h ks.length = false := by
      unfold fitH
      by_cases q : (!decide (h.rows < 0) && (decide (h.low.length = ks.length) && (decide (h.high.length = ks.length) && decide (h.nulls.length = ks.length)))) = true
      · simp only [Bool.and_eq_true, decide_eq_true_eq] at q
        exact absurd q.2 hn
      · simpa using q
    have q := unhide HR
    unfold mayR at q
    rw [hq] at q
    simpa using q
  by_cases n1 : h.low.length = ks.length
  · have N1 := hide n1
    by_cases n2 : h.high.length = ks.length
    · have N2 := hide n2
      by_cases n3 : h.nulls.length = ks.length
      · have N3 := hide n3
        have hfit : fitH h ks.length = true := by unfold fitH; simp [hneg, n1, n2, n3]
        have HR2 : Hid ((R1, R2) = if kErr ks e == 0 then (decide (0 < h.rows) && !(partsE e).any (neverE h), 0) else (false, kErr ks e)) := by
          have q := unhide HR
          unfold mayR at q
          rw [hfit] at q
          exact q
        have HLEN : Hid (h.len ks.length) := ⟨n1, n2, n3⟩
        have HGD : Hid (kErr ks e = 0 → ∀ p ∈ partsE e, (goodE p ∧ usesB p ks.length = true) ∧ copyE p = p) := fun q p hp => ⟨parts_good ks.length e.size e (Nat.le_refl _) (kErr_zero q).1 (kErr_zero q).2 p hp, parts_clean e.size e (Nat.le_refl _) (kErr_zero q).1 p hp⟩
        have HPL : Hid (kErr ks e = 0 → (partsE e).length ≤ 400) := fun q => parts_400 (kErr_zero q).1
        have HBT : Hid (kErr ks e = 0 → builtE e = true) := fun q => (kErr_zero q).1
        obtain ⟨ER, hER⟩ : ∃ ER, ER = kErr ks e := ⟨_, rfl⟩
        rw [← hER] at HR2 HKI HGD HPL HBT
        clear HR HBAD n1 n2 n3 hfit hER
        go_enter Try.func11, Try.ntmps11
        go_upto_region 1 with fail
        rw [← hwa]
        clear hwa
        obtain ⟨u0, u1, u2, u3⟩ := unhide HH
        obtain ⟨b0, b1, b2, b3, b4, b5⟩ := unhide H6
        have q1 : ((h.low.length : Nat) : Int) = (ks.length : Int) := by rw [unhide N1]
        have q2 : ((h.high.length : Nat) : Int) = (ks.length : Int) := by rw [unhide N2]
        have q3 : ((h.nulls.length : Nat) : Int) = (ks.length : Int) := by rw [unhide N3]
        go_upto_region 4 with (go_at_call 21; refine (unhide HKI _ (unhide HBA)).mono ?_; rintro r w1 ⟨⟨kk, rfl⟩, hb1⟩)
        clear q1 q2 q3 u0 u1 u2 u3 b0 b1 b2 b3 b4 b5
        have HB1 := hide (below_step (unhide HBA) hb1)
        have HH1 := hide ((unhide HH).later hb1)
        have H61 := hide ((unhide H6).later hb1)
        obtain ⟨b0, b1, b2, b3, b4, b5⟩ := unhide H61
        by_cases hE : ER = 0
        · have HGD2 := hide (unhide HGD hE)
          have HPL2 := hide (unhide HPL hE)
          have HPX := hide (unhide HPA (unhide HBT hE) w1 (unhide HB1))
          have HR3 : Hid (R1 = (decide (0 < h.rows) && !(partsE e).any (neverE h)) ∧ R2 = 0) := by
            have q := unhide HR2
            rw [hE] at q
            show R1 = _ ∧ R2 = 0
            simpa using q
          subst hE
          clear HR2 HGD HPL HBT HKI HPA
          go_upto_region 7 with (go_at_call 22; refine (unhide HPX).mono ?_; rintro r w2 ⟨g, cap, L, rfl, hO, hM, hK, hb2⟩)
          have HLm : Hid (L.map (·.1) = partsE e) := hM
          have hll : L.length = (partsE e).length := by rw [← hM, List.length_map]
          have hlf : L.length ≤ 400 := by rw [hll]; exact unhide HPL2
          have HALL : Hid (∀ W, Below w2.heap.size w2 W → Ex.all W (some ⟨g, 0, none⟩) (partsE e)) := fun W hW => by
            have q : Ex.all w2 (some ⟨g, 0, none⟩) (partsE e) := by
              rw [← hM]
              exact ownE_all hO fun q hq => hK q hq w2 (Kept.refl _ _ _)
            exact Ex.all_later _ q hW
          have HLL := hide hll
          have HB2 := hide (below_step (unhide HB1) hb2)
          have HH2 := hide ((unhide HH1).later hb2)
          clear b0 b1 b2 b3 b4 b5 hO hM hK hb2 hll
          go_loopw [51] (fun i wr => ∃ k : Nat, k ≤ L.length ∧ i = .int .i64 (k : Int) ∧ Hid (∀ (j : Nat) (q : Ex), j < k → (partsE e)[j]? = some q → neverE h q = false) ∧ Hid (Below w2.heap.size w2 wr)) (fun i _ => L.length - (intOf i).toNat)
          case atStart => exact ⟨0, Nat.zero_le _, rfl, fun j q hj => absurd hj (by omega), Below.refl _ _⟩
          case round =>
            obtain ⟨k, hk, rfl, HN, HBr⟩ := hrel
            have HBW := hide (below_step (unhide HB2) (unhide HBr))
            by_cases hlt : k < L.length
            · have h9 : (k : Int) < (L.length : Int) := by omega
              obtain ⟨x, hx⟩ : ∃ x, (partsE e)[k]? = some x := ⟨_, List.getElem?_eq_getElem (by rw [← unhide HLL]; exact hlt)⟩
              obtain ⟨vb, vo, ea, hat⟩ := Ex.all_get (unhide HALL wr (unhide HBr)) hx
              simp only [Option.some.injEq, Addr.mk.injEq, and_true] at ea
              obtain ⟨rfl, rfl⟩ := ea
              obtain ⟨a', c', ⟨d0, d1, d2, d3, d4, d5⟩, hal⟩ := Ex.at_open hat
              rw [Nat.zero_add] at d0 d1 d2 d3 d4 d5
              have HBx := hide (below_alloc (Below.refl _ wr) (.cells #[.int .i64 x.op, .int .i64 x.n, .int .i64 x.v.k, .int .i64 x.v.n, .string x.v.s, .slice a' x.args.length c'] 26))
              obtain ⟨⟨hgx, hux⟩, hcx⟩ := unhide HGD2 x (List.mem_of_getElem? hx)
              have HX := hide (possible_any h m ks.length (unhide HLEN) hkl x hgx hux hcx a' c' (wr.alloc (.cells #[.int .i64 x.op, .int .i64 x.n, .int .i64 x.v.k, .int .i64 x.v.n, .string x.v.s, .slice a' x.args.length c'] 26)) (Ex.all_later _ hal (unhide HBx)) (unhide HAT _ (below_step (unhide HBW) (unhide HBx))))
              rw [Ex.val_open, Hd.val_open] at HX
              obtain ⟨u0, u1, u2, u3⟩ := (unhide HH2).later (below_step (unhide HBr) (unhide HBx))
              have HXX := hide hx
              clear hx hat hal hgx hux hcx
              cases hne : neverE h x with
              | false =>
                rw [hne] at HX
                have HN2 := hide (no_step (p := neverE h) (unhide HN) (unhide HXX) hne)
                clear hne HN
                go_wp2_with (go_at_call 23; refine (unhide HX).mono ?_; rintro r w3 ⟨rfl, hb3⟩)
                exact ⟨⟨k + 1, by omega, by go_num, unhide HN2, below_step (unhide HBr) (below_step (unhide HBx) hb3)⟩, by simp [intOf]; omega⟩
              | true =>
                rw [hne] at HX
                have HRR : Hid (R1 = false ∧ R2 = 0) := by
                  have q := unhide HR3
                  rw [any_at (p := neverE h) (unhide HXX) hne] at q
                  show R1 = false ∧ R2 = 0
                  simpa using q
                clear hne HN
                go_wp2_with (go_at_call 23; refine (unhide HX).mono ?_; rintro r w3 ⟨rfl, hb3⟩)
                exact bodyPost_ret (v := .tuple #[.bool false, .int .i64 0]) (by simp [results, Try.results11, go_sem]) rfl ⟨by rw [(unhide HRR).1, (unhide HRR).2], below_step (unhide HBW) (below_step (unhide HBx) hb3)⟩
            · have h9 : ¬ (k : Int) < (L.length : Int) := by omega
              have HRR : Hid (R1 = decide (0 < h.rows) ∧ R2 = 0) := by
                have q := unhide HR3
                rw [any_no (p := neverE h) (l := partsE e) fun i x hi hx => unhide HN i x (by have := unhide HLL; omega) hx] at q
                show R1 = _ ∧ R2 = 0
                simpa using q
              obtain ⟨u0, u1, u2, u3⟩ := (unhide HH2).later (unhide HBr)
              clear HN HR3
              go_wp2
              exact bodyPost_ret (v := .tuple #[.bool (decide (0 < h.rows)), .int .i64 0]) (by simp [results, Try.results11, go_sem]) rfl ⟨by rw [(unhide HRR).1, (unhide HRR).2], unhide HBW⟩
        · have HRR : Hid (R1 = false ∧ R2 = ER) := by
            have q := unhide HR2
            rw [show (ER == 0) = false by simpa using hE] at q
            show R1 = false ∧ R2 = ER
            simpa using q
          clear HR2
          go_wp2
          exact bodyPost_ret (v := .tuple #[.bool false, .int .i64 ER]) (by simp [results, Try.results11, go_sem]) rfl ⟨by rw [(unhide HRR).1, (unhide HRR).2], unhide HB1⟩
      · have HRR := hide (unhide HBAD (fun q => n3 q.2.2))
        have q3 : ¬ (h.nulls.length : Int) = (ks.length : Int) := by omega
        clear n1 n2 n3 HR HKI HPA HAT HBAD
        go_enter Try.func11, Try.ntmps11
        go_upto_region 1 with fail
        rw [← hwa]
        clear hwa
        obtain ⟨u0, u1, u2, u3⟩ := unhide HH
        have q1 : ((h.low.length : Nat) : Int) = (ks.length : Int) := by rw [unhide N1]
        have q2 : ((h.high.length : Nat) : Int) = (ks.length : Int) := by rw [unhide N2]
        go_wp2
        exact bodyPost_ret (v := .tuple #[.bool false, .int .i64 1]) (by simp [results, Try.results11, go_sem]) rfl ⟨by rw [(unhide HRR).1, (unhide HRR).2], unhide HBA⟩
    · have HRR := hide (unhide HBAD (fun q => n2 q.2.1))
      have q2 : ¬ (h.high.length : Int) = (ks.length : Int) := by omega
      clear n1 n2 HR HKI HPA HAT HBAD
      go_enter Try.func11, Try.ntmps11
      go_upto_region 1 with fail
      rw [← hwa]
      clear hwa
      obtain ⟨u0, u1, u2, u3⟩ := unhide HH
      have q1 : ((h.low.length : Nat) : Int) = (ks.length : Int) := by rw [unhide N1]
      go_wp2
      exact bodyPost_ret (v := .tuple #[.bool false, .int .i64 1]) (by simp [results, Try.results11, go_sem]) rfl ⟨by rw [(unhide HRR).1, (unhide HRR).2], unhide HBA⟩
  · have HRR := hide (unhide HBAD (fun q => n1 q.1))
    have q1 : ¬ (h.low.length : Int) = (ks.length : Int) := by omega
    clear n1 HR HKI HPA HAT HBAD
    go_enter Try.func11, Try.ntmps11
    go_upto_region 1 with fail
    rw [← hwa]
    clear hwa
    obtain ⟨u0, u1, u2, u3⟩ := unhide HH
    go_wp2
    exact bodyPost_ret (v := .tuple #[.bool false, .int .i64 1]) (by simp [results, Try.results11, go_sem]) rfl ⟨by rw [(unhide HRR).1, (unhide HRR).2], unhide HBA⟩
set_option maxHeartbeats 400000 in
/-- tallylaw.num (12). -/
theorem lawnum_any (n : Int) (w : World) : Calls Try.prog 12 #[.int .i64 n] w fun r w' => r = .returned (.int .i64 n) ∧ Below w.heap.size w w' := by
  go_enter Try.func12, Try.ntmps12
  go_wp2
  go_ret
  exact ⟨rfl, by first | exact Below.refl _ _ | exact below_alloc (Below.refl _ _) _⟩
set_option maxHeartbeats 2000000 in
set_option maxRecDepth 100000 in
/-- The law: what both sides answer of May is the same. -/
theorem law_sm (ks : List Int) (hkl : ks.length ≤ 140737488355328) (aK : Option Addr) (cK : Nat) (h : Hd) (m : Hm) (hl1 : h.low.length ≤ 140737488355328) (hl2 : h.high.length ≤ 140737488355328) (hl3 : h.nulls.length ≤ 140737488355328) (hr : In64 h.rows) (e : Ex) (hf : e.fin) (a : Option Addr) (c : Nat) (w : World) (ha : Ex.all w a e.args) (hK : IntsAt w aK ks) (hh : HdAt w h m) :
    Calls Try.prog 5 #[.slice aK ks.length cK, h.val m, e.val a c] w fun r w' => r = .returned (.bool true) ∧ Below w.heap.size w w' := by
  have HM1 := hide (fun (W : World) (hW : Below w.heap.size w W) => may_any ks hkl aK cK h m hl1 hl2 hl3 hr e hf a c W (Ex.all_later _ ha hW) (hK.later hW) (hh.later hW))
  have HM2 := hide (fun (W : World) (hW : Below w.heap.size w W) => rmay_any ks hkl aK cK h m hl1 hl2 hl3 hr e hf a c W (Ex.all_later _ ha hW) (hK.later hW) (hh.later hW))
  have HNM := hide lawnum_any
  obtain ⟨wa, hwa⟩ : ∃ wa, wa = (w.alloc (h.box m)).alloc (e.box a c) := ⟨_, rfl⟩
  have HBA : Hid (Below w.heap.size w wa) := by rw [hwa]; exact below_alloc (below_alloc (Below.refl _ _) _) _
  have hs1 : (w.alloc (h.box m)).heap.size = w.heap.size + 1 := by simp [go_sem]
  have HH : Hid (Four wa w.heap.size h m) := by rw [hwa]; exact (Four.new w h m).later (below_alloc (Below.refl _ _) _)
  have H6 : Hid (Six wa (w.heap.size + 1) e a c) := by
    have q := Six.new (w.alloc (h.box m)) e a c
    rw [hs1] at q
    rw [hwa]
    exact q
  generalize mayR ks h e = M at *
  obtain ⟨R1, R2⟩ := M
  simp only at HM1 HM2
  rw [Ex.val_open, Hd.val_open] at HM1 HM2
  rw [Ex.val_open, Hd.val_open]
  unfold Ex.box Hd.box at hwa
  clear hs1 ha hK hh hf hr
  go_enter Try.func5, Try.ntmps5
  go_upto_region 1 with fail
  rw [← hwa]
  clear hwa
  obtain ⟨u0, u1, u2, u3⟩ := unhide HH
  obtain ⟨b0, b1, b2, b3, b4, b5⟩ := unhide H6
  go_wp2_with (first
    | (go_at_call 12; refine (unhide HNM R2 w2).mono ?_; rintro r w3 ⟨rfl, hb3⟩)
    | (go_at_call 11; refine (unhide HM2 w1 (below_step (unhide HBA) hb1)).mono ?_; rintro r w2 ⟨rfl, hb2⟩)
    | (go_at_call 10; refine (unhide HM1 _ (unhide HBA)).mono ?_; rintro r w1 ⟨rfl, hb1⟩; obtain ⟨u0, u1, u2, u3⟩ := (unhide HH).later hb1; obtain ⟨b0, b1, b2, b3, b4, b5⟩ := (unhide H6).later hb1))
  go_ret
  exact ⟨rfl, below_step (unhide HBA) (below_step hb1 (below_step hb2 hb3))⟩
end Go.Proofs.Ytfnacpkodfhfoad

import Derived.Test.YtgmfbjehdcdioaaOjI
set_option linter.unusedSimpArgs false
set_option linter.unusedVariables false
set_option maxRecDepth 100000
namespace Go.Proofs.Ytgmfbjehdcdioaa
open Go.RowKit Go.Sort

theorem box_cells {W : World} {bs : Nat} {x : Cm} (h : W.rowIs bs 36 7 (fun j => match j with | 0 => .int .i64 x.k | 1 => .int .i64 x.n | 2 => .string x.s | 3 => .int .i64 x.N | 4 => .bool x.m | 5 => .int .i64 x.A | _ => .int .i64 x.B)) : W.cell? ⟨bs, 0, none⟩ = some (.int .i64 x.k) ∧ W.cell? ⟨bs, 1, none⟩ = some (.int .i64 x.n) ∧ W.cell? ⟨bs, 2, none⟩ = some (.string x.s) ∧ W.cell? ⟨bs, 3, none⟩ = some (.int .i64 x.N) := ⟨h.cell (i := 0) (by omega), h.cell (i := 1) (by omega), h.cell (i := 2) (by omega), h.cell (i := 3) (by omega)⟩
/-- What the law asks at its end. -/
def Fin (w0 w : World) : Prop := Calls Try.prog 5 #[.int .i64 1] w fun e w1 => ∃ b, e = .returned (.tuple #[.pointer (some ⟨b, 0, none⟩), .int .i64 0]) ∧ Calls Try.prog 15 #[] w1 fun e w2 => e = .returned (.agg #[.int .i64 2, .int .i64 0, .string ⟨#[115, 112, 111, 105, 108, 116]⟩]) ∧
  Calls Try.prog 8 #[.pointer (some ⟨b, 0, none⟩), .agg #[.int .i64 2, .int .i64 0, .string ⟨#[115, 112, 111, 105, 108, 116]⟩], .int .i64 5] w2 fun e w3 => e = .returned (.int .i64 0) ∧ (Calls Try.prog 12 #[.pointer (some ⟨b, 0, none⟩)] w3 fun e w' => e = .returned (.int .i64 5) ∧ w' = w3) ∧
  Calls Try.prog 11 #[.pointer (some ⟨b, 0, none⟩)] w3 fun e w' => ∃ a c, e = .returned (.slice a 1 c) ∧ Below w0.heap.size w0 w'
theorem fin_any {w0 w : World} (h : Below w0.heap.size w0 w) : Fin w0 w := by
  refine (new_good 1 w (by omega) (by omega)).mono ?_
  rintro e w1 ⟨b, F, rfl, hS, hb, hf⟩
  refine ⟨b, rfl, (mark_any w1).mono ?_⟩
  rintro e w2 ⟨rfl, hb2⟩
  refine ⟨rfl, (one_told (hS.keep fun z hz => hb2.block z (hS.lt hz)) ⟨2, 0, ⟨#[115, 112, 111, 105, 108, 116]⟩⟩).mono ?_⟩
  rintro e w3 ⟨rfl, h12, h11, hK⟩
  refine ⟨rfl, h12, h11.mono ?_⟩
  rintro e w4 ⟨a, c, rfl, hb4⟩
  have h1 := below_step h (below_step hb hb2)
  exact ⟨a, c, rfl, below_step (h1.trans (hK.below (fun z hz => Nat.le_trans h.size (hf z hz)) h1.size)) hb4⟩

set_option maxHeartbeats 40000000 in
theorem law_mem (w : World) (kk : Int) (a : Option Addr) (ca : Nat) (ss : List Cm) (hss : ScAt w a ss) (hsl : ss.length ≤ 140737488355328) :
    Calls Try.prog 4 #[.int .i64 kk, .slice a ss.length ca] w fun e w' => e = .returned (.bool true) ∧ Below w.heap.size w w' := by
  have HSC := hide hss
  clear hss
  go_enter Try.func4, Try.ntmps4
  go_upto_region 1 with fail
  go_cut [22] (fun s22 wc => ∃ bb, s22 = .bool bb ∧ w = wc ∧ Hid (bb = false → 1 ≤ kk ∧ kk ≤ 1024))
  case first =>
    by_cases h1 : kk < 1
    · go_wp2
      go_meet
      exact ⟨true, rfl, rfl, fun h => by cases h⟩
    · by_cases h2 : 1024 < kk
      · go_wp2
        go_meet
        exact ⟨true, rfl, rfl, fun h => by cases h⟩
      · have HK : Hid (1 ≤ kk ∧ kk ≤ 1024) := ⟨by omega, by omega⟩
        go_wp2
        go_meet
        exact ⟨false, rfl, rfl, fun _ => unhide HK⟩
  case rest =>
  obtain ⟨bb, rfl, rfl, HBB⟩ := hcut
  go_upto_if 22 with fail
  go_cut [0] (fun s0 wc => ∃ k : Nat, s0 = .int .i64 (k : Int) ∧ w = wc ∧ 1 ≤ k ∧ k ≤ 1024)
  case first =>
    cases bb with
    | true =>
      go_wp2
      go_meet
      exact ⟨3, rfl, rfl, by decide, by decide⟩
    | false =>
      obtain ⟨h1, h2⟩ := unhide HBB rfl
      obtain ⟨k, rfl⟩ : ∃ k : Nat, kk = (k : Int) := ⟨kk.toNat, by omega⟩
      have HK : Hid (1 ≤ k ∧ k ≤ 1024) := ⟨by omega, by omega⟩
      go_wp2
      go_meet
      exact ⟨k, rfl, rfl, (unhide HK).1, (unhide HK).2⟩
  case rest =>
  obtain ⟨k, rfl, rfl, hk1, hk⟩ := hcut
  have K5 := hide (fun W => new_good k W hk1 hk)
  go_upto_region 6 with (first
    | (go_at_call 5; refine (unhide K5 w).mono ?_; rintro _ wa ⟨ba, Fa, rfl, ha1, ha2, ha3⟩; replace ha1 := hide ha1; replace ha2 := hide ha2; replace ha3 := hide ha3)
    | (go_at_call 5; refine (unhide K5 wa).mono ?_; rintro _ wb ⟨bb2, Fb, rfl, hb1, hb2, hb3⟩; replace hb1 := hide hb1; replace hb2 := hide hb2; replace hb3 := hide hb3)
    | (go_at_call 5; refine (unhide K5 wb).mono ?_; rintro _ wc ⟨bc, Fc, rfl, hc1, hc2, hc3⟩; replace hc1 := hide hc1; replace hc2 := hide hc2; replace hc3 := hide hc3))
  obtain ⟨bx, e0, e1, e2⟩ := bxf ba bb2 bc
  have HA : Hid (At2 w wc k bx) := At2.start (unhide ha1) (unhide ha2) (unhide ha3) (unhide hb1) (unhide hb2) (unhide hb3) (unhide hc1) (unhide hc2) (unhide hc3) e0 e1 e2
  subst e0 e1 e2
  clear ha1 ha2 ha3 hb1 hb2 hb3 hc1 hc2 hc3 K5 HBB
  go_wp2_with fail
  go_loopw [11] (fun s11 wr => ∃ r : Nat, r ≤ 500 ∧ r ≤ ss.length ∧ s11 = .int .i64 (r : Int) ∧ Hid (At2 w wr k bx)) (fun s _ => 500 - (intOf s).toNat)
  case atStart => exact ⟨0, by omega, by omega, rfl, HA⟩
  case round =>
    obtain ⟨r, hr, hrl, rfl, HR⟩ := hrel
    clear HA
    obtain ⟨F9, XS9, FL9, hTw⟩ := unhide HR
    by_cases hlt : r < ss.length ∧ r < 500
    · obtain ⟨hl1, hl2⟩ := hlt
      have i1 : (r : Int) < (ss.length : Int) := by omega
      have i2 : (r : Int) < 500 := by omega
      obtain ⟨x, hx⟩ : ∃ x, ss[r]? = some x := ⟨_, List.getElem?_eq_getElem hl1⟩
      rcases (unhide HSC).later hTw.sm.bel with e | ⟨sb, so, rfl, hcel⟩
      · rw [e] at hx; simp at hx
      obtain ⟨d0, d1, d2, d3, d4, d5, d6⟩ := hcel r x hx
      clear hcel hTw
      obtain ⟨W, hW⟩ : ∃ W, wr.alloc (.cells #[.int .i64 x.k, .int .i64 x.n, .string x.s, .int .i64 x.N, .bool x.m, .int .i64 x.A, .int .i64 x.B] 36) = W := ⟨_, rfl⟩
      obtain ⟨bs, hbs⟩ : ∃ bs, wr.heap.size = bs := ⟨_, rfl⟩
      have hBW : Below wr.heap.size wr W := by rw [← hW]; exact below_alloc (Below.refl _ _) _
      have hbW : W.rowIs bs 36 7 (fun j => match j with | 0 => .int .i64 x.k | 1 => .int .i64 x.n | 2 => .string x.s | 3 => .int .i64 x.N | 4 => .bool x.m | 5 => .int .i64 x.A | _ => .int .i64 x.B) := by
        rw [← hW, ← hbs]
        refine World.rowIs_alloc wr _ 36 _ fun i hi => ?_
        match i, hi with
        | 0, _ => rfl
        | 1, _ => rfl
        | 2, _ => rfl
        | 3, _ => rfl
        | 4, _ => rfl
        | 5, _ => rfl
        | 6, _ => rfl
      have HB3 : Hid (At3 w W k bx bs x) := (unhide HR).row hBW hbs hbW
      have K7 : Hid (∀ W', Calls Try.prog 7 #[.int .i64 x.A, .int .i64 4] W' fun e w' => e = .returned (.int .i64 (modN x.A 4 : Int)) ∧ w' = W') := fun W' => mod_any x.A 4 (by decide) (by decide) W'
      have e4 := hbW.cell (i := 4) (by omega)
      have e5 := hbW.cell (i := 5) (by omega)
      clear hbW hBW hx HR
      go_upto_region 12 with fail
      clear d0 d1 d2 d3 d4 d5 d6
      go_cut [73] (fun s73 wc => ∃ bb, s73 = .bool bb ∧ Hid (At3 w wc k bx bs x))
      case first =>
        obtain ⟨B, hB⟩ : ∃ B, x.m = B := ⟨_, rfl⟩
        rw [hB] at e4
        clear hB
        cases B with
        | true =>
          go_wp2_with (go_at_call 7; refine (unhide K7 _).mono ?_; rintro _ _ ⟨rfl, rfl⟩)
          go_meet
          exact ⟨_, rfl, HB3⟩
        | false =>
          go_wp2
          go_meet
          exact ⟨_, rfl, HB3⟩
      case rest =>
      obtain ⟨bb, rfl, HB⟩ := hcut
      clear HB3 e4 e5 K7 hW hbs
      go_upto_if 73 with fail
      go_cut [] (fun wc => Hid (At3 w wc k bx bs x))
      case first =>
        cases bb with
        | false =>
          go_wp2
          go_meet
          exact HB
        | true =>
          have K11 := hide ((unhide HB).all1 hk)
          clear HB
          go_upto_region 15 with (first
            | (go_at_call 11; refine (unhide K11).mono ?_; rintro _ w1 ⟨a1, n1, c1, T1, w2, rfl, hrun, HP⟩; replace HP := hide HP; replace hrun := hide hrun)
            | (at_builtin; refine wpList_app_run rfl (.tmp 76) (.tmp 77) rfl _ _ rfl rfl (unhide hrun) ?_))
          clear K11 hrun
          go_cut [92] (fun s92 wc => s92 = .bool false ∧ Hid (PmS w wc k bx bs x (.slice a1 n1 c1) T1))
          case first =>
            rcases (unhide HP).merge hk with K6 | ⟨t1, t2, hT, K6⟩
            · replace K6 := hide K6
              clear HP
              go_wp2_with (go_at_call 6; refine (unhide K6).mono ?_; rintro _ w6 ⟨rfl, HQ⟩; replace HQ := hide HQ)
              go_meet
              exact ⟨rfl, HQ⟩
            · replace K6 := hide K6
              clear HP
              obtain ⟨u1, hu1⟩ : ∃ u : Int, (t1 : Int) = u := ⟨_, rfl⟩
              obtain ⟨u2, hu2⟩ : ∃ u : Int, (t2 : Int) = u := ⟨_, rfl⟩
              rw [hu1, hu2] at K6
              by_cases h1 : u1 < 1099511627776
              · have h2 : decide (u2 < 1099511627776) = false := decide_eq_false (by omega)
                clear hT hu1 hu2
                go_wp2_with (first
                  | (go_at_call 6; refine (unhide K6).mono ?_; rintro _ w6 ⟨rfl, HQ, K12, K13⟩; replace HQ := hide HQ; replace K12 := hide K12; replace K13 := hide K13)
                  | (go_at_call 12; refine (unhide K12).mono ?_; rintro _ _ ⟨rfl, rfl⟩)
                  | (go_at_call 12; refine (unhide K13).mono ?_; rintro _ _ ⟨rfl, rfl⟩))
                go_meet
                exact ⟨by simp [h2], HQ⟩
              · have h2 : decide (u1 < 1099511627776) = false := decide_eq_false h1
                clear hT hu1 hu2 h1
                go_wp2_with (first
                  | (go_at_call 6; refine (unhide K6).mono ?_; rintro _ w6 ⟨rfl, HQ, K12, K13⟩; replace HQ := hide HQ; replace K12 := hide K12; replace K13 := hide K13)
                  | (go_at_call 12; refine (unhide K12).mono ?_; rintro _ _ ⟨rfl, rfl⟩)
                  | (go_at_call 12; refine (unhide K13).mono ?_; rintro _ _ ⟨rfl, rfl⟩))
                go_meet
                exact ⟨by simp [h2], HQ⟩
          case rest =>
            obtain ⟨rfl, HP2⟩ := hcut
            obtain ⟨z0, z1, z2, _⟩ := box_cells (unhide HP2).box
            have K8 := hide ((unhide HP2).add hk)
            clear HP HP2
            go_wp2_with (first
              | (go_at_call 8; refine (unhide K8).mono ?_; rintro _ w8 ⟨er, rfl, HP8⟩; have K13 := hide HP8.spoil; clear HP8)
              | (go_at_call 13; refine (unhide K13).mono ?_; rintro _ w13 ⟨rfl, HT⟩; have K11 := hide (HT.all hk); clear HT)
              | (go_at_call 11; refine (unhide K11).mono ?_; rintro _ w11 ⟨S2, rfl, K14⟩; replace K14 := hide K14)
              | (go_at_call 14; refine (unhide K14).mono ?_; rintro _ w14 ⟨rfl, HF⟩; replace HF := hide HF))
            go_meet
            exact HF
      case rest =>
      have HB := hcut
      clear hcut
      clear bb
      rename World => wa
      go_upto_region 21 with fail
      go_cut [117] (fun s117 wc => s117 = .bool false ∧ Hid (At3 w wc k bx bs x))
      case first =>
        have HB1 := (unhide HB).later (Below.refl _ _).drew
        have HS0 := hide (box_cells HB1.2)
        have HAO := hide (HB1.add0 hk)
        clear HB HB1
        refine wp_region_noPanic ?_
        refine wp_region_G (S := fun w' : World => w'.cell? ⟨bs, 0, none⟩ = some (.int .i64 x.k) ∧ w'.cell? ⟨bs, 1, none⟩ = some (.int .i64 x.n) ∧ w'.cell? ⟨bs, 2, none⟩ = some (.string x.s) ∧ w'.cell? ⟨bs, 3, none⟩ = some (.int .i64 x.N)) (k := 12) (by kernel_rfl) ?_
        have SS : (fun w' : World => w'.cell? ⟨bs, 0, none⟩ = some (.int .i64 x.k) ∧ w'.cell? ⟨bs, 1, none⟩ = some (.int .i64 x.n) ∧ w'.cell? ⟨bs, 2, none⟩ = some (.string x.s) ∧ w'.cell? ⟨bs, 3, none⟩ = some (.int .i64 x.N)) wa.drew := unhide HS0
        change anyG _ _ _ _ _ _ _ _ _ wa.drew
        refine anyG_takel (i := 0) (v := (.pointer (some ⟨(bx 0), 0, none⟩))) [5, 11, 12] rfl (by kernel_rfl) (by kernel_rfl) (by kernel_rfl) (by kernel_rfl) (fun _ _ _ h => h) (Or.inl ⟨by rfl, fun w' hSw => ?_⟩) SS ?_
        · dsimp only at hSw; obtain ⟨z0, z1, z2, z3⟩ := hSw; go_simp
        try simp only [Act.put, List.setIfInBounds_toArray, List.set_cons_zero, List.set_cons_succ]
        refine anyG_takel (i := 1) (v := (.pointer (some ⟨bs, 0, none⟩))) [2, 5, 11, 12] rfl (by kernel_rfl) (by kernel_rfl) (by kernel_rfl) (by kernel_rfl) (fun _ _ _ h => h) (Or.inl ⟨by rfl, fun w' hSw => ?_⟩) SS ?_
        · dsimp only at hSw; obtain ⟨z0, z1, z2, z3⟩ := hSw; go_simp
        try simp only [Act.put, List.setIfInBounds_toArray, List.set_cons_zero, List.set_cons_succ]
        refine anyG_takel (i := 2) (v := (.agg #[.int .i64 x.k, .int .i64 x.n, .string x.s])) [5, 11, 12] rfl (by kernel_rfl) (by kernel_rfl) (by kernel_rfl) (by kernel_rfl) (fun _ _ _ h => h) (Or.inl ⟨by rfl, fun w' hSw => ?_⟩) SS ?_
        · dsimp only at hSw; obtain ⟨z0, z1, z2, z3⟩ := hSw; go_simp
        try simp only [Act.put, List.setIfInBounds_toArray, List.set_cons_zero, List.set_cons_succ]
        refine anyG_takel (i := 3) (v := (.pointer (some ⟨bs, 3, none⟩))) [4, 5, 11, 12] rfl (by kernel_rfl) (by kernel_rfl) (by kernel_rfl) (by kernel_rfl) (fun _ _ _ h => h) (Or.inl ⟨by rfl, fun w' hSw => ?_⟩) SS ?_
        · dsimp only at hSw; obtain ⟨z0, z1, z2, z3⟩ := hSw; go_simp
        try simp only [Act.put, List.setIfInBounds_toArray, List.set_cons_zero, List.set_cons_succ]
        refine anyG_takel (i := 4) (v := (.int .i64 x.N)) [5, 11, 12] rfl (by kernel_rfl) (by kernel_rfl) (by kernel_rfl) (by kernel_rfl) (fun _ _ _ h => h) (Or.inl ⟨by rfl, fun w' hSw => ?_⟩) SS ?_
        · dsimp only at hSw; obtain ⟨z0, z1, z2, z3⟩ := hSw; go_simp
        try simp only [Act.put, List.setIfInBounds_toArray, List.set_cons_zero, List.set_cons_succ]
        refine anyG_takel (i := 6) (v := (.pointer (some ⟨(bx 1), 0, none⟩))) [11, 12] rfl (by kernel_rfl) (by kernel_rfl) (by kernel_rfl) (by kernel_rfl) (fun _ _ _ h => h) (Or.inl ⟨by rfl, fun w' hSw => ?_⟩) SS ?_
        · dsimp only at hSw; obtain ⟨z0, z1, z2, z3⟩ := hSw; go_simp
        try simp only [Act.put, List.setIfInBounds_toArray, List.set_cons_zero, List.set_cons_succ]
        refine anyG_takel (i := 7) (v := (.pointer (some ⟨bs, 0, none⟩))) [8, 11, 12] rfl (by kernel_rfl) (by kernel_rfl) (by kernel_rfl) (by kernel_rfl) (fun _ _ _ h => h) (Or.inl ⟨by rfl, fun w' hSw => ?_⟩) SS ?_
        · dsimp only at hSw; obtain ⟨z0, z1, z2, z3⟩ := hSw; go_simp
        try simp only [Act.put, List.setIfInBounds_toArray, List.set_cons_zero, List.set_cons_succ]
        refine anyG_takel (i := 8) (v := (.agg #[.int .i64 x.k, .int .i64 x.n, .string x.s])) [11, 12] rfl (by kernel_rfl) (by kernel_rfl) (by kernel_rfl) (by kernel_rfl) (fun _ _ _ h => h) (Or.inl ⟨by rfl, fun w' hSw => ?_⟩) SS ?_
        · dsimp only at hSw; obtain ⟨z0, z1, z2, z3⟩ := hSw; go_simp
        try simp only [Act.put, List.setIfInBounds_toArray, List.set_cons_zero, List.set_cons_succ]
        refine anyG_takel (i := 9) (v := (.pointer (some ⟨bs, 3, none⟩))) [10, 11, 12] rfl (by kernel_rfl) (by kernel_rfl) (by kernel_rfl) (by kernel_rfl) (fun _ _ _ h => h) (Or.inl ⟨by rfl, fun w' hSw => ?_⟩) SS ?_
        · dsimp only at hSw; obtain ⟨z0, z1, z2, z3⟩ := hSw; go_simp
        try simp only [Act.put, List.setIfInBounds_toArray, List.set_cons_zero, List.set_cons_succ]
        refine anyG_takel (i := 10) (v := (.int .i64 x.N)) [11, 12] rfl (by kernel_rfl) (by kernel_rfl) (by kernel_rfl) (by kernel_rfl) (fun _ _ _ h => h) (Or.inl ⟨by rfl, fun w' hSw => ?_⟩) SS ?_
        · dsimp only at hSw; obtain ⟨z0, z1, z2, z3⟩ := hSw; go_simp
        try simp only [Act.put, List.setIfInBounds_toArray, List.set_cons_zero, List.set_cons_succ]
        refine anyG_one (i := 5) (by kernel_rfl) ?_
        refine wpOp_lit rfl (by rfl) fun K hK => ?_
        go_simp
        refine (unhide HAO).mono ?_
        rintro e w5 ⟨er, rfl, HA5⟩
        have S5 := box_cells HA5.box
        go_simp
        replace HA5 := hide HA5
        refine unhide hK _ _ ⟨fun _ => S5, ?_⟩
        clear hK K
        refine anyG_one (i := 11) (by kernel_rfl) ?_
        refine wpOp_lit rfl (by rfl) fun K hK => ?_
        go_simp
        refine ((unhide HA5).add1 hk).mono ?_
        rintro e w6 ⟨rfl, HA6⟩
        have S6 := box_cells HA6.2
        go_simp
        replace HA6 := hide HA6
        refine unhide hK _ _ ⟨fun _ => S6, ?_⟩
        clear hK K
        refine anyG_one (i := 12) (by kernel_rfl) ?_
        refine wpOp_lit rfl (by rfl) fun K hK => ?_
        go_simp
        refine unhide hK _ _ ⟨fun hh => absurd hh (by decide), ?_⟩
        clear hK K
        refine anyG_done (by kernel_rfl) ?_ _
        refine NoPanic.normal ?_
        go_wp2
        go_meet
        exact ⟨by simp, HA6⟩
      case rest =>
      obtain ⟨rfl, HB⟩ := hcut
      have K11 := hide ((unhide HB).all0 hk)
      clear HB
      go_upto_region 24 with (first
        | (go_at_call 11; refine (unhide K11).mono ?_; rintro _ w1 ⟨S1, rfl, K13⟩; replace K13 := hide K13)
        | (go_at_call 13; refine (unhide K13).mono ?_; rintro _ w2 ⟨rfl, HC⟩; replace HC := hide HC))
      clear K11 K13
      go_cut [134] (fun s134 wc => s134 = .bool false ∧ Hid (At3 w wc k bx bs x))
      case first =>
        have K11 := hide ((unhide HC).two hk)
        clear HC
        go_wp2_with (first
          | (go_at_call 12; refine (unhide K12).mono ?_; rintro _ _ ⟨rfl, rfl⟩)
          | (go_at_call 12; refine (unhide K13).mono ?_; rintro _ _ ⟨rfl, rfl⟩)
          | (go_at_call 14; refine (unhide K14).mono ?_; rintro _ w4 ⟨rfl, HD⟩; obtain ⟨T5, K12, K13⟩ := HD.tot; replace HD := hide HD; replace K12 := hide K12; replace K13 := hide K13)
          | (go_at_call 11; refine (unhide K15).mono ?_; rintro _ w3b ⟨S4, rfl, K14⟩; replace K14 := hide K14)
          | (go_at_call 11; refine (unhide K11).mono ?_; rintro _ w3 ⟨S3, rfl, K15⟩; replace K15 := hide K15))
        go_meet
        exact ⟨by simp, HD⟩
      case rest =>
      obtain ⟨rfl, HB⟩ := hcut
      have HN2 := hide (unhide HB).less
      clear HB HC
      go_wp2_with fail
      go_roundw
      case rel => exact ⟨r + 1, by omega, by omega, by go_num, HN2⟩
      case measure => simp [intOf]; omega
    · have HF := hide (fin_any hTw.sm.bel)
      clear hTw HR
      by_cases hl1 : r < ss.length
      · have hl2 : ¬ (r : Int) < 500 := by omega
        have i1 : (r : Int) < (ss.length : Int) := by omega
        clear hlt
        go_wp2_with (first
          | (go_at_call 5; refine (unhide HF).mono ?_; rintro _ w1 ⟨bo, rfl, K15⟩; replace K15 := hide K15)
          | (go_at_call 15; refine (unhide K15).mono ?_; rintro _ w2 ⟨rfl, K8⟩; replace K8 := hide K8)
          | (go_at_call 8; refine (unhide K8).mono ?_; rintro _ w3 ⟨rfl, K12, K11⟩; replace K12 := hide K12; replace K11 := hide K11)
          | (go_at_call 12; refine (unhide K12).mono ?_; rintro _ _ ⟨rfl, rfl⟩)
          | (go_at_call 11; refine (unhide K11).mono ?_; rintro _ w4 ⟨a4, c4, rfl, HZ⟩; replace HZ := hide HZ))
        go_ret
        exact ⟨rfl, unhide HZ⟩
      · have i1 : ¬ (r : Int) < (ss.length : Int) := by omega
        clear hlt
        go_wp2_with (first
          | (go_at_call 5; refine (unhide HF).mono ?_; rintro _ w1 ⟨bo, rfl, K15⟩; replace K15 := hide K15)
          | (go_at_call 15; refine (unhide K15).mono ?_; rintro _ w2 ⟨rfl, K8⟩; replace K8 := hide K8)
          | (go_at_call 8; refine (unhide K8).mono ?_; rintro _ w3 ⟨rfl, K12, K11⟩; replace K12 := hide K12; replace K11 := hide K11)
          | (go_at_call 12; refine (unhide K12).mono ?_; rintro _ _ ⟨rfl, rfl⟩)
          | (go_at_call 11; refine (unhide K11).mono ?_; rintro _ w4 ⟨a4, c4, rfl, HZ⟩; replace HZ := hide HZ))
        go_ret
        exact ⟨rfl, unhide HZ⟩
end Go.Proofs.Ytgmfbjehdcdioaa

import Derived.Test.YtcpndojkfngioaaGreatKnC
set_option linter.unusedSimpArgs false
set_option linter.unusedVariables false
set_option maxRecDepth 100000
namespace Go.Proofs.YtcpndojkfngioaaGreat
open Go.RowKit Go.Sort

theorem six_lowR {b lo : Nat} {e : Ex} {a : Option Addr} {c : Nat} {w w' : World} (h : Six w b e a c) (hb : Below lo w w') (hl : b < lo) : Six w' b e a c := by
  have hc : ∀ o, w'.cell? ⟨b, o, none⟩ = w.cell? ⟨b, o, none⟩ := fun o => hb.cell (p := ⟨b, o, none⟩) hl
  obtain ⟨s0, s1, s2, s3, s4, s5⟩ := h
  exact ⟨by rw [hc]; exact s0, by rw [hc]; exact s1, by rw [hc]; exact s2, by rw [hc]; exact s3, by rw [hc]; exact s4, by rw [hc]; exact s5⟩
theorem kpost_of {O : Option Int} {w w' : World} {c1 : Int} {c2 : Bool} {d : Int × Bool} (hO : O = if d.2 then some d.1 else none) (h2 : c2 = d.2) (h1 : d.2 = true → c1 = d.1) (hb : Below w.heap.size w w') : KPost O w (.returned (.tuple #[.int .i64 c1, .bool c2])) w' := by
  obtain ⟨d1, d2⟩ := d
  simp only at h1 h2 hO
  subst h2
  refine ⟨⟨c1, c2, rfl, ?_, ?_⟩, hb⟩
  · rw [hO]; cases c2 <;> rfl
  · intro y hy
    rw [hO] at hy
    cases c2 with
    | false => cases hy
    | true => injection hy with hy; rw [h1 rfl, hy]
set_option maxHeartbeats 4000000 in
set_option maxRecDepth 100000 in
theorem rkof_step (ks : List Int) (hkl : ks.length ≤ 140737488355328) (hks : ∀ k ∈ ks, 0 ≤ k) (aK : Option Addr) (cK : Nat) (e : Ex) (hg : goodE e) (hu : usesB e ks.length = true) (a : Option Addr) (c : Nat) (w : World) (ha : Ex.all w a e.args) (hK : IntsAt w aK ks)
    (IH : ∀ (i : Nat) (x : Ex), e.args[i]? = some x → ∀ (a' : Option Addr) (c' : Nat) (W : World), Below w.heap.size w W → Ex.all W a' x.args → Calls Tryz.prog 97 #[x.val a' c', .slice aK ks.length cK] W (KPost (kE ks x) W)) :
    Calls Tryz.prog 97 #[e.val a c, .slice aK ks.length cK] w (KPost (kE ks e) w) := by
  have HIH := hide IH
  have HA := hide ha
  have hal := sound_len (good_open hg).1
  have har : arI e.op ≤ 3 := by unfold arI; split; omega; split; omega; split; omega; split; omega; split <;> omega
  have hlen : e.args.length ≤ 3 := by omega
  have HAL := hide hal
  have HKS := hide hks
  have HKA := hide (fun (W : World) (hW : Below w.heap.size w W) => hK.later hW)
  have HG := hide hg
  have HU := hide hu
  have HB0 := hide (below_alloc (Below.refl _ w) (.cells #[.int .i64 e.op, .int .i64 e.n, .int .i64 e.v.k, .int .i64 e.v.n, .string e.v.s, .slice a e.args.length c] 74))
  have H6 := hide (Six.new w e a c)
  obtain ⟨R, hR⟩ : ∃ R, R = kE ks e := ⟨_, rfl⟩
  have HR := hide hR
  rw [← hR]
  rw [Ex.val_open]
  clear IH ha hR hal har hg hu hK hks
  go_enter Tryz.func97, Tryz.ntmps97
  go_upto_region 3 with fail
  refine enter_with (fun wx => Six wx w.heap.size e a c ∧ Below w.heap.size w wx) ⟨unhide H6, unhide HB0⟩ ?_
  intro wx HW
  clear H6 HB0
  go_loopw [6, 20] (fun s i wr => ∃ (k : Nat) (d : List Int), k ≤ e.args.length ∧ i = .int .i64 (k : Int) ∧ Hid (d.length = k) ∧ Hid (kL ks (e.args.take k) = some d) ∧ Hid (OwnI wr (w.heap.size + 1) s d) ∧ Hid (Below w.heap.size w wr) ∧ Hid (Six wr w.heap.size e a c) ∧ w.heap.size < wr.heap.size) (fun _ i _ => e.args.length - (intOf i).toNat)
  case atStart => exact ⟨0, [], Nat.zero_le _, rfl, rfl, by rw [List.take_zero, kL]; rfl, own_nil _ _, (unhide HW).2, (unhide HW).1, World.block_lt_of_cell? _ _ (unhide HW).1.1⟩
  case round =>
    obtain ⟨k, d, hk, rfl, HDK, HL, HO, HB, H6r, hgs⟩ := hrel
    obtain ⟨a3, cap3, rfl⟩ := (unhide HO).slice
    by_cases hlt : k < e.args.length
    · have h9 : (k : Int) < (e.args.length : Int) := by omega
      obtain ⟨x, hx⟩ : ∃ x, e.args[k]? = some x := ⟨_, List.getElem?_eq_getElem hlt⟩
      obtain ⟨vb, vo, ea, hat⟩ := Ex.all_get (Ex.all_later _ (unhide HA) (unhide HB)) hx
      obtain ⟨a', c', ⟨d0, d1, d2, d3, d4, d5⟩, hal⟩ := Ex.at_open hat
      have HB1 := hide (below_alloc (Below.refl _ wr) (.cells #[.int .i64 x.op, .int .i64 x.n, .int .i64 x.v.k, .int .i64 x.v.n, .string x.v.s, .slice a' x.args.length c'] 74))
      have HX := hide (unhide HIH k x hx a' c' _ (below_step (unhide HB) (unhide HB1)) (Ex.all_later _ hal (unhide HB1)))
      rw [Ex.val_open] at HX
      have HXX := hide hx
      subst ea
      clear hx hat hal
      cases hke : kE ks x with
      | none =>
        rw [hke] at HX
        have HRN : Hid (R = none) := by
          have hnl : ¬ e.op = 1 := fun h => by have := col_args (unhide HG) h; rw [this] at hlt; simp at hlt
          have hn2 : ¬ e.op = 2 := fun h => by have := unhide HAL; rw [h, show arI 2 = 0 by decide] at this; omega
          have e1 : (e.op == 1) = false := by simpa using hnl
          have e2 : (e.op == 2) = false := by simpa using hn2
          show _ = _
          rw [unhide HR, kE_eq, e1, e2, kL_none ks (List.mem_of_getElem? (unhide HXX)) hke]
          rfl
        clear hke
        go_wp2_with (go_at_call 97; refine (unhide HX).mono ?_; rintro r w1 ⟨⟨kk, ok, rfl, rfl, _⟩, hb1⟩)
        refine bodyPost_ret (v := .tuple #[.int .i64 0, .bool false]) (by simp [results, Tryz.results97, go_sem]) rfl ⟨⟨0, false, rfl, by rw [unhide HRN]; rfl, fun y hy => by rw [unhide HRN] at hy; cases hy⟩, below_step (unhide HB) (below_step (unhide HB1) hb1)⟩
      | some y =>
        rw [hke] at HX
        have HL2 : Hid (kL ks (e.args.take (k + 1)) = some (d ++ [y])) := by
          show _ = _
          rw [List.take_add_one, unhide HXX]
          exact kL_snoc ks _ x (unhide HL) hke
        clear hke
        have hdl : d.length + 1 ≤ 1000000 := by have := unhide HDK; omega
        have HDL := hide hdl
        clear hdl
        go_wp2_with (first
          | (go_at_call 97; refine (unhide HX).mono ?_; rintro r w1 ⟨⟨kk, ok, rfl, rfl, hkk⟩, hb1⟩; obtain rfl := hkk y rfl; have hb01 := below_step (unhide HB1) hb1; have hsz := hb01.size)
          | (at_builtin; refine wpList_append_ints _ rfl (.tmp 32) (.tmp 34) rfl (w.heap.size + 1) (w.heap.size + 1) (.slice a3 d.length cap3) (.slice (some ⟨w1.heap.size, 0, none⟩) 1 1) d [kk] rfl ((unhide HO).later (below_alloc hb01 _)) rfl (own_single w1 (w.heap.size + 1) (by omega) kk) (unhide HDL) (by simp; omega) ?_; intro v4 w4 hO4 hb4))
        have hB4 : Below (w.heap.size + 1) wr w4 := ((below_alloc hb01 _).mono (by omega)).trans hb4
        refine ⟨⟨k + 1, d ++ [kk], by omega, by go_num, by show _ = _; rw [List.length_append, unhide HDK]; rfl, unhide HL2, hO4, (unhide HB).trans (hB4.mono (by omega)), six_lowR (unhide H6r) hB4 (by omega), Nat.lt_of_lt_of_le hgs hB4.size⟩, by simp [intOf]; omega⟩
    · have h9 : ¬ (k : Int) < (e.args.length : Int) := by omega
      obtain rfl : k = e.args.length := by omega
      have hL := unhide HL
      rw [List.take_length] at hL
      have HI := hide (unhide HO).ints
      have hdn := kL_nat ks (unhide HKS) e.args hL
      have HLL : Hid ((d.length : Int) = arI e.op) := by show _ = _; rw [unhide HDK]; exact unhide HAL
      have HEQ := hide (kOfR_eq e.op d hdn (unhide HLL))
      have hcapd : d.length ≤ 3 := by rw [unhide HDK]; exact hlen
      obtain ⟨s0, s1, s2, s3, s4, s5⟩ := unhide H6r
      by_cases h1 : e.op = 1
      · have hn := col_nat (unhide HG) h1
        have hlt := uses_col (unhide HU) h1
        obtain ⟨n, hn2⟩ : ∃ n : Nat, e.n = n := ⟨e.n.toNat, by omega⟩
        have hke : R = some (ks.getD n 0) := by rw [unhide HR, kE_eq, h1, hn2]; rfl
        have hgk : ks[n]? = some (ks.getD n 0) := by
          rw [List.getD_eq_getElem?_getD, List.getElem?_eq_getElem (by omega)]
          rfl
        generalize ks.getD n 0 = q at *
        obtain ⟨vb, vo, rfl, d0⟩ := (unhide HKA wr (unhide HB)).get hgk
        have h8 : (n : Int) < (ks.length : Int) := by omega
        have HKE := hide hke
        rw [h1] at s0
        rw [hn2] at s1
        clear hke hgk hn hlt h1 hn2 hL HR HIH HEQ
        go_wp2
        refine bodyPost_ret (v := .tuple #[.int .i64 q, .bool true]) (by simp [results, Tryz.results97, go_sem]) rfl ⟨⟨q, true, rfl, by rw [unhide HKE]; rfl, fun x hx => by rw [unhide HKE] at hx; injection hx⟩, unhide HB⟩
      have e1 : (e.op == 1) = false := by simpa using h1
      by_cases h2 : e.op = 2
      · have hke : R = some (cleanV e.v).k := by rw [unhide HR, kE_eq, h2]; rfl
        have HC := hide (fun W => rclean_any e.v W)
        rw [Val.open_, Val.open_] at HC
        generalize cleanV e.v = u at *
        have hfk := field0 u.k u.n u.s
        have HKE := hide hke
        rw [h2] at s0
        clear hke h1 h2 hL HR HIH HEQ e1
        go_wp2_with (go_at_call 26; refine (unhide HC _).mono ?_; rintro r w1 ⟨rfl, hb1⟩)
        refine bodyPost_ret (v := .tuple #[.int .i64 u.k, .bool true]) (by simp [results, Tryz.results97, go_sem]) rfl ⟨⟨u.k, true, rfl, by rw [unhide HKE]; rfl, fun x hx => by rw [unhide HKE] at hx; injection hx⟩, below_step (unhide HB) hb1⟩
      have e2 : (e.op == 2) = false := by simpa using h2
      have HRK : Hid (R = if (kOf e.op d).2 then some (kOf e.op d).1 else none) := by show _ = _; rw [unhide HR, kE_eq, e1, e2, hL]; rfl
      have HF := hide (fun q => rfit_any q a3 cap3 d wr (by omega) (unhide HI))
      clear hL HR HIH hdn
      by_cases h5 : e.op = 5
      · have hk5 : kOfR e.op d = (1, true) := by rw [h5]; rfl
        rw [hk5] at HEQ
        rw [h5] at s0
        clear h1 h2 e1 e2 hk5 h5 HF
        go_wp2
        exact bodyPost_ret (v := .tuple #[.int .i64 1, .bool true]) (by simp [results, Tryz.results97, go_sem]) rfl (kpost_of (unhide HRK) (unhide HEQ).1 (unhide HEQ).2 (unhide HB))
      have n5 : (e.op == 5) = false := by simpa using h5
      by_cases h6 : e.op = 6
      · have hk5 : kOfR e.op d = (1, fitB 2 d) := by rw [h6]; rfl
        rw [hk5] at HEQ
        have HX := hide (unhide HF 2)
        rw [h6] at s0
        clear h1 h2 e1 e2 hk5 h5 n5 h6 HF
        go_wp2_with (go_at_call 120; refine (unhide HX).mono ?_; rintro r w1 ⟨rfl, hb1⟩)
        exact bodyPost_ret (v := .tuple #[.int .i64 1, .bool (fitB 2 d)]) (by simp [results, Tryz.results97, go_sem]) rfl (kpost_of (unhide HRK) (unhide HEQ).1 (unhide HEQ).2 (below_step (unhide HB) hb1))
      have n6 : (e.op == 6) = false := by simpa using h6
      by_cases h18 : e.op = 18
      · have hk5 : kOfR e.op d = (2, fitB 2 d) := by rw [h18]; rfl
        rw [hk5] at HEQ
        have HX := hide (unhide HF 2)
        rw [h18] at s0
        clear h1 h2 e1 e2 hk5 h5 n5 h6 n6 h18 HF
        go_wp2_with (go_at_call 120; refine (unhide HX).mono ?_; rintro r w1 ⟨rfl, hb1⟩)
        exact bodyPost_ret (v := .tuple #[.int .i64 2, .bool (fitB 2 d)]) (by simp [results, Tryz.results97, go_sem]) rfl (kpost_of (unhide HRK) (unhide HEQ).1 (unhide HEQ).2 (below_step (unhide HB) hb1))
      have n18 : (e.op == 18) = false := by simpa using h18
      by_cases hcmp : 12 ≤ e.op ∧ e.op ≤ 17
      · have hd : (decide (12 ≤ e.op) && decide (e.op ≤ 17)) = true := by simp; omega
        have hk5 : kOfR e.op d = (1, (oneI (d.getD 0 0) (d.getD 1 0)).2) := by unfold kOfR; rw [n5, n6, n18, hd]; rfl
        have hl2 : d.length = 2 := by
          have : arI e.op = 2 := by
            unfold arI
            rw [if_neg (by simp; omega), if_neg (by simp; omega), if_neg (by simp; omega), if_pos (by simp; omega)]
          have := unhide HLL
          omega
        rw [hk5] at HEQ
        match d, hl2, HI, HEQ, HRK with
        | [p, q], _, HI, HEQ, HRK =>
          obtain ⟨vb, vo, rfl, q0⟩ := (unhide HI).get (k := 0) (x := p) rfl
          obtain ⟨vb', vo', ea, q1⟩ := (unhide HI).get (k := 1) (x := q) rfl
          simp only [Option.some.injEq, Addr.mk.injEq, and_true] at ea
          obtain ⟨rfl, rfl⟩ := ea
          have HX := hide (fun W => rone_any p q W)
          simp only [List.getD_cons_zero, List.getD_cons_succ] at HEQ
          obtain ⟨O, hO⟩ : ∃ O, O = oneI p q := ⟨_, rfl⟩
          rw [← hO] at HX HEQ
          obtain ⟨c1, c2⟩ := O
          simp only at HX HEQ
          rw [Nat.add_zero] at q0
          have k0 := cell_regrown q0
          have k1 := cell_regrown q1
          have hc1 := hcmp.1
          have hc2 := hcmp.2
          clear e1 e2 hk5 n5 n6 n18 hcmp hd hO HI HF HL HO HDK HLL
          rw [List.length_cons, List.length_cons, List.length_nil]
          go_upto_region 23 with fail
          refine wp_region_quiet_below (by kernel_rfl) (by kernel_rfl) ?_
          repeat (go_big_quiet_step ((go_at_call 121; exact Calls.regrown_of (unhide HX _))))
          refine wpQuiet_nil ?_
          intro w' hw'
          have hB : Below wr.heap.size wr w' := by obtain ⟨p, rfl⟩ := hw'; exact below_regrown _ _ _
          clear hw' k0 k1 q0 q1 s0 s1 s2 s3 s4 s5
          go_wp2
          exact bodyPost_ret (v := .tuple #[.int .i64 1, .bool c2]) (by simp [results, Tryz.results97, go_sem]) rfl (kpost_of (unhide HRK) (unhide HEQ).1 (unhide HEQ).2 (below_step (unhide HB) hB))
      have hd : (decide (12 ≤ e.op) && decide (e.op ≤ 17)) = false := by
        by_cases h : (decide (12 ≤ e.op) && decide (e.op ≤ 17)) = true
        · simp at h; exact absurd h hcmp
        · simpa using h
      have hcd : e.op < 12 ∨ 17 < e.op := by omega
      by_cases h21 : e.op = 21
      · have hk5 : kOfR e.op d = ((oneI (d.getD 1 0) (d.getD 2 0)).1, (oneI (d.getD 1 0) (d.getD 2 0)).2 && fitB 1 [d.getD 0 0]) := by rw [h21]; rfl
        have hl3 : d.length = 3 := by have := unhide HLL; rw [h21, show arI 21 = 3 by decide] at this; omega
        rw [hk5] at HEQ
        match d, hl3, HI, HEQ, HRK with
        | [p, q, r], _, HI, HEQ, HRK =>
          obtain ⟨vb, vo, rfl, q1⟩ := (unhide HI).get (k := 1) (x := q) rfl
          obtain ⟨vb', vo', ea, q2⟩ := (unhide HI).get (k := 2) (x := r) rfl
          simp only [Option.some.injEq, Addr.mk.injEq, and_true] at ea
          obtain ⟨rfl, rfl⟩ := ea
          obtain ⟨vb', vo', ea, q0⟩ := (unhide HI).get (k := 0) (x := p) rfl
          simp only [Option.some.injEq, Addr.mk.injEq, and_true] at ea
          obtain ⟨rfl, rfl⟩ := ea
          have HX := hide (fun W => rone_any q r W)
          simp only [List.getD_cons_zero, List.getD_cons_succ] at HEQ
          obtain ⟨O, hO⟩ : ∃ O, O = oneI q r := ⟨_, rfl⟩
          rw [← hO] at HX HEQ
          obtain ⟨c1, c2⟩ := O
          simp only at HX HEQ
          rw [Nat.add_zero] at q0
          have k0 := cell_regrown q1
          have k1 := cell_regrown q2
          rw [h21] at s0
          clear e1 e2 hk5 n5 n6 n18 hcmp hd hcd hO HI HF HL HO HDK HLL h1 h2 h5 h6 h18 h21
          rw [List.length_cons, List.length_cons, List.length_cons, List.length_nil]
          go_upto_region 26 with fail
          refine wp_region_quiet_below (by kernel_rfl) (by kernel_rfl) ?_
          repeat (go_big_quiet_step ((go_at_call 121; exact Calls.regrown_of (unhide HX _))))
          refine wpQuiet_nil ?_
          intro w' hw'
          have hB : Below wr.heap.size wr w' := by obtain ⟨p, rfl⟩ := hw'; exact below_regrown _ _ _
          have q0 := clater q0 hB
          clear hw' k0 k1 q1 q2 s0 s1 s2 s3 s4 s5
          cases c2 with
          | false =>
            simp only [Bool.false_and] at HEQ
            go_wp2
            exact bodyPost_ret (v := .tuple #[.int .i64 c1, .bool false]) (by simp [results, Tryz.results97, go_sem]) rfl (kpost_of (unhide HRK) (unhide HEQ).1 (unhide HEQ).2 (below_step (unhide HB) hB))
          | true =>
            simp only [Bool.true_and] at HEQ
            have HX2 := hide (rfit_any 1 (some ⟨w'.heap.size, 0, none⟩) 1 [p] (w'.alloc (.cells #[.int .i64 p] 3)) (by simp) (own_single w' w'.heap.size (Nat.le_refl _) p).ints)
            rw [List.length_cons, List.length_nil] at HX2
            have HBW := hide (below_alloc (Below.refl _ w') (.cells #[.int .i64 p] 3))
            go_wp2_with (go_at_call 120; refine (unhide HX2).mono ?_; rintro r w1 ⟨rfl, hb1⟩)
            exact bodyPost_ret (v := .tuple #[.int .i64 c1, .bool (fitB 1 [p])]) (by simp [results, Tryz.results97, go_sem]) rfl (kpost_of (unhide HRK) (unhide HEQ).1 (unhide HEQ).2 (below_step (unhide HB) (below_step hB (below_step (unhide HBW) hb1))))
      have n21 : (e.op == 21) = false := by simpa using h21
      have hk5 : kOfR e.op d = (1, fitB 1 d) := by unfold kOfR; rw [n5, n6, n18, hd, n21]; rfl
      rw [hk5] at HEQ
      have HX := hide (unhide HF 1)
      clear e1 e2 hk5 n5 n6 n18 HF hcmp hd n21
      rcases hcd with hcd | hcd
      · have hcd2 : ¬ 12 ≤ e.op := by omega
        go_wp2_with (go_at_call 120; refine (unhide HX).mono ?_; rintro r w1 ⟨rfl, hb1⟩)
        exact bodyPost_ret (v := .tuple #[.int .i64 1, .bool (fitB 1 d)]) (by simp [results, Tryz.results97, go_sem]) rfl (kpost_of (unhide HRK) (unhide HEQ).1 (unhide HEQ).2 (below_step (unhide HB) hb1))
      · have hcd2 : ¬ e.op ≤ 17 := by omega
        have hcd3 : 12 ≤ e.op := by omega
        go_wp2_with (go_at_call 120; refine (unhide HX).mono ?_; rintro r w1 ⟨rfl, hb1⟩)
        exact bodyPost_ret (v := .tuple #[.int .i64 1, .bool (fitB 1 d)]) (by simp [results, Tryz.results97, go_sem]) rfl (kpost_of (unhide HRK) (unhide HEQ).1 (unhide HEQ).2 (below_step (unhide HB) hb1))
end Go.Proofs.YtcpndojkfngioaaGreat

import Derived.Test.YtmjeiepljlepbacGreatPaA
set_option linter.unusedSimpArgs false
set_option linter.unusedVariables false
namespace Go.Proofs.YtmjeiepljlepbacGreat
open Go.RowKit Go.Sort

set_option maxHeartbeats 4000000 in
set_option maxRecDepth 100000 in
theorem reval_step (HRK : Hid (∀ (op : Int) (x y : Val), In64 x.n → In64 y.n → ∀ W : World, Calls Tryz.prog 104 #[.int .i64 op, x.v, y.v] W fun r w' => r = .returned (reckV op x y).v ∧ Below W.heap.size W w'))
    (row : List Val) (hrl : row.length ≤ 140737488355328) (aR : Option Addr) (cR : Nat) (e : Ex) (hf : e.fin) (hg : goodE e) (hok : ∀ x ∈ e.args, VOk (evalE row x)) (a : Option Addr) (c : Nat) (w : World) (ha : Ex.all w a e.args) (hr : RowAt w aR row)
    (IH : ∀ (i : Nat) (x : Ex), e.args[i]? = some x → ∀ (a' : Option Addr) (c' : Nat) (W : World), Ex.all W a' x.args → RowAt W aR row → Calls Tryz.prog 73 #[x.val a' c', .slice aR row.length cR] W fun r w' => r = .returned (evalE row x).v ∧ Below W.heap.size W w') :
    Calls Tryz.prog 73 #[e.val a c, .slice aR row.length cR] w fun r w' => r = .returned (evalE row e).v ∧ Below w.heap.size w w' := by
  have hev : evalE row e = nodeV e.op e.n e.v row (e.args.map (evalE row)) := by
    cases e with
    | mk op n v l => rw [evalE, evalL_mapR]; rfl
  rw [hev]
  obtain ⟨V, hV⟩ : ∃ V, nodeV e.op e.n e.v row (e.args.map (evalE row)) = V := ⟨_, rfl⟩
  rw [hV]
  have HV := hide hV
  clear hV hev
  have HIH := hide IH
  obtain ⟨⟨hl, hvs, hvn, hn⟩, _⟩ := Ex.fin_open hf
  have hl3 : e.args.length ≤ 3 := by
    rcases shape (good_open hg).1 with ⟨_, h, _⟩ | ⟨_, h⟩ | ⟨x, h, _⟩ | ⟨x, y, h, _, _⟩ | ⟨x, y, z, h, _⟩ <;> rw [h] <;> simp
  have HA := hide ha
  have HR := hide hr
  have HG := hide hg
  have HOK := hide hok
  have H6 : Hid (Six (w.alloc (.cells #[.int .i64 e.op, .int .i64 e.n, .int .i64 e.v.k, .int .i64 e.v.n, .string e.v.s, .slice a e.args.length c] 59)) w.heap.size e a c) := Six.new w e a c
  have HB0 := hide (below_alloc (Below.refl _ w) (.cells #[.int .i64 e.op, .int .i64 e.n, .int .i64 e.v.k, .int .i64 e.v.n, .string e.v.s, .slice a e.args.length c] 59))
  rw [Ex.val_open]
  clear IH ha hr hf hg hok
  go_enter Tryz.func73, Tryz.ntmps73
  go_upto_region 2 with fail
  obtain ⟨wa, hwa⟩ : ∃ wa, wa = (w.alloc (.cells #[.int .i64 e.op, .int .i64 e.n, .int .i64 e.v.k, .int .i64 e.v.n, .string e.v.s, .slice a e.args.length c] 59)).alloc (.cells #[.int .i64 0, .int .i64 0, .string ⟨#[]⟩] 38) := ⟨_, rfl⟩
  have hsa : wa.heap.size = w.heap.size + 2 := by rw [hwa]; simp [go_sem]
  have HBA : Hid (Below w.heap.size w wa) := by rw [hwa]; exact below_alloc (unhide HB0) _
  have HSX : Hid (Six wa w.heap.size e a c) := by rw [hwa]; exact (unhide H6).later (below_alloc (Below.refl _ _) _)
  have HRB : Hid (RB wa (w.heap.size + 1)) := by rw [hwa]; exact ⟨⟨by simp [go_sem], by simp [go_sem], by simp [go_sem]⟩, by simp [go_sem], by simp [go_sem], by simp [go_sem]⟩
  rw [← hwa]
  clear hwa H6 HB0
  obtain ⟨s0, s1, s2, s3, s4, s5⟩ := unhide HSX
  go_wp2
  go_loopw [5, 11] (fun s5 i wr => ∃ (k : Nat) (v5 : Value), k ≤ e.args.length ∧ i = .int .i64 (k : Int) ∧ s5 = v5 ∧ Hid (OwnV wr wa.heap.size v5 ((e.args.take k).map (evalE row)) ∧ Below wa.heap.size wa wr)) (fun _ i _ => e.args.length - (intOf i).toNat)
  case atStart => exact ⟨0, _, Nat.zero_le _, rfl, rfl, World.ownsRow_nil _ _ _ _, Below.refl _ _⟩
  case round =>
    obtain ⟨k, v5, hk, rfl, rfl, HI⟩ := hrel
    obtain ⟨hO, hB⟩ := unhide HI
    obtain ⟨a9, cap9, rfl, hrow⟩ := ownV_row hO
    rw [List.length_map, List.length_take, Nat.min_eq_left hk] at hO ⊢
    by_cases hlt : k < e.args.length
    · have h9 : (k : Int) < (e.args.length : Int) := by omega
      obtain ⟨x, hx⟩ : ∃ x, e.args[k]? = some x := ⟨_, List.getElem?_eq_getElem hlt⟩
      have hBw := below_step (unhide HBA) hB
      obtain ⟨vb, vo, ea, hat⟩ := Ex.all_get (Ex.all_later _ (unhide HA) hBw) hx
      obtain ⟨a', c', ⟨d0, d1, d2, d3, d4, d5⟩, hal⟩ := Ex.at_open hat
      have HE := hide (unhide HIH k x hx a' c' (wr.alloc (.cells #[.int .i64 x.op, .int .i64 x.n, .int .i64 x.v.k, .int .i64 x.v.n, .string x.v.s, .slice a' x.args.length c'] 59)) (Ex.all_later _ hal (below_alloc (Below.refl _ _) _)) ((unhide HR).later (below_alloc hBw _)))
      rw [Ex.val_open] at HE
      have HTK := hide (map_take (evalE row) hx)
      have HBX := hide (below_alloc (Below.refl _ wr) (.cells #[.int .i64 x.op, .int .i64 x.n, .int .i64 x.v.k, .int .i64 x.v.n, .string x.v.s, .slice a' x.args.length c'] 59))
      generalize evalE row x = xv at *
      have HO := hide hO
      have HBr := hide hB
      subst ea
      clear hx hat hal hO hB HI hBw hrow HIH HRK HOK HG s0 s1 s2 s3 s4 s5
      go_wp2_with (first
        | (go_at_call 73; refine (unhide HE).mono ?_; rintro r w3 ⟨rfl, hb3⟩; have hb13 := below_step (unhide HBX) hb3; rw [Val.open_])
        | (at_builtin; refine wpList_push_val (w3.alloc (.cells #[.int .i64 xv.k, .int .i64 xv.n, .string xv.s] 38)) rfl (.tmp 15) (.tmp 19) rfl wa.heap.size (.slice a9 k cap9) _ rfl ((unhide HO).later (below_alloc hb13 _)) w3.heap.size xv rfl (by refine ⟨?_, ?_, ?_⟩ <;> simp [go_sem]) (by rw [List.length_map, List.length_take]; omega) (below_alloc (below_step (unhide HBr) hb13) _).size ?_; intro v4 w4 hO4 hb4; have HO4 := hide hO4; clear hO4))
      refine ⟨⟨k + 1, v4, by omega, by go_num, rfl, ?_, ((below_alloc (below_step (unhide HBr) hb13) _).trans hb4)⟩, by simp [intOf]; omega⟩
      rw [unhide HTK]
      exact unhide HO4
    · have h9 : ¬ (k : Int) < (e.args.length : Int) := by omega
      have hkl : k = e.args.length := by omega
      subst hkl
      rw [List.take_length] at hrow
      have hBw := below_step (unhide HBA) hB
      have HBW := hide hBw
      have HX := hide (fun (W : World) (hW : Below wr.heap.size wr W) => (unhide HRB).later (below_step hB hW))
      have HS := hide ((unhide HSX).later hB)
      have HRW := hide (fun (W : World) (hW : Below wr.heap.size wr W) => (unhide HR).later (below_step hBw hW))
      have HROW := hide hrow
      have HPT := hide (fun (W : World) (h : Below wr.heap.size wr W) (u0 u1 u2 : Value) => rput3 (B := w.heap.size + 1) (below_step hBw h) (by omega) u0 u1 u2)
      clear hO hB HI hBw hrow HIH HSX HBA HR HRB HA s0 s1 s2 s3 s4 s5
      obtain ⟨s0, s1, s2, s3, s4, s5⟩ := unhide HS
      obtain ⟨⟨t0, t1, t2⟩, u0, u1, u2⟩ := unhide HX wr (Below.refl _ _)
      rcases shape (good_open (unhide HG)).1 with ⟨ho, hA, hn0⟩ | ⟨ho, hA⟩ | ⟨x, hA, ho⟩ | ⟨x, y, hA, ho1, ho2⟩ | ⟨x, y, z, hA, ho⟩
      · rw [hA] at h9 ⊢
        rw [ho] at s0 ⊢
        rw [hA, ho] at HV
        by_cases hin : (row.length : Int) ≤ e.n
        · skip
          have HC : Hid (∀ W : World, Calls Tryz.prog 72 #[] W fun r w' => r = .returned V.v ∧ Below W.heap.size W w') := by
            have h : Val.null = V := by have h := unhide HV; simpa [nodeV, hin] using h
            rw [← h]
            exact fun W => none_any W
          go_wp2_with (go_at_call 72; refine (unhide HC _).mono ?_; rintro r w3 ⟨rfl, hb3⟩; rw [V.open_]; obtain ⟨⟨t0, t1, t2⟩, u0, u1, u2⟩ := unhide HX w3 hb3)
          exact bodyPost_ret (v := V.v) (by simp [results, Tryz.results73, go_sem, Val.v, t0, t1, t2]) rfl ⟨rfl, unhide HPT w3 hb3 _ _ _⟩
        · obtain ⟨x, hx⟩ : ∃ x, row[e.n.toNat]? = some x := ⟨_, List.getElem?_eq_getElem (by omega)⟩
          obtain ⟨g, off, rfl, c0, c1, c2⟩ := (unhide HRW wr (Below.refl _ _)).lo hx
          have hnn : ((e.n.toNat : Nat) : Int) = e.n := by omega
          have hin2 : e.n < (row.length : Int) := by omega
          have HC : Hid (∀ W : World, Calls Tryz.prog 97 #[x.v] W fun r w' => r = .returned V.v ∧ Below W.heap.size W w') := by
            have h : cleanV x = V := by have h := unhide HV; simpa [nodeV, hin, List.getD_eq_getElem?_getD, hx] using h
            rw [← h]
            exact fun W => rclean_any x W
          rw [x.open_] at HC
          go_wp2_with (go_at_call 97; refine (unhide HC _).mono ?_; rintro r w3 ⟨rfl, hb3⟩; rw [V.open_]; obtain ⟨⟨t0, t1, t2⟩, u0, u1, u2⟩ := unhide HX w3 hb3)
          exact bodyPost_ret (v := V.v) (by simp [results, Tryz.results73, go_sem, Val.v, t0, t1, t2]) rfl ⟨rfl, unhide HPT w3 hb3 _ _ _⟩
      · rw [hA] at h9 ⊢
        rw [ho] at s0 ⊢
        rw [hA, ho] at HV
        have HC : Hid (∀ W : World, Calls Tryz.prog 97 #[e.v.v] W fun r w' => r = .returned V.v ∧ Below W.heap.size W w') := by
          have h : cleanV e.v = V := by have h := unhide HV; simpa [nodeV] using h
          rw [← h]
          exact fun W => rclean_any e.v W
        rw [e.v.open_] at HC
        go_wp2_with (go_at_call 97; refine (unhide HC _).mono ?_; rintro r w3 ⟨rfl, hb3⟩; rw [V.open_]; obtain ⟨⟨t0, t1, t2⟩, u0, u1, u2⟩ := unhide HX w3 hb3)
        exact bodyPost_ret (v := V.v) (by simp [results, Tryz.results73, go_sem, Val.v, t0, t1, t2]) rfl ⟨rfl, unhide HPT w3 hb3 _ _ _⟩
      · rw [hA] at h9 ⊢
        have hxok := unhide HOK x (by rw [hA]; exact List.mem_singleton.2 rfl)
        rw [hA] at HV
        have hrow := unhide HROW
        rw [hA] at hrow
        obtain ⟨g, off, rfl, c0, c1, c2⟩ := hrow.lo (k := 0) rfl
        simp only [Nat.zero_mul, Nat.add_zero] at c0 c1 c2
        simp only [List.map_cons, List.map_nil] at HV
        generalize evalE row x = xv at *
        clear hrow HROW
        rcases ho with ho | ho | ho | ho
        · skip
          rw [ho] at s0 ⊢
          rw [ho] at HV
          have HC : Hid (∀ W : World, Calls Tryz.prog 104 #[.int .i64 8, .agg #[.int .i64 1, .int .i64 0, .string ⟨#[]⟩], xv.v] W fun r w' => r = .returned V.v ∧ Below W.heap.size W w') := by
            have h : reckV 8 (.num 0) xv = V := by have h := unhide HV; simpa [nodeV, oneV] using h
            rw [← h]
            exact fun W => unhide HRK 8 (.num 0) xv ⟨by show (-9223372036854775808 : Int) ≤ 0; decide, by show (0 : Int) ≤ 9223372036854775807; decide⟩ hxok.1 W
          rw [xv.open_] at HC
          have HN : Hid (∀ W : World, Calls Tryz.prog 105 #[.int .i64 0] W fun r w' => r = .returned (.agg #[.int .i64 1, .int .i64 0, .string ⟨#[]⟩]) ∧ Below W.heap.size W w') := fun W => rnum_any 0 W
          go_upto_region 14 with fail
          go_region_with (first
            | (go_at_call 104; refine (unhide HC _).mono ?_; rintro r w3 ⟨rfl, hb3'⟩; have hb3 := below_step hb2 hb3'; rw [V.open_]; obtain ⟨⟨t0, t1, t2⟩, u0, u1, u2⟩ := unhide HX w3 hb3)
            | (go_at_call 105; refine (unhide HN _).mono ?_; rintro r w2 ⟨rfl, hb2'⟩; have hb2 := below_step ((Below.refl _ wr).drew) hb2'; have k0 := clater c0 hb2; have k1 := clater c1 hb2; have k2 := clater c2 hb2))
          all_goals go_wp2
          all_goals exact bodyPost_ret (v := V.v) (by simp [results, Tryz.results73, go_sem, Val.v, t0, t1, t2]) rfl ⟨rfl, unhide HPT w3 hb3 _ _ _⟩
        · skip
          rw [ho] at s0 ⊢
          rw [ho] at HV
          have HC : Hid (∀ W : World, Calls Tryz.prog 106 #[xv.v] W fun r w' => r = .returned V.v ∧ Below W.heap.size W w') := by
            have h : notV xv = V := by have h := unhide HV; simpa [nodeV, oneV] using h
            rw [← h]
            exact fun W => rnot_any xv W
          rw [xv.open_] at HC
          go_wp2_with (go_at_call 106; refine (unhide HC _).mono ?_; rintro r w3 ⟨rfl, hb3⟩; rw [V.open_]; obtain ⟨⟨t0, t1, t2⟩, u0, u1, u2⟩ := unhide HX w3 hb3)
          exact bodyPost_ret (v := V.v) (by simp [results, Tryz.results73, go_sem, Val.v, t0, t1, t2]) rfl ⟨rfl, unhide HPT w3 hb3 _ _ _⟩
        · skip
          rw [ho] at s0 ⊢
          rw [ho] at HV
          have HC : Hid (∀ W : World, Calls Tryz.prog 107 #[.bool (xv.k == 0)] W fun r w' => r = .returned V.v ∧ Below W.heap.size W w') := by
            have h : truthV (xv.k == 0) = V := by rw [← unhide HV]; show truthV (xv.k == 0) = (if xv.k == 0 then Val.num 1 else Val.num 0); cases xv.k == 0 <;> rfl
            rw [← h]
            exact fun W => rtruth_any _ W
          go_wp2_with (go_at_call 107; refine (unhide HC _).mono ?_; rintro r w3 ⟨rfl, hb3⟩; rw [V.open_]; obtain ⟨⟨t0, t1, t2⟩, u0, u1, u2⟩ := unhide HX w3 hb3)
          exact bodyPost_ret (v := V.v) (by simp [results, Tryz.results73, go_sem, Val.v, t0, t1, t2]) rfl ⟨rfl, unhide HPT w3 hb3 _ _ _⟩
        · skip
          rw [ho] at s0 ⊢
          rw [ho] at HV
          by_cases hk : xv.k = 2
          · skip
            have HC : Hid (∀ W : World, Calls Tryz.prog 105 #[.int .i64 (xv.s.size : Int)] W fun r w' => r = .returned V.v ∧ Below W.heap.size W w') := by
              have h : Val.num xv.s.size = V := by have h := unhide HV; simpa [nodeV, oneV, hk] using h
              rw [← h]
              exact fun W => rnum_any _ W
            have hxs := hxok.2
            go_wp2_with (go_at_call 105; refine (unhide HC _).mono ?_; rintro r w3 ⟨rfl, hb3⟩; rw [V.open_]; obtain ⟨⟨t0, t1, t2⟩, u0, u1, u2⟩ := unhide HX w3 hb3)
            exact bodyPost_ret (v := V.v) (by simp [results, Tryz.results73, go_sem, Val.v, t0, t1, t2]) rfl ⟨rfl, unhide HPT w3 hb3 _ _ _⟩
          · skip
            have HC : Hid (∀ W : World, Calls Tryz.prog 72 #[] W fun r w' => r = .returned V.v ∧ Below W.heap.size W w') := by
              have h : Val.null = V := by have h := unhide HV; simpa [nodeV, oneV, hk] using h
              rw [← h]
              exact fun W => none_any W
            go_wp2_with (go_at_call 72; refine (unhide HC _).mono ?_; rintro r w3 ⟨rfl, hb3⟩; rw [V.open_]; obtain ⟨⟨t0, t1, t2⟩, u0, u1, u2⟩ := unhide HX w3 hb3)
            exact bodyPost_ret (v := V.v) (by simp [results, Tryz.results73, go_sem, Val.v, t0, t1, t2]) rfl ⟨rfl, unhide HPT w3 hb3 _ _ _⟩
      · rw [hA] at h9 ⊢
        have hxok := unhide HOK x (by rw [hA]; simp)
        have hyok := unhide HOK y (by rw [hA]; simp)
        rw [hA] at HV
        have hrow := unhide HROW
        rw [hA] at hrow
        obtain ⟨g, off, rfl, c0, c1, c2⟩ := hrow.lo (k := 0) rfl
        obtain ⟨g', off', eg, d0, d1, d2⟩ := hrow.lo (k := 1) rfl
        injection eg with eg
        injection eg with eg1 eg2
        subst eg1 eg2
        simp only [Nat.zero_mul, Nat.add_zero, Nat.one_mul] at c0 c1 c2 d0 d1 d2
        simp only [List.map_cons, List.map_nil] at HV
        generalize evalE row x = xv at *
        generalize evalE row y = yv at *
        clear hrow HROW
        have n1 : (e.op == 1) = false := by rw [beq_eq_false_iff_ne]; omega
        have n2 : (e.op == 2) = false := by rw [beq_eq_false_iff_ne]; omega
        have n3 : (e.op == 3) = false := by rw [beq_eq_false_iff_ne]; omega
        have n4 : (e.op == 4) = false := by rw [beq_eq_false_iff_ne]; omega
        have n5 : (e.op == 5) = false := by rw [beq_eq_false_iff_ne]; omega
        have n6 : (e.op == 6) = false := by rw [beq_eq_false_iff_ne]; omega
        by_cases o1 : e.op ≤ 11
        · skip
          have HC : Hid (∀ W : World, Calls Tryz.prog 104 #[.int .i64 e.op, xv.v, yv.v] W fun r w' => r = .returned V.v ∧ Below W.heap.size W w') := by
            have h : reckV e.op xv yv = V := by rw [← unhide HV]; simp [nodeV, twoV, o1]
            rw [← h]
            exact fun W => unhide HRK e.op xv yv hxok.1 hyok.1 W
          rw [xv.open_] at HC
          rw [yv.open_] at HC
          go_upto_region 24 with fail
          go_region_with (go_at_call 104; refine (unhide HC _).mono ?_; rintro r w3 ⟨rfl, hb3'⟩; have hb3 := below_step ((Below.refl _ wr).drew) hb3'; rw [V.open_]; obtain ⟨⟨t0, t1, t2⟩, u0, u1, u2⟩ := unhide HX w3 hb3)
          all_goals go_wp2
          all_goals exact bodyPost_ret (v := V.v) (by simp [results, Tryz.results73, go_sem, Val.v, t0, t1, t2]) rfl ⟨rfl, unhide HPT w3 hb3 _ _ _⟩
        by_cases o2 : e.op ≤ 17
        · skip
          have HC : Hid (∀ W : World, Calls Tryz.prog 108 #[.int .i64 e.op, xv.v, yv.v] W fun r w' => r = .returned V.v ∧ Below W.heap.size W w') := by
            have h : testV e.op xv yv = V := by rw [← unhide HV]; simp [nodeV, twoV, o1, o2]
            rw [← h]
            exact fun W => rtest_any e.op xv yv W
          rw [xv.open_] at HC
          rw [yv.open_] at HC
          go_upto_region 26 with fail
          go_region_with (go_at_call 108; refine (unhide HC _).mono ?_; rintro r w3 ⟨rfl, hb3'⟩; have hb3 := below_step ((Below.refl _ wr).drew) hb3'; rw [V.open_]; obtain ⟨⟨t0, t1, t2⟩, u0, u1, u2⟩ := unhide HX w3 hb3)
          all_goals go_wp2
          all_goals exact bodyPost_ret (v := V.v) (by simp [results, Tryz.results73, go_sem, Val.v, t0, t1, t2]) rfl ⟨rfl, unhide HPT w3 hb3 _ _ _⟩
        by_cases o3 : e.op = 18
        · rw [o3] at s0 HV ⊢
          clear n1 n2 n3 n4 n5 n6 o1 o2
          have HC : Hid (∀ W : World, Calls Tryz.prog 109 #[xv.v, yv.v] W fun r w' => r = .returned V.v ∧ Below W.heap.size W w') := by
            have h : catV xv yv = V := by rw [← unhide HV]; simp [nodeV, twoV]
            rw [← h]
            exact fun W => rcat_any xv yv W hxok.2 hyok.2
          rw [xv.open_] at HC
          rw [yv.open_] at HC
          go_upto_region 28 with fail
          go_region_with (go_at_call 109; refine (unhide HC _).mono ?_; rintro r w3 ⟨rfl, hb3'⟩; have hb3 := below_step ((Below.refl _ wr).drew) hb3'; rw [V.open_]; obtain ⟨⟨t0, t1, t2⟩, u0, u1, u2⟩ := unhide HX w3 hb3)
          all_goals go_wp2
          all_goals exact bodyPost_ret (v := V.v) (by simp [results, Tryz.results73, go_sem, Val.v, t0, t1, t2]) rfl ⟨rfl, unhide HPT w3 hb3 _ _ _⟩
        have n7 : (e.op == 18) = false := by rw [beq_eq_false_iff_ne]; exact o3
        have HC : Hid (∀ W : World, Calls Tryz.prog 110 #[.int .i64 e.op, xv.v, yv.v] W fun r w' => r = .returned V.v ∧ Below W.heap.size W w') := by
          have h : bothV e.op xv yv = V := by rw [← unhide HV]; simp [nodeV, twoV, o1, o2, o3]
          rw [← h]
          exact fun W => rboth_any e.op xv yv W
        rw [xv.open_] at HC
        rw [yv.open_] at HC
        go_upto_region 30 with fail
        go_region_with (go_at_call 110; refine (unhide HC _).mono ?_; rintro r w3 ⟨rfl, hb3'⟩; have hb3 := below_step ((Below.refl _ wr).drew) hb3'; rw [V.open_]; obtain ⟨⟨t0, t1, t2⟩, u0, u1, u2⟩ := unhide HX w3 hb3)
        all_goals go_wp2
        all_goals exact bodyPost_ret (v := V.v) (by simp [results, Tryz.results73, go_sem, Val.v, t0, t1, t2]) rfl ⟨rfl, unhide HPT w3 hb3 _ _ _⟩
      · rw [hA] at h9 ⊢
        rw [ho] at s0 ⊢
        rw [hA, ho] at HV
        have hrow := unhide HROW
        rw [hA] at hrow
        obtain ⟨g, off, rfl, c0, c1, c2⟩ := hrow.lo (k := 0) rfl
        obtain ⟨g', off', eg, d0, d1, d2⟩ := hrow.lo (k := 1) rfl
        injection eg with eg
        injection eg with eg1 eg2
        subst eg1 eg2
        obtain ⟨g', off', eg, e0, e1, e2⟩ := hrow.lo (k := 2) rfl
        injection eg with eg
        injection eg with eg1 eg2
        subst eg1 eg2
        simp only [Nat.zero_mul, Nat.add_zero, Nat.one_mul] at c0 c1 c2 d0 d1 d2 e0 e1 e2
        simp only [List.map_cons, List.map_nil] at HV
        generalize evalE row x = xv at *
        generalize evalE row y = yv at *
        generalize evalE row z = zv at *
        clear hrow HROW
        have HT : Hid (∀ W : World, Calls Tryz.prog 111 #[xv.v] W fun r w' => r = .returned (.bool (trueB xv)) ∧ Below W.heap.size W w') := fun W => rtrue_any xv W
        rw [xv.open_] at HT
        have hV : (if trueB xv then yv else zv) = V := unhide HV
        cases ht : trueB xv
        all_goals
          rw [ht] at HT hV
          simp only [if_true, if_false, Bool.false_eq_true] at hV
          subst hV
          go_wp2_with (go_at_call 111; refine (unhide HT _).mono ?_; rintro r w3 ⟨rfl, hb3⟩; obtain ⟨⟨t0, t1, t2⟩, u0, u1, u2⟩ := unhide HX w3 hb3; have k0 := clater d0 hb3; have k1 := clater d1 hb3; have k2 := clater d2 hb3; have l0 := clater e0 hb3; have l1 := clater e1 hb3; have l2 := clater e2 hb3)
        · exact bodyPost_ret (v := zv.v) (by simp [results, Tryz.results73, go_sem, Val.v, t0, t1, t2]) rfl ⟨rfl, unhide HPT w3 hb3 _ _ _⟩
        · exact bodyPost_ret (v := yv.v) (by simp [results, Tryz.results73, go_sem, Val.v, t0, t1, t2]) rfl ⟨rfl, unhide HPT w3 hb3 _ _ _⟩
end Go.Proofs.YtmjeiepljlepbacGreat

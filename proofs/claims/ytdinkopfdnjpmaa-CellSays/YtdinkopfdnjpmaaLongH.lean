import Derived.Test.YtdinkopfdnjpmaaLongG
set_option linter.unusedSimpArgs false
set_option linter.unusedVariables false
namespace Go.Proofs.Ytdinkopfdnjpmaa
open Go.RowKit Go.Sort

theorem three_boxes {w w' : World} {m n : Bool} {x y : Value} (h : Below (((w.alloc (.cells #[.bool m, x] 58)).alloc (.cells #[.bool n, y] 58)).alloc (.cells #[.bool false, .slice none 0 0] 58)).heap.size (((w.alloc (.cells #[.bool m, x] 58)).alloc (.cells #[.bool n, y] 58)).alloc (.cells #[.bool false, .slice none 0 0] 58)) w') :
    Below w.heap.size w w' ∧ w'.rowIs w.heap.size 58 2 (box2 (.bool m) x) ∧ w'.rowIs (w.heap.size + 1) 58 2 (box2 (.bool n) y) ∧ w'.rowIs (w.heap.size + 1 + 1) 58 2 (box2 (.bool false) (.slice none 0 0)) := by
  refine ⟨below_step (below_alloc (below_alloc (below_alloc (Below.refl _ _) _) _) _) h, rowIs_later (((box2_alloc w _ _).alloc _).alloc _) h, ?_, ?_⟩
  · have := rowIs_later ((box2_alloc (w.alloc (.cells #[.bool m, x] 58)) (.bool n) y).alloc (.cells #[.bool false, .slice none 0 0] 58)) h
    simpa using this
  · have := rowIs_later (box2_alloc ((w.alloc (.cells #[.bool m, x] 58)).alloc (.cells #[.bool n, y] 58)) (.bool false) (.slice none 0 0)) h
    simpa using this

set_option maxHeartbeats 4000000 in
theorem plus_ge (a b : Option Addr) (ca cb : Nat) (ds es : List Int) (m n : Bool) (w : World) (hmn : (m == n) = false) (hl : ds.length ≤ 1000000) (hle : es.length ≤ ds.length) (hd : Digs ds) (he : Digs es) (hs0 : 0 ≤ sizeV ds es) (hv : valD es ≤ valD ds) (ha : DigAt w a ds) (hb : DigAt w b es) :
    Calls Try.prog 53 #[.agg #[.bool m, .slice a ds.length ca], .agg #[.bool n, .slice b es.length cb]] w fun e w' =>
      ∃ a' c' zs, e = .returned (.agg #[.bool (m && decide (0 < zs.length)), .slice a' zs.length c']) ∧ zs.length ≤ c' ∧ (a' = none → c' = 0) ∧ DigAt w' a' zs ∧ Digs zs ∧ trimN zs zs.length = zs.length ∧ valD zs = valD ds - valD es ∧ Below w.heap.size w w' := by
  obtain ⟨i0, hi, hz0, hz1, hz2⟩ := info_parts Try.info76
  have HS := hide (fun (w' : World) (h : Below w.heap.size w w') => size_any a b ca cb ds es m n w' (by omega) (by omega) (ha.later h) (hb.later h))
  generalize sizeV ds es = sz at HS hs0
  have HA := hide ha
  have HB := hide hb
  have HD := hide hd
  have HE := hide he
  have HV := hide hv
  have HLE := hide hle
  have hl2 : es.length ≤ 1000000 := by omega
  clear ha hb hd he hv hle
  go_enter Try.func53, Try.ntmps53
  go_wp2_with (first
    | (go_at_call 74; refine (unhide HS _ (below_alloc (below_alloc (below_alloc (Below.refl _ _) _) _) _)).mono ?_; rintro e w1 ⟨rfl, hb1⟩; obtain ⟨hB1, r1, s1, z1⟩ := three_boxes hb1; obtain ⟨t0, t1, t2, t3⟩ := box2_facts r1; have hzz : w.heap.size + 1 + 1 < w1.heap.size := z1.lt; have hzy : w.heap.size < w1.heap.size := r1.lt; clear hb1)
    | fail)
  have HPB : Hid (PB w (w1.alloc (.cells #[.bool m, .slice none 0 0] 58)) w1.heap.size m n m (.slice a ds.length ca) (.slice b es.length cb) (.slice none 0 0)) := ⟨below_alloc hB1 _, r1.alloc _, s1.alloc _, z1.alloc _, box2_alloc _ _ _, hzz⟩
  clear r1 s1 z1 hB1 t0 t1 t2 t3
  go_loopw [9, 71] (fun c i wx => ∃ (k : Nat) (C : Int) (zs : List Int) (v : Value), c = .int .u32 C ∧ i = .int .i64 k ∧ zs.length = k ∧ k ≤ ds.length ∧ 0 ≤ C ∧ C ≤ 1 ∧ Digs zs ∧ Hid (valD zs - 65536 ^ k * C = valD (ds.take k) - valD (es.take k)) ∧ OwnD wx w.heap.size v zs ∧ PB w wx w1.heap.size m n m (.slice a ds.length ca) (.slice b es.length cb) v) (fun c i wx => ds.length - (intOf i).toNat)
  case atStart => exact ⟨0, 0, [], .slice none 0 0, rfl, rfl, rfl, Nat.zero_le _, by omega, by omega, by intro x hx; simp at hx, by show _ = _; simp [valD], World.ownsRow_nil _ _ _ _, unhide HPB⟩
  case round =>
    obtain ⟨k, C, zs, v, rfl, rfl, hk, hkL, hC0, hC1, hdz, HVV, ho, hP⟩ := hrel
    have hbel := hP.below
    obtain ⟨a0, a1, _, _⟩ := box2_facts hP.ba
    obtain ⟨b0, b1, _, _⟩ := box2_facts hP.bb
    by_cases h1 : k < ds.length
    · have t1 : (k : Int) < (ds.length : Int) := by omega
      have hdd := dig_bd (unhide HD) k
      have hee := dig_bd (unhide HE) k
      have hDa := (unhide HA).later hbel
      have hDb := (unhide HB).later hbel
      obtain ⟨x, hx⟩ : ∃ x, ds[k]? = some x := ⟨_, List.getElem?_eq_getElem h1⟩
      rw [dig_some hx] at hdd
      rcases hDa with e | ⟨ba, oa, e, hca⟩
      · rw [e] at hx; cases hx
      subst e
      have cx := hca k x hx
      have HN1 : Hid (valD (ds.take (k + 1)) = valD (ds.take k) + 65536 ^ k * x) := by show _ = _; rw [val_next, dig_some hx]
      have HN2 := hide (val_next es k)
      have HBB : Hid (∀ d os, Calls Try.prog 73 #[.agg #[.bool n, .slice b es.length cb], .int .i64 k] (grow (redrawn wr d) os) fun e w' => e = .returned (.int .u32 (dig es k)) ∧ Below (grow (redrawn wr d) os).heap.size (grow (redrawn wr d) os) w') := fun d os => digit_any b cb es n k _ (by omega) (by omega) (hDb.later (below_regrown _ _ _))
      generalize dig es k = y at HN2 HBB hee
      have k0 := cell_regrown a0
      have k1 := cell_regrown a1
      have k2 := cell_regrown b0
      have k3 := cell_regrown b1
      have k4 := cell_regrown cx
      have HO := hide ho
      have HP := hide hP
      have HK := hide hk
      have HZ := hide hdz
      have HL6 : Hid (zs.length ≤ 1000000) := by show _ ≤ _; omega
      clear hca hx hDb ho hP hk hdz cx
      go_wp2_with fail
      refine wp_region_quiet_below (by kernel_rfl) (by kernel_rfl) ?_
      repeat (go_big_quiet_step ((go_at_call 73; exact Calls.regrown_of (unhide HBB _ _))))
      refine wpQuiet_nil ?_
      intro w2 hw2
      have hB2 : Below wr.heap.size wr w2 := by obtain ⟨p, rfl⟩ := hw2; exact below_regrown _ _ _
      clear hw2 k0 k1 k2 k3 k4 a0 a1 b0 b1
      have hP2 := (unhide HP).later hB2
      have ho2 := (unhide HO).later hB2
      have HP2 := hide hP2
      obtain ⟨c0, c1, f0, f1⟩ := box2_facts hP2.bo
      have hsz : w.heap.size ≤ w2.heap.size := hP2.below.size
      clear hP2 hB2 HP HO
      obtain ⟨S, hS⟩ : ∃ S, S = x + 65536 - y - C := ⟨_, rfl⟩
      have HSS := hide hS
      have s0 : 0 ≤ S := by omega
      have s1 : S < 4294967296 := by omega
      have s2 : S / 65536 ≤ 1 := by omega
      have s3 : 0 ≤ S / 65536 := by omega
      have hx0 : k + 1 ≤ ds.length := by omega
      rw [← hS]
      have HA2 := hide (and_dig32 S s0 s1)
      clear hS hdd hee
      go_wp2_with (at_builtin; refine wpList_append_own_at _ rfl (.tmp 87) (.tmp 90) 56 rfl w.heap.size 76 i0 (.int .u32 0) 1 4 Try.underlying56 hi hz0 hz1 hz2 rfl (by decide) _ _ _ rfl (World.ownsRow.alloc ho2 _) ⟨w2.heap.size, 0, none⟩ 1 1 [.int .u32 (bits BinOp.and IntKind.u32 S 65535)] rfl rfl (cell_one_new _ _ _) (by intro u hu; simp at hu; subst hu; rfl) (by have := unhide HL6; unfold maxLen; omega) (by have := unhide HL6; omega) (by simp; omega) ?_; intro v' w3 hown' hgrow _ hat; have hgr : (w2.alloc (.cells #[.int .u32 (bits BinOp.and IntKind.u32 S 65535)] 76)).grownBy w3 v.ownBlock := hgrow; have ho3 := ownD_app hown'; clear hown' hgrow hat; obtain ⟨a', q', e', hq', hD'⟩ := ownD_dig ho3; subst e'; have hPA := (unhide HP2).app ho2 (Nat.le_refl _) ho3 hgr; obtain ⟨g0, g1, e0, e1⟩ := box2_facts (rowIs_grown ((unhide HP2).bo.alloc _) hgr (own_ne ((unhide HP2).bo.alloc _) (World.ownsRow.alloc ho2 (.cells #[.int .u32 (bits BinOp.and IntKind.u32 S 65535)] 76)) (by decide))))
      obtain ⟨hP4, ho4⟩ := hPA
      rw [List.length_append, List.length_singleton] at hP4 ho4
      rw [unhide HA2] at ho4
      refine ⟨⟨k + 1, 1 - S / 65536, zs ++ [S % 65536], .slice a' (zs.length + 1) q', by go_num, by go_num, by rw [List.length_append, List.length_singleton, unhide HK], hx0, by omega, by omega, (unhide HZ).snoc (Int.emod_nonneg _ (by omega)) (Int.emod_lt_of_pos _ (by omega)), ?_, ho4, hP4⟩, ?_⟩
      · show _ = _
        rw [unhide HN1, unhide HN2]
        exact minus_step zs k (unhide HK) S C x y _ _ (unhide HSS) (unhide HVV)
      · simp only [intOf]; omega
    · have t1 : ¬ (k : Int) < (ds.length : Int) := by omega
      have ek : k = ds.length := by omega
      have hv : valD zs = valD ds - valD es := by
        have h := unhide HVV
        rw [ek] at h
        exact minus_end zs ds es C hdz (by omega) (unhide HLE) hC0 hC1 (unhide HV) h
      obtain ⟨a', q', e', hq', hD'⟩ := ownD_dig ho
      subst e'
      obtain ⟨rs, er, hlr, hdr, hvr, htr⟩ := trim_good zs hdz
      have HR := hide (hvr.trans hv)
      have HDr := hide hdr
      have HT := hide htr
      have HC2 := hide (trimmed_any a' q' zs m wr (by omega) hq' hD')
      have hqr : rs.length ≤ q' := by have := trimN_le zs zs.length; omega
      rw [← hlr] at HC2
      have HER := hide er
      have HP := hide hP
      have HO := hide ho
      obtain ⟨c0, c1, f0, f1⟩ := box2_facts hP.bo
      clear hv hvr hdr htr hdz ek er hlr hP ho hD' hk
      go_wp2_with fail
      refine (unhide HC2).mono ?_
      rintro e w3 ⟨rfl, hb3⟩
      have hP3 := (unhide HP).later hb3
      obtain ⟨z0, z1, y0, y1⟩ := box2_facts hP3.bz
      go_wp2_with fail
      refine bodyPost_ret (v := .agg #[.bool (m && decide (0 < rs.length)), .slice a' rs.length q']) (by simp [results, Try.results53, go_sem, *]) rfl ⟨a', q', rs, rfl, hqr, ownD_none (unhide HO), ?_, unhide HDr, unhide HT, unhide HR, ?_⟩
      · have h := (ownD_at (own_set (j := 1) (u := .slice a' rs.length q') (own_set (j := 0) (u := .bool (m && decide (0 < rs.length))) ((unhide HO).later hb3) hP3.bz (by decide)) (hP3.bz.set _ _) (by decide))).take (trimN zs zs.length)
        rw [unhide HER] at h
        exact h
      · exact (hP3.below.setCell (by simp <;> omega) _).setCell (by simp <;> omega) _
end Go.Proofs.Ytdinkopfdnjpmaa

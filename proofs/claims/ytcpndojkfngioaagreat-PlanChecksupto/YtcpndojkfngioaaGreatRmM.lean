import Derived.Test.YtcpndojkfngioaaGreatRmK
set_option linter.unusedSimpArgs false
set_option linter.unusedVariables false
set_option maxRecDepth 100000
namespace Go.Proofs.YtcpndojkfngioaaGreat
open Go.RowKit Go.Sort

theorem ob_len (A : Option Addr) (n m c : Nat) : (Value.slice A n c).ownBlock = (Value.slice A m c).ownBlock := by cases A <;> rfl
set_option maxHeartbeats 2000000 in
set_option maxRecDepth 100000 in
theorem walk_col1 (n : Int) (x : Val) (o : Nat) (w0 : World) (S : List Int) (v : Value) (L : List Int) (a : Option Addr) (c : Nat) (w : World) (hC : CF o w0 S v L w) (hn : S.length ≤ 1000) :
    Calls Tryz.prog 119 #[(Ex.mk 1 n x []).val a c, .pointer (some ⟨o, 0, none⟩), .pointer (some ⟨o + 1, 0, none⟩)] w (WPost o w0 S (.mk 1 n x [])) := by
  have HCE : Hid (colsE (.mk 1 n x []) = [n]) := by show _ = _; rw [colsE, colsL]; rfl
  have HB0 := hide (below_alloc (Below.refl _ w) (.cells #[.int .i64 1, .int .i64 n, .int .i64 x.k, .int .i64 x.n, .string x.s, .slice a 0 c] 74))
  have H6 := hide (Six.new w (.mk 1 n x []) a c)
  have HC0 := hide (hC.later (unhide HB0))
  obtain ⟨a3, cap, rfl⟩ := hC.own.slice
  have hLl : L.length ≤ 1000 := Nat.le_trans hC.sd.2.2 hn
  have HG : Hid (∀ g, (Value.slice a3 L.length cap).ownBlock = some g → g < w.heap.size) := fun g hg => (World.ownsRow.lt hC.own g hg).2
  have hos := hC.sz
  rw [Ex.val_open]
  simp only [Ex.op, Ex.n, Ex.v, Ex.args, List.length_nil]
  clear hC
  go_enter Tryz.func119, Tryz.ntmps119
  go_upto_region 3 with fail
  refine enter_with (fun wx => CF o w0 S (.slice a3 L.length cap) L wx ∧ Six wx w.heap.size (.mk 1 n x []) a c ∧ w.heap.size < wx.heap.size) ⟨unhide HC0, unhide H6, by simp [go_sem]⟩ ?_
  intro wx HW
  clear HC0 H6 HB0
  go_loopw [4] (fun i wr => ∃ k : Nat, k ≤ L.length ∧ i = .int .i64 (k : Int) ∧ Hid (∀ j y, j < k → L[j]? = some y → y < n) ∧ Hid (Below wx.heap.size wx wr)) (fun i _ => L.length - (intOf i).toNat)
  case atStart => exact ⟨0, Nat.zero_le _, rfl, fun j y hj => absurd hj (by omega), Below.refl _ _⟩
  case round =>
    obtain ⟨k, hk, rfl, HLT, HB⟩ := hrel
    obtain ⟨hCr, h6r, hszr⟩ := unhide HW
    have HCr := hide (hCr.later (unhide HB))
    have H6r := hide (h6r.later (unhide HB))
    have hszr2 : w.heap.size < wr.heap.size := Nat.lt_of_lt_of_le hszr (unhide HB).size
    have c0 := (unhide HCr).c0
    obtain ⟨s0, s1, s2, s3, s4, s5⟩ := unhide H6r
    simp only [Ex.op, Ex.n, Ex.v, Ex.args, List.length_nil] at s0 s1 s2 s3 s4 s5
    clear hCr h6r hszr
    rcases Nat.lt_or_ge k L.length with hlt | hge
    · have h9 : (k : Int) < (L.length : Int) := by omega
      obtain ⟨y, hy⟩ : ∃ y, L[k]? = some y := ⟨_, List.getElem?_eq_getElem hlt⟩
      obtain ⟨vb, vo, rfl, d0⟩ := (unhide HCr).own.ints.get hy
      rcases Int.lt_trichotomy y n with hyn | hyn | hyn
      · have HLT2 : Hid (∀ j z, j < k + 1 → L[j]? = some z → z < n) := fun j z hj hz => by
          by_cases ej : j = k
          · subst ej; rw [hy] at hz; injection hz with hz; omega
          · exact unhide HLT j z (by omega) hz
        clear hy
        go_wp2_with fail
        go_quiet (fail)
        go_wp2
        go_roundw
        case rel => exact ⟨k + 1, by omega, by go_num, unhide HLT2, below_drewN (unhide HB) _⟩
        case measure => simp [intOf]; omega
      · subst hyn
        have HE0 : Hid (∀ W, Below wr.heap.size wr W → CF o w0 (S ++ colsE (.mk 1 y x [])) (.slice (some ⟨vb, vo, none⟩) L.length cap) L W) := fun W hW => by
          have h := (unhide HCr).later hW
          rw [unhide HCE]
          exact ⟨h.c0, h.f0, h.c1, h.own, h.sd.skip hy, h.bel, h.lo, h.sz⟩
        clear hy
        go_wp2_with fail
        go_quiet (fail)
        go_upto_region 5 with fail
        refine enter_with (fun wy => Below wr.heap.size wr wy) (below_drewN (Below.refl _ _) _) ?_
        intro wy HBY
        have c0 := ((unhide HCr).later (unhide HBY)).c0
        obtain ⟨s0, s1, s2, s3, s4, s5⟩ := (unhide H6r).later (unhide HBY)
        simp only [Ex.op, Ex.n, Ex.v, Ex.args, List.length_nil] at s0 s1 s2 s3 s4 s5
        have d0 := clater d0 (unhide HBY)
        have h7 : ¬ (k : Int) = (L.length : Int) := by omega
        have h6 : ((k : Int) == (L.length : Int)) = false := by simpa using h7
        go_quiet (fail)
        go_upto_region 8 with fail
        refine enter_with (fun wq => ∃ v' L', CF o w0 (S ++ colsE (.mk 1 y x [])) v' L' wq) ⟨_, _, unhide HE0 _ (below_drewN (unhide HBY) _)⟩ ?_
        intro wq HQ
        go_loopw [52] (fun i wr' => i = .int .i64 0 ∧ wr' = wq) (fun _ _ => 0)
        case atStart => exact ⟨rfl, rfl⟩
        case round =>
          obtain ⟨rfl, rfl⟩ := hrel
          go_wp2
          exact bodyPost_ret (v := .tuple #[]) (by simp [results, Tryz.results119, go_sem]) rfl ⟨rfl, unhide HQ⟩
      · have hd : decide (y < n) = false := by simp; omega
        have HGT : Hid (∀ z, L[k]? = some z → n < z) := fun z hz => by rw [hy] at hz; injection hz with hz; omega
        clear hy
        go_wp2_with fail
        go_quiet (fail)
        try rw [hd]
        clear hd
        go_upto_region 5 with fail
        refine enter_with (fun wy => Below wr.heap.size wr wy) (below_drewN (Below.refl _ _) _) ?_
        intro wy HBY
        have c0 := ((unhide HCr).later (unhide HBY)).c0
        obtain ⟨s0, s1, s2, s3, s4, s5⟩ := (unhide H6r).later (unhide HBY)
        simp only [Ex.op, Ex.n, Ex.v, Ex.args, List.length_nil] at s0 s1 s2 s3 s4 s5
        have d0 := clater d0 (unhide HBY)
        have h6 : ((k : Int) == (L.length : Int)) = false := by simp; omega
        have h5 : (y != n) = true := by simp; omega
        go_quiet (fail)
        try rw [h5]
        clear h5 h6
        go_upto_region 6 with fail
        refine enter_with (fun wz => Below wr.heap.size wr wz) (below_drewN (unhide HBY) _) ?_
        intro wz HBZ
        have HCz := hide ((unhide HCr).later (unhide HBZ))
        have H6z := hide ((unhide H6r).later (unhide HBZ))
        have HC0z := hide (unhide HCz).c0
        have hszz : w.heap.size < wz.heap.size := Nat.lt_of_lt_of_le hszr2 (unhide HBZ).size
        clear c0 s0 s1 s2 s3 s4 s5
        obtain ⟨A3, hA3⟩ : ∃ A3 : Option Addr, A3 = some ⟨vb, vo, none⟩ := ⟨_, rfl⟩
        rw [← hA3] at HCz HC0z HG ⊢
        have HA3 := hide hA3
        clear hA3
        have hcap := (unhide HCz).own.cap_le
        obtain ⟨A4, hA4⟩ : ∃ A4 : Option Addr, A4 = if cap = k then A3 else A3.map (·.add k) := ⟨_, rfl⟩
        have HA4 := hide hA4
        clear hA4
        have hszo := (unhide HCz).sz
        have HS0 := hide ((Below.refl wz.heap.size wz).drew)
        refine wp_region_noPanic ?_
        refine wp_region_G (S := fun w' : World => Below wz.heap.size wz w') (k := 10) (by kernel_rfl) ?_
        refine anyG_takel (i := 0) (v := .slice A3 L.length cap) [2, 10] rfl (by kernel_rfl) (by kernel_rfl) (by kernel_rfl) (by kernel_rfl) (fun _ _ _ h => h) (Or.inl ⟨by rfl, fun w' hSw => ?_⟩) (unhide HS0) ?_
        · have e0 := clater (unhide HC0z) hSw; go_simp
        try simp only [Act.put, List.setIfInBounds_toArray, List.set_cons_zero, List.set_cons_succ]
        refine anyG_takel (i := 1) (v := .int .i64 (k : Int)) [2, 10] rfl (by kernel_rfl) (by kernel_rfl) (by kernel_rfl) (by kernel_rfl) (fun _ _ _ h => h) (Or.inl ⟨by rfl, fun w' hSw => ?_⟩) (unhide HS0) ?_
        · go_simp
        try simp only [Act.put, List.setIfInBounds_toArray, List.set_cons_zero, List.set_cons_succ]
        refine anyG_takel (i := 2) (v := .slice A3 k cap) [10] rfl (by kernel_rfl) (by kernel_rfl) (by kernel_rfl) (by kernel_rfl) (fun _ _ _ h => h) (Or.inl ⟨by rfl, fun w' hSw => ?_⟩) (unhide HS0) ?_
        · go_simp; try (intro h; omega)
        try simp only [Act.put, List.setIfInBounds_toArray, List.set_cons_zero, List.set_cons_succ]
        refine anyG_takel (i := 3) (v := .pointer (some ⟨w.heap.size, 1, none⟩)) [4, 5, 9, 10] rfl (by kernel_rfl) (by kernel_rfl) (by kernel_rfl) (by kernel_rfl) (fun _ _ _ h => h) (Or.inl ⟨by rfl, fun w' hSw => ?_⟩) (unhide HS0) ?_
        · go_simp
        try simp only [Act.put, List.setIfInBounds_toArray, List.set_cons_zero, List.set_cons_succ]
        refine anyG_takel (i := 4) (v := .int .i64 n) [5, 9, 10] rfl (by kernel_rfl) (by kernel_rfl) (by kernel_rfl) (by kernel_rfl) (fun _ _ _ h => h) (Or.inl ⟨by rfl, fun w' hSw => ?_⟩) (unhide HS0) ?_
        · have e1 : w'.cell? ⟨w.heap.size, 1, none⟩ = some (.int .i64 n) := ((unhide H6z).later hSw).2.1; go_simp
        try simp only [Act.put, List.setIfInBounds_toArray, List.set_cons_zero, List.set_cons_succ]
        refine anyG_takel (i := 6) (v := .slice A3 L.length cap) [8, 9, 10] rfl (by kernel_rfl) (by kernel_rfl) (by kernel_rfl) (by kernel_rfl) (fun _ _ _ h => h) (Or.inl ⟨by rfl, fun w' hSw => ?_⟩) (unhide HS0) ?_
        · have e0 := clater (unhide HC0z) hSw; go_simp
        try simp only [Act.put, List.setIfInBounds_toArray, List.set_cons_zero, List.set_cons_succ]
        refine anyG_takel (i := 7) (v := .int .i64 (k : Int)) [8, 9, 10] rfl (by kernel_rfl) (by kernel_rfl) (by kernel_rfl) (by kernel_rfl) (fun _ _ _ h => h) (Or.inl ⟨by rfl, fun w' hSw => ?_⟩) (unhide HS0) ?_
        · go_simp
        try simp only [Act.put, List.setIfInBounds_toArray, List.set_cons_zero, List.set_cons_succ]
        refine anyG_takel (i := 8) (v := .slice A4 (L.length - k) (cap - k)) [9, 10] rfl (by kernel_rfl) (by kernel_rfl) (by kernel_rfl) (by kernel_rfl) (fun _ _ _ h => h) (Or.inl ⟨by rfl, fun w' hSw => ?_⟩) (unhide HS0) ?_
        · rw [unhide HA4]; go_simp; try (intro h; omega)
        try simp only [Act.put, List.setIfInBounds_toArray, List.set_cons_zero, List.set_cons_succ]
        refine anyG_one (i := 5) (by kernel_rfl) ?_
        refine wpOp_lit rfl (by rfl) fun K' hK' => ?_
        go_simp
        refine unhide hK' _ _ ⟨fun _ => (below_alloc (Below.refl _ _) _).drew, ?_⟩
        clear hK' K'
        obtain ⟨w3, hw3⟩ : ∃ w3, w3 = (wz.alloc (.cells #[.int .i64 n] 3)).drew := ⟨_, rfl⟩
        have HB3 : Hid (Below wz.heap.size wz w3) := by rw [hw3]; exact (below_alloc (Below.refl _ _) _).drew
        have HO3 : Hid (OwnI w3 wz.heap.size (.slice (some ⟨wz.heap.size, 0, none⟩) 1 1) [n]) := by rw [hw3]; exact (own_single wz wz.heap.size (Nat.le_refl _) n : _)
        have hs3 : w3.heap.size = wz.heap.size + 1 := by rw [hw3]; simp [go_sem]
        rw [← hw3]
        clear hw3
        have HOz := hide ((unhide HCz).own.later (unhide HB3))
        refine anyG_one (i := 9) (by kernel_rfl) ?_
        refine wpOp_lit rfl (by rfl) fun K' hK' => ?_
        refine op_append_ints (.tmp 43) (.tmp 46) rfl wz.heap.size (.slice (some ⟨wz.heap.size, 0, none⟩) 1 1) [n] (L.drop k) rfl (unhide HO3) A4 (L.length - k) (cap - k) rfl (by simp) (by rw [unhide HA4]; exact (unhide HOz).tail hk) (fun h => ?_) (by rw [List.length_drop]; simp only [List.length_cons, List.length_nil]; omega) (by omega) ?_
        · rw [unhide HA4] at h
          have := (unhide HOz).nil_cap
          by_cases hck : cap = k
          · omega
          · rw [if_neg hck] at h
            have h2 : A3 = none := by cases A3 with | none => rfl | some _ => cases h
            have := this h2
            omega
        intro v4 w4 hO4 hg4 _
        have HB4 : Hid (Below wz.heap.size w3 w4) := grown_below hg4 (by omega) (fun g hg => by simp [Value.ownBlock] at hg; omega)
        refine unhide hK' _ _ ⟨fun _ => (unhide HB3).trans (unhide HB4), ?_⟩
        clear hK' K'
        have HB34 := hide ((unhide HB3).trans (unhide HB4))
        have HT4 := hide (((unhide HCz).own.take hk).later (unhide HB34))
        obtain ⟨A5, c5, rfl⟩ := hO4.slice
        have hl5 : ([n] ++ L.drop k).length = L.length - k + 1 := by simp
        have HI5 := hide hO4.ints
        have HN5 := hide hO4.nil_cap
        clear hO4 hg4
        try simp only [Act.put, List.setIfInBounds_toArray, List.set_cons_zero, List.set_cons_succ]
        have hsz4 := (unhide HB34).size
        refine anyG_one (i := 10) (by kernel_rfl) ?_
        refine wpOp_lit rfl (by rfl) fun K' hK' => ?_
        refine op_append_ints (.tmp 40) (.tmp 47) rfl (o + 2) (.slice A3 k cap) (L.take k) ([n] ++ L.drop k) rfl (unhide HT4) A5 _ c5 rfl rfl (unhide HI5) (unhide HN5) (by rw [hl5, List.length_take]; omega) (by omega) ?_
        intro v6 w6 hO6 hg6 _
        refine unhide hK' _ _ ⟨fun hh => absurd hh (by decide), ?_⟩
        clear hK' K'
        have HB6 : Hid (Below (o + 2) w4 w6) := grown_below hg6 (by omega) (fun g hg => (own_ge (unhide HT4) g hg))
        have HB06 := hide (((unhide HB34).mono hszo).trans (unhide HB6))
        have HC6 : Hid (CF o w0 (S ++ colsE (.mk 1 n x [])) v6 (L.take k ++ ([n] ++ L.drop k)) (w6.setCell ⟨o, 0, none⟩ v6)) := by
          rw [unhide HCE]
          exact (unhide HCz).put (unhide HB06) hO6 ((unhide HCz).sd.ins (unhide HLT) (unhide HGT) hk)
        have g0 : w6.cell? ⟨o, 0, none⟩ = some (.slice A3 L.length cap) := by rw [(unhide HB06).cell (p := ⟨o, 0, none⟩) (by show o < o + 2; omega)]; exact unhide HC0z
        have g1 : w6.frozen? ⟨o, 0, none⟩ = false := by rw [(unhide HB06).frozen (p := ⟨o, 0, none⟩) (by show o < o + 2; omega)]; exact (unhide HCz).f0
        have g5 : ∀ u, (w6.setCell ⟨o, 0, none⟩ u).cell? ⟨w.heap.size, 5, none⟩ = some (.slice a 0 c) := fun u => by
          rw [cell_set_ne _ _ _ _ _ _ (by intro h; injection h with h; omega), World.cell?_of_block (hg6.block w.heap.size (by omega) (fun e => by have := unhide HG w.heap.size (by rw [ob_len A3 L.length k cap]; exact e.symm); omega)), (unhide HB34).cell (p := ⟨w.heap.size, 5, none⟩) hszz]
          exact (unhide H6z).2.2.2.2.2
        obtain ⟨a6, n6, cap6, rfl⟩ : ∃ a n c, v6 = .slice a n c := by obtain ⟨a6, c6, h⟩ := hO6.slice; exact ⟨_, _, _, h⟩
        clear hO6 hg6
        try simp only [Act.put, List.setIfInBounds_toArray, List.set_cons_zero, List.set_cons_succ]
        refine anyG_one (i := 11) (by kernel_rfl) ?_
        refine wpOp_lit rfl (by rfl) fun K' hK' => ?_
        go_simp
        refine unhide hK' _ _ ⟨fun hh => absurd hh (by decide), ?_⟩
        clear hK' K'
        refine anyG_done (by kernel_rfl) ?_ _
        refine NoPanic.normal ?_
        have g6 := g5 (.slice a6 n6 cap6)
        clear g5 g0 g1
        obtain ⟨w7, hw7⟩ : ∃ w7, w7 = w6.setCell ⟨o, 0, none⟩ (.slice a6 n6 cap6) := ⟨_, rfl⟩
        rw [← hw7] at HC6 g6 ⊢
        clear hw7
        go_upto_region 8 with fail
        refine enter_with (fun wq => ∃ v' L', CF o w0 (S ++ colsE (.mk 1 n x [])) v' L' wq) ⟨_, _, unhide HC6⟩ ?_
        intro wq HQ
        go_loopw [52] (fun i wr' => i = .int .i64 0 ∧ wr' = wq) (fun _ _ => 0)
        case atStart => exact ⟨rfl, rfl⟩
        case round =>
          obtain ⟨rfl, rfl⟩ := hrel
          go_wp2
          exact bodyPost_ret (v := .tuple #[]) (by simp [results, Tryz.results119, go_sem]) rfl ⟨rfl, unhide HQ⟩
    · obtain rfl : k = L.length := by omega
      have HGT : Hid (∀ z, L[L.length]? = some z → n < z) := fun z hz => by have := (List.getElem?_eq_some_iff.1 hz).1; omega
      go_wp2_with fail
      go_quiet (fail)
      go_upto_region 5 with fail
      refine enter_with (fun wy => Below wr.heap.size wr wy) (below_drewN (Below.refl _ _) _) ?_
      intro wy HBY
      have c0 := ((unhide HCr).later (unhide HBY)).c0
      obtain ⟨s0, s1, s2, s3, s4, s5⟩ := (unhide H6r).later (unhide HBY)
      simp only [Ex.op, Ex.n, Ex.v, Ex.args, List.length_nil] at s0 s1 s2 s3 s4 s5
      go_quiet (fail)
      go_upto_region 6 with fail
      refine enter_with (fun wz => Below wr.heap.size wr wz) (below_drewN (unhide HBY) _) ?_
      intro wz HBZ
      have HCz := hide ((unhide HCr).later (unhide HBZ))
      have H6z := hide ((unhide H6r).later (unhide HBZ))
      have HC0z := hide (unhide HCz).c0
      have hszz : w.heap.size < wz.heap.size := Nat.lt_of_lt_of_le hszr2 (unhide HBZ).size
      clear c0 s0 s1 s2 s3 s4 s5
      obtain ⟨A3, hA3⟩ : ∃ A3 : Option Addr, A3 = a3 := ⟨_, rfl⟩
      rw [← hA3] at HCz HC0z HG ⊢
      have HA3 := hide hA3
      clear hA3
      have hcap := (unhide HCz).own.cap_le
      obtain ⟨A4, hA4⟩ : ∃ A4 : Option Addr, A4 = if cap = L.length then A3 else A3.map (·.add L.length) := ⟨_, rfl⟩
      have HA4 := hide hA4
      clear hA4
      have hszo := (unhide HCz).sz
      have HS0 := hide ((Below.refl wz.heap.size wz).drew)
      refine wp_region_noPanic ?_
      refine wp_region_G (S := fun w' : World => Below wz.heap.size wz w') (k := 10) (by kernel_rfl) ?_
      refine anyG_takel (i := 0) (v := .slice A3 L.length cap) [2, 10] rfl (by kernel_rfl) (by kernel_rfl) (by kernel_rfl) (by kernel_rfl) (fun _ _ _ h => h) (Or.inl ⟨by rfl, fun w' hSw => ?_⟩) (unhide HS0) ?_
      · have e0 := clater (unhide HC0z) hSw; go_simp
      try simp only [Act.put, List.setIfInBounds_toArray, List.set_cons_zero, List.set_cons_succ]
      refine anyG_takel (i := 1) (v := .int .i64 (L.length : Int)) [2, 10] rfl (by kernel_rfl) (by kernel_rfl) (by kernel_rfl) (by kernel_rfl) (fun _ _ _ h => h) (Or.inl ⟨by rfl, fun w' hSw => ?_⟩) (unhide HS0) ?_
      · go_simp
      try simp only [Act.put, List.setIfInBounds_toArray, List.set_cons_zero, List.set_cons_succ]
      refine anyG_takel (i := 2) (v := .slice A3 L.length cap) [10] rfl (by kernel_rfl) (by kernel_rfl) (by kernel_rfl) (by kernel_rfl) (fun _ _ _ h => h) (Or.inl ⟨by rfl, fun w' hSw => ?_⟩) (unhide HS0) ?_
      · go_simp; try (intro h; omega)
      try simp only [Act.put, List.setIfInBounds_toArray, List.set_cons_zero, List.set_cons_succ]
      refine anyG_takel (i := 3) (v := .pointer (some ⟨w.heap.size, 1, none⟩)) [4, 5, 9, 10] rfl (by kernel_rfl) (by kernel_rfl) (by kernel_rfl) (by kernel_rfl) (fun _ _ _ h => h) (Or.inl ⟨by rfl, fun w' hSw => ?_⟩) (unhide HS0) ?_
      · go_simp
      try simp only [Act.put, List.setIfInBounds_toArray, List.set_cons_zero, List.set_cons_succ]
      refine anyG_takel (i := 4) (v := .int .i64 n) [5, 9, 10] rfl (by kernel_rfl) (by kernel_rfl) (by kernel_rfl) (by kernel_rfl) (fun _ _ _ h => h) (Or.inl ⟨by rfl, fun w' hSw => ?_⟩) (unhide HS0) ?_
      · have e1 : w'.cell? ⟨w.heap.size, 1, none⟩ = some (.int .i64 n) := ((unhide H6z).later hSw).2.1; go_simp
      try simp only [Act.put, List.setIfInBounds_toArray, List.set_cons_zero, List.set_cons_succ]
      refine anyG_takel (i := 6) (v := .slice A3 L.length cap) [8, 9, 10] rfl (by kernel_rfl) (by kernel_rfl) (by kernel_rfl) (by kernel_rfl) (fun _ _ _ h => h) (Or.inl ⟨by rfl, fun w' hSw => ?_⟩) (unhide HS0) ?_
      · have e0 := clater (unhide HC0z) hSw; go_simp
      try simp only [Act.put, List.setIfInBounds_toArray, List.set_cons_zero, List.set_cons_succ]
      refine anyG_takel (i := 7) (v := .int .i64 (L.length : Int)) [8, 9, 10] rfl (by kernel_rfl) (by kernel_rfl) (by kernel_rfl) (by kernel_rfl) (fun _ _ _ h => h) (Or.inl ⟨by rfl, fun w' hSw => ?_⟩) (unhide HS0) ?_
      · go_simp
      try simp only [Act.put, List.setIfInBounds_toArray, List.set_cons_zero, List.set_cons_succ]
      refine anyG_takel (i := 8) (v := .slice A4 (0) (cap - L.length)) [9, 10] rfl (by kernel_rfl) (by kernel_rfl) (by kernel_rfl) (by kernel_rfl) (fun _ _ _ h => h) (Or.inl ⟨by rfl, fun w' hSw => ?_⟩) (unhide HS0) ?_
      · rw [unhide HA4]; go_simp; try (intro h; omega)
      try simp only [Act.put, List.setIfInBounds_toArray, List.set_cons_zero, List.set_cons_succ]
      refine anyG_one (i := 5) (by kernel_rfl) ?_
      refine wpOp_lit rfl (by rfl) fun K' hK' => ?_
      go_simp
      refine unhide hK' _ _ ⟨fun _ => (below_alloc (Below.refl _ _) _).drew, ?_⟩
      clear hK' K'
      obtain ⟨w3, hw3⟩ : ∃ w3, w3 = (wz.alloc (.cells #[.int .i64 n] 3)).drew := ⟨_, rfl⟩
      have HB3 : Hid (Below wz.heap.size wz w3) := by rw [hw3]; exact (below_alloc (Below.refl _ _) _).drew
      have HO3 : Hid (OwnI w3 wz.heap.size (.slice (some ⟨wz.heap.size, 0, none⟩) 1 1) [n]) := by rw [hw3]; exact (own_single wz wz.heap.size (Nat.le_refl _) n : _)
      have hs3 : w3.heap.size = wz.heap.size + 1 := by rw [hw3]; simp [go_sem]
      rw [← hw3]
      clear hw3
      have HOz := hide ((unhide HCz).own.later (unhide HB3))
      refine anyG_one (i := 9) (by kernel_rfl) ?_
      refine wpOp_lit rfl (by rfl) fun K' hK' => ?_
      refine op_append_ints (.tmp 43) (.tmp 46) rfl wz.heap.size (.slice (some ⟨wz.heap.size, 0, none⟩) 1 1) [n] (L.drop L.length) rfl (unhide HO3) A4 (0) (cap - L.length) rfl (by simp) (by rw [unhide HA4]; exact (unhide HOz).tail hk) (fun h => ?_) (by rw [List.length_drop]; simp only [List.length_cons, List.length_nil]; omega) (by omega) ?_
      · rw [unhide HA4] at h
        have := (unhide HOz).nil_cap
        by_cases hck : cap = L.length
        · omega
        · rw [if_neg hck] at h
          have h2 : A3 = none := by cases A3 with | none => rfl | some _ => cases h
          have := this h2
          omega
      intro v4 w4 hO4 hg4 _
      have HB4 : Hid (Below wz.heap.size w3 w4) := grown_below hg4 (by omega) (fun g hg => by simp [Value.ownBlock] at hg; omega)
      refine unhide hK' _ _ ⟨fun _ => (unhide HB3).trans (unhide HB4), ?_⟩
      clear hK' K'
      have HB34 := hide ((unhide HB3).trans (unhide HB4))
      have HT4 := hide (((unhide HCz).own.take hk).later (unhide HB34))
      obtain ⟨A5, c5, rfl⟩ := hO4.slice
      have hl5 : ([n] ++ L.drop L.length).length = L.length - L.length + 1 := by simp
      have HI5 := hide hO4.ints
      have HN5 := hide hO4.nil_cap
      clear hO4 hg4
      try simp only [Act.put, List.setIfInBounds_toArray, List.set_cons_zero, List.set_cons_succ]
      have hsz4 := (unhide HB34).size
      refine anyG_one (i := 10) (by kernel_rfl) ?_
      refine wpOp_lit rfl (by rfl) fun K' hK' => ?_
      refine op_append_ints (.tmp 40) (.tmp 47) rfl (o + 2) (.slice A3 L.length cap) (L.take L.length) ([n] ++ L.drop L.length) rfl (unhide HT4) A5 _ c5 rfl rfl (unhide HI5) (unhide HN5) (by rw [hl5, List.length_take]; omega) (by omega) ?_
      intro v6 w6 hO6 hg6 _
      refine unhide hK' _ _ ⟨fun hh => absurd hh (by decide), ?_⟩
      clear hK' K'
      have HB6 : Hid (Below (o + 2) w4 w6) := grown_below hg6 (by omega) (fun g hg => (own_ge (unhide HT4) g hg))
      have HB06 := hide (((unhide HB34).mono hszo).trans (unhide HB6))
      have HC6 : Hid (CF o w0 (S ++ colsE (.mk 1 n x [])) v6 (L.take L.length ++ ([n] ++ L.drop L.length)) (w6.setCell ⟨o, 0, none⟩ v6)) := by
        rw [unhide HCE]
        exact (unhide HCz).put (unhide HB06) hO6 ((unhide HCz).sd.ins (unhide HLT) (unhide HGT) hk)
      have g0 : w6.cell? ⟨o, 0, none⟩ = some (.slice A3 L.length cap) := by rw [(unhide HB06).cell (p := ⟨o, 0, none⟩) (by show o < o + 2; omega)]; exact unhide HC0z
      have g1 : w6.frozen? ⟨o, 0, none⟩ = false := by rw [(unhide HB06).frozen (p := ⟨o, 0, none⟩) (by show o < o + 2; omega)]; exact (unhide HCz).f0
      have g5 : ∀ u, (w6.setCell ⟨o, 0, none⟩ u).cell? ⟨w.heap.size, 5, none⟩ = some (.slice a 0 c) := fun u => by
        rw [cell_set_ne _ _ _ _ _ _ (by intro h; injection h with h; omega), World.cell?_of_block (hg6.block w.heap.size (by omega) (fun e => by have := unhide HG w.heap.size (by rw [ob_len A3 L.length L.length cap]; exact e.symm); omega)), (unhide HB34).cell (p := ⟨w.heap.size, 5, none⟩) hszz]
        exact (unhide H6z).2.2.2.2.2
      obtain ⟨a6, n6, cap6, rfl⟩ : ∃ a n c, v6 = .slice a n c := by obtain ⟨a6, c6, h⟩ := hO6.slice; exact ⟨_, _, _, h⟩
      clear hO6 hg6
      try simp only [Act.put, List.setIfInBounds_toArray, List.set_cons_zero, List.set_cons_succ]
      refine anyG_one (i := 11) (by kernel_rfl) ?_
      refine wpOp_lit rfl (by rfl) fun K' hK' => ?_
      go_simp
      refine unhide hK' _ _ ⟨fun hh => absurd hh (by decide), ?_⟩
      clear hK' K'
      refine anyG_done (by kernel_rfl) ?_ _
      refine NoPanic.normal ?_
      have g6 := g5 (.slice a6 n6 cap6)
      clear g5 g0 g1
      obtain ⟨w7, hw7⟩ : ∃ w7, w7 = w6.setCell ⟨o, 0, none⟩ (.slice a6 n6 cap6) := ⟨_, rfl⟩
      rw [← hw7] at HC6 g6 ⊢
      clear hw7
      go_upto_region 8 with fail
      refine enter_with (fun wq => ∃ v' L', CF o w0 (S ++ colsE (.mk 1 n x [])) v' L' wq) ⟨_, _, unhide HC6⟩ ?_
      intro wq HQ
      go_loopw [52] (fun i wr' => i = .int .i64 0 ∧ wr' = wq) (fun _ _ => 0)
      case atStart => exact ⟨rfl, rfl⟩
      case round =>
        obtain ⟨rfl, rfl⟩ := hrel
        go_wp2
        exact bodyPost_ret (v := .tuple #[]) (by simp [results, Tryz.results119, go_sem]) rfl ⟨rfl, unhide HQ⟩
theorem walk_col (e : Ex) (hop : e.op = 1) (hargs : e.args = []) (o : Nat) (w0 : World) (S : List Int) (v : Value) (L : List Int) (a : Option Addr) (c : Nat) (w : World) (hC : CF o w0 S v L w) (hn : S.length ≤ 1000) :
    Calls Tryz.prog 119 #[e.val a c, .pointer (some ⟨o, 0, none⟩), .pointer (some ⟨o + 1, 0, none⟩)] w (WPost o w0 S e) := by
  cases e with
  | mk op n x l =>
    have h1 : op = 1 := hop
    have h2 : l = [] := hargs
    subst h1 h2
    exact walk_col1 n x o w0 S v L a c w hC hn
end Go.Proofs.YtcpndojkfngioaaGreat
set_option linter.unusedSimpArgs false
set_option linter.unusedVariables false
set_option maxRecDepth 100000
namespace Go.Proofs.YtcpndojkfngioaaGreat
open Go.RowKit Go.Sort

/-- The walk of ColumnsOf (48). -/
theorem walk_all (o : Nat) (w0 : World) : ∀ (k : Nat) (e : Ex), e.size ≤ k → e.short → goodE e → ∀ (S : List Int), S.length + e.size ≤ 1000 → ∀ (v : Value) (L : List Int) (a : Option Addr) (c : Nat) (w : World), Ex.all w0 a e.args → CF o w0 S v L w →
    Calls Tryz.prog 119 #[e.val a c, .pointer (some ⟨o, 0, none⟩), .pointer (some ⟨o + 1, 0, none⟩)] w (WPost o w0 S e)
  | 0, e, hs, _, _, _, _, _, _, _, _, _, _, _ => by rw [Ex.size_mk] at hs; omega
  | k + 1, e, hs, hf, hg, S, hn, v, L, a, c, w, ha, hC => by
    by_cases h1 : e.op = 1
    · exact walk_col e h1 (col_args hg h1) o w0 S v L a c w hC (by omega)
    · exact walk_other e hf (by simpa using h1) o w0 S v L a c w ha hC fun i x hx a' c' S' v' L' W hS hal hC' =>
        walk_all o w0 k x (by have := Ex.size_arg hx; omega) (Ex.short_arg hf hx) (good_arg hg hx) S' (by
          have h2 := colsL_take hx
          have h3 := take_sizes hx
          rw [Ex.size_mk] at hn
          omega) v' L' a' c' W hal hC'
set_option maxHeartbeats 1000000 in
set_option maxRecDepth 100000 in
/-- tallyref.ColumnsOf (30). -/
theorem rcols_any (e : Ex) (hf : e.fin) (a : Option Addr) (c : Nat) (w : World) (ha : Ex.all w a e.args) :
    Calls Tryz.prog 96 #[e.val a c] w fun r w' => ∃ v L, r = .returned v ∧ OwnI w' w.heap.size v L ∧ (builtE e = true → Sd L (colsE e)) ∧ (builtE e = false → L = []) ∧ Below w.heap.size w w' := by
  have HB := hide (fun (W : World) (hW : Below w.heap.size w W) => rbuilt_any e hf a c W (Ex.all_later _ ha hW))
  have HW := hide (fun (hb : builtE e = true) (o : Nat) (W : World) (hC : CF o w [] (.slice none 0 0) [] W) => walk_all o w e.size e (Nat.le_refl _) (meas_short soundE e 400 40 (by omega) hb) (built_good hb) [] (by have := (built_bounds hb).1; simp; omega) (.slice none 0 0) [] a c W ha hC)
  have HB0 := hide (below_alloc (Below.refl _ w) (.cells #[.int .i64 e.op, .int .i64 e.n, .int .i64 e.v.k, .int .i64 e.v.n, .string e.v.s, .slice a e.args.length c] 74))
  have H6 := hide (Six.new w e a c)
  have hs0 : (w.alloc (.cells #[.int .i64 e.op, .int .i64 e.n, .int .i64 e.v.k, .int .i64 e.v.n, .string e.v.s, .slice a e.args.length c] 74)).heap.size = w.heap.size + 1 := by simp [go_sem]
  rw [Ex.val_open] at HB HW ⊢
  clear ha
  cases hb : builtE e with
  | false =>
    rw [hb] at HB
    clear hb HW
    go_enter Tryz.func96, Tryz.ntmps96
    go_wp2_with (go_at_call 78; refine (unhide HB _ (unhide HB0)).mono ?_; rintro r w1 ⟨rfl, hb1⟩; obtain ⟨b0, b1, b2, b3, b4, b5⟩ := (unhide H6).later hb1)
    go_ret
    exact ⟨_, [], rfl, own_nil _ _, fun h => absurd h (by decide), fun _ => rfl, below_step (unhide HB0) hb1⟩
  | true =>
    rw [hb] at HB
    have HW := hide (unhide HW hb)
    clear hb
    go_enter Tryz.func96, Tryz.ntmps96
    go_upto_region 6 with (go_at_call 78; refine (unhide HB _ (unhide HB0)).mono ?_; rintro r w1 ⟨rfl, hb1⟩; obtain ⟨b0, b1, b2, b3, b4, b5⟩ := (unhide H6).later hb1)
    have hsw := hb1.size
    rw [hs0] at hsw
    have hB1 := below_step (unhide HB0) hb1
    have hC1 : CF w1.heap.size w [] (.slice none 0 0) [] ((w1.alloc (.cells #[.slice none 0 0] 23)).alloc (.cells #[F48 w1.heap.size] 132)) :=
      ⟨by simp [go_sem], by simp [go_sem], by simp [go_sem], own_nil _ _, Sd.nil, below_alloc (below_alloc hB1 _) _, by omega, by simp [go_sem]⟩
    have HX := hide (unhide HW _ _ hC1)
    have H6x := hide (((unhide H6).later hb1).later (below_alloc (below_alloc (Below.refl _ w1) (.cells #[.slice none 0 0] 23)) (.cells #[F48 w1.heap.size] 132)))
    have HB1 := hide hB1
    obtain ⟨o, ho⟩ : ∃ o, o = w1.heap.size := ⟨_, rfl⟩
    clear hC1 hB1 b0 b1 b2 b3 b4 b5 hb1
    unfold F48 at HX H6x
    obtain ⟨b0, b1, b2, b3, b4, b5⟩ := unhide H6x
    go_upto_region 7 with (go_at_call 119; refine (unhide HX).mono ?_; rintro r w2 ⟨rfl, v2, L2, hC2⟩; have HC2 := hide hC2; have c0 := hC2.c0; have hbl := hC2.bel; clear hC2)
    go_wp2
    go_ret
    exact ⟨_, L2, rfl, (unhide HC2).own.base_le (by omega), fun _ => by have := (unhide HC2).sd; rw [List.nil_append] at this; exact this, fun h => absurd h (by decide), hbl⟩
end Go.Proofs.YtcpndojkfngioaaGreat

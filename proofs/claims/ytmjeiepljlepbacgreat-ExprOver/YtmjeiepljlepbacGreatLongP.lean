import Derived.Test.YtmjeiepljlepbacGreatPaA
import Derived.Deep.RegionHeld3
set_option linter.unusedSimpArgs false
set_option linter.unusedVariables false
set_option maxRecDepth 100000
namespace Go.Proofs.YtmjeiepljlepbacGreat
open Go.RowKit Go.Sort

theorem bit_of : ∀ {ds : List Int}, Digs ds → ∀ {k : Nat} {x : Int}, ds[k]? = some x → ∀ {s : Nat}, s < 16 → x / 2 ^ s % 2 = valD ds / 2 ^ (16 * k + s) % 2
  | [], _, k, x, h, _, _ => by simp at h
  | y :: ds, hd, 0, x, h, s, hs => by
    simp at h
    subst h
    obtain ⟨r, hr⟩ : ∃ r, 16 = s + (r + 1) := ⟨15 - s, by omega⟩
    have e : (65536 : Int) = 2 ^ s * (2 * 2 ^ r) := by
      have : (65536 : Int) = 2 ^ 16 := by decide
      rw [this, hr, Int.pow_add, Int.pow_succ, Int.mul_comm (2 ^ r)]
    have hp : (2 : Int) ^ s ≠ 0 := Int.ne_of_gt (Int.pow_pos (by omega))
    rw [valD, e, Int.mul_assoc, Nat.mul_zero, Nat.zero_add, Int.add_mul_ediv_left _ _ hp, Int.mul_assoc, Int.add_mul_emod_self_left]
  | y :: ds, hd, k + 1, x, h, s, hs => by
    have ih := bit_of (ds := ds) (fun z hz => hd z (List.mem_cons_of_mem _ hz)) (by simpa using h) hs
    rw [ih, valD]
    have hy := hd y (by simp)
    have e : (2 : Int) ^ (16 * (k + 1) + s) = 65536 * 2 ^ (16 * k + s) := by
      rw [show 16 * (k + 1) + s = 16 + (16 * k + s) by omega, Int.pow_add]
      rfl
    rw [e, ← Int.ediv_ediv_of_nonneg (by decide), Int.add_mul_ediv_left _ _ (by decide), Int.ediv_eq_zero_of_lt hy.1 hy.2, Int.zero_add]
theorem and_one {U : Int} (h0 : 0 ≤ U) (h1 : U < 4294967296) : bits BinOp.and IntKind.u32 U 1 = U % 2 := by
  obtain ⟨a, rfl⟩ := Int.eq_ofNat_of_zero_le h0
  have h := bits_and_u32_nat a 1 (by omega) (by omega)
  rw [show (1 : Int) = ((1 : Nat) : Int) from rfl, h, show (1 : Nat) = 2 ^ 1 - 1 from rfl, Nat.and_two_pow_sub_one_eq_mod]
  omega
theorem Bx.put0 {w : World} {g : Nat} {o : Bool} {s : Value} (h : Bx w g o s) (o' : Bool) : Bx (w.setCell ⟨g, 0, none⟩ (.bool o')) g o' s := ⟨(h.1.set 0 _).congr fun i hi => by
    match i, hi with
    | 0, _ => rfl
    | 1, _ => rfl, h.2⟩
theorem Bx.other0 {w : World} {g g' j : Nat} {o : Bool} {s : Value} (h : Bx w g o s) (hne : g ≠ g') (u : Value) : Bx (w.setCell ⟨g', j, none⟩ u) g o s := ⟨h.1.setOther hne _, h.2⟩
theorem trimmed_long (s : Value) (z : Int) (m : Bool) (w : World) (hz : z < 65536 ^ 30) (h : LongS w s z) :
    Calls Tryz.prog 156 #[.agg #[.bool m, s]] w fun e w' => ∃ r, e = .returned (.agg #[.bool (m && decide (0 < z)), r]) ∧ LongS w' r z ∧ Below w.heap.size w w' := by
  have l1 := long_len h hz
  obtain ⟨a, c, zs, rfl, h2, h3, h4, h5, h6, h7⟩ := h
  have := l1 _ _ _ rfl
  subst h7
  exact trimmed_s a c zs m w (by omega) h2 h3 h5 h4
theorem bS {w' : World} {g : Nat} {o : Bool} {s : Value} (h : Bx w' g o s) : w'.cell? ⟨g, 0, none⟩ = some (.bool o) ∧ w'.cell? ⟨g, 1, none⟩ = some s := ⟨h.1.cell (by omega), h.1.cell (by omega)⟩

set_option maxHeartbeats 16000000 in
set_option maxRecDepth 100000 in
theorem divided_s (a b : Option Addr) (ca cb : Nat) (ds es : List Int) (m n : Bool) (w : World) (hl : ds.length ≤ 4) (hl2 : es.length ≤ 4) (hd : Digs ds) (hY : 0 < valD es) (ha : DigAt w a ds) (hb : LongS w (.slice b es.length cb) (valD es)) :
    Calls Tryz.prog 158 #[.agg #[.bool m, .slice a ds.length ca], .agg #[.bool n, .slice b es.length cb]] w fun e w' =>
      ∃ s t, e = .returned (.tuple #[.agg #[.bool ((m != n) && decide (0 < valD ds / valD es)), s], .agg #[.bool (m && decide (0 < valD ds % valD es)), t]]) ∧ LongS w' s (valD ds / valD es) ∧ LongS w' t (valD ds % valD es) ∧ Below w.heap.size w w' := by
  have HA := hide ha
  have HB := hide hb
  have HD := hide hd
  have H2 := hide (fun (w' : World) => longOf_s 2 w' (by unfold In64; omega) (by omega))
  have H1 := hide (fun (w' : World) => longOf_s 1 w' (by unfold In64; omega) (by omega))
  have hX0 := valD_nonneg hd
  have HYB : Hid (valD es < 65536 ^ 4) := by
    obtain ⟨a', c', zs, e1, _, _, _, k5, _, k7⟩ := hb
    have hlz : zs.length = es.length := by injection e1 with _ h _; omega
    show valD es < 65536 ^ 4
    rw [← k7]
    exact Int.lt_of_lt_of_le (valD_lt k5) (pow_mono (by omega))
  generalize hXe : valD ds = X at *
  have HX := hide hXe
  generalize valD es = Y at *
  clear ha hb hd hXe
  go_enter Tryz.func158, Tryz.ntmps158
  go_wp2_with (first
    | (go_at_call 153; refine (unhide H2 _).mono ?_; rintro e w1 ⟨ts, rfl, hts, hb1⟩; obtain ⟨hB1, x0, x1, x2, x3, x4, x5⟩ := six_boxes (w := w) (m := m) (n := n) (x := .slice a ds.length ca) (y := .slice b es.length cb) ⟨_, _, _, rfl⟩ ⟨_, _, _, rfl⟩ hb1; obtain ⟨t0, t1, _, _⟩ := box2_facts x0.1; obtain ⟨o0, o1, _, _⟩ := box2_facts x1.1; have hzz : w.heap.size + 1 + 1 + 1 + 1 + 1 < w1.heap.size := x5.1.lt; have hzy : w.heap.size + 1 < w1.heap.size := x1.1.lt; have hzx : w.heap.size < w1.heap.size := x0.1.lt; have hsh := hts.shape; obtain ⟨ta, tl, tc, et⟩ := hsh; subst et; clear hb1)
    | fail)
  have nil0 : LongS ((w1.alloc (.cells #[.bool false, .slice ta tl tc] 159)).alloc (.cells #[.bool false, .slice b es.length cb] 159)) (.slice none 0 0) 0 := ⟨none, 0, [], rfl, Nat.le_refl _, fun _ => rfl, .inl rfl, by intro x hx; simp at hx, rfl, rfl⟩
  have HDB : Hid (DB w ((w1.alloc (.cells #[.bool false, .slice ta tl tc] 159)).alloc (.cells #[.bool false, .slice b es.length cb] 159)) w1.heap.size m n (.slice a ds.length ca) (.slice b es.length cb) (.slice none 0 0) (.slice none 0 0) (.slice ta tl tc) 0 0 Y) := by
    have bl := below_alloc (below_alloc (Below.refl _ w1) (.cells #[.bool false, .slice ta tl tc] 159)) (.cells #[.bool false, .slice b es.length cb] 159)
    refine ⟨below_step hB1 bl, x0.later bl, x1.later bl, x2.later bl, x3.later bl, x4.later bl, x5.later bl, Bx.alloc ⟨box2_alloc _ _ _, _, _, _, rfl⟩ _, ?_, nil0, nil0, hts.later bl, ((unhide HB).later hB1).later bl, hzz⟩
    have := box2_alloc (w1.alloc (.cells #[.bool false, .slice ta tl tc] 159)) (.bool false) (.slice b es.length cb)
    exact ⟨by simpa using this, _, _, _, rfl⟩
  have hXb : X < 65536 ^ 4 := by rw [← unhide HX]; exact Int.lt_of_lt_of_le (valD_lt (unhide HD)) (pow_mono hl)
  have HXB := hide hXb
  have HPT : Hid (X / 2 ^ (16 * ds.length) = 0) := by
    show _ = _
    have h1 := valD_lt (unhide HD)
    rw [unhide HX] at h1
    have h2 : (65536 : Int) ^ ds.length = 2 ^ (16 * ds.length) := by rw [Int.pow_mul]; rfl
    rw [h2] at h1
    exact Int.ediv_eq_zero_of_lt hX0 h1
  clear hts x0 x1 x2 x3 x4 x5 hB1 nil0 t0 t1 o0 o1 hXb
  go_loopw [10] (fun q wv => ∃ (j : Nat) (qs rs : Value) (Q R : Int), q = .int .i64 ((j : Int) - 1) ∧ j ≤ 16 * ds.length ∧ DB w wv w1.heap.size m n (.slice a ds.length ca) (.slice b es.length cb) qs rs (.slice ta tl tc) Q R Y ∧ Hid (Q = (X / 2 ^ j) / Y) ∧ Hid (R = (X / 2 ^ j) % Y)) (fun q wv => (intOf q + 1).toNat)
  case atStart => exact ⟨16 * ds.length, _, _, 0, 0, by first | rfl | go_num, Nat.le_refl _, unhide HDB, by show _ = _; rw [unhide HPT]; simp, by show _ = _; rw [unhide HPT]; simp⟩
  case round =>
    obtain ⟨j, qs, rs, Q, R, rfl, hj, hDB, HQ, HR⟩ := hrel
    have hQ0 := hDB.lq.nonneg
    have hR0 := hDB.lr.nonneg
    have hRY : R < Y := by rw [unhide HR]; exact Int.emod_lt_of_pos _ hY
    have HQB : Hid (Q < 65536 ^ 4) := by
      show _ < _
      have h1 : X / 2 ^ j ≤ X := Int.ediv_le_self _ hX0
      have h2 : (X / 2 ^ j) / Y ≤ X / 2 ^ j := Int.ediv_le_self _ (Int.ediv_nonneg hX0 (Int.le_of_lt (Int.pow_pos (by omega))))
      have := unhide HXB
      rw [unhide HQ]
      omega
    have HD8 := hide hDB
    by_cases h1 : 0 < j
    · obtain ⟨i, rfl⟩ : ∃ i, j = i + 1 := ⟨j - 1, by omega⟩
      have ei : (((i + 1 : Nat) : Int) - 1) = (i : Int) := by omega
      rw [ei]
      have t1 : (0 : Int) ≤ (i : Int) := by omega
      clear hDB ei h1
      go_upto_region 8 with fail
      go_cut [] (fun wy => ∃ qs' rs', DB w wy w1.heap.size m n (.slice a ds.length ca) (.slice b es.length cb) qs' rs' (.slice ta tl tc) (Q * 2) (R * 2) Y)
      case first =>
        have HTQ : Hid (∀ W', Below wr.heap.size wr W' → Calls Tryz.prog 157 #[.agg #[.bool false, qs], .agg #[.bool false, .slice ta tl tc]] W' fun e w'' => ∃ r, e = .returned (.agg #[.bool false, r]) ∧ LongS w'' r (Q * 2) ∧ Below W'.heap.size W' w'') := fun W' hW => times_two qs _ Q W' (by have := unhide HQB; have : (65536 : Int) ^ 4 < 65536 ^ 9 := (by decide); omega) ((unhide HD8).lq.later hW) ((unhide HD8).lt.later hW)
        have HTR : Hid (∀ W', Below wr.heap.size wr W' → Calls Tryz.prog 157 #[.agg #[.bool false, rs], .agg #[.bool false, .slice ta tl tc]] W' fun e w'' => ∃ r, e = .returned (.agg #[.bool false, r]) ∧ LongS w'' r (R * 2) ∧ Below W'.heap.size W' w'') := fun W' hW => times_two rs _ R W' (by have := unhide HYB; have : (65536 : Int) ^ 4 < 65536 ^ 9 := (by decide); omega) ((unhide HD8).lr.later hW) ((unhide HD8).lt.later hW)
        obtain ⟨q0, q1, _, _⟩ := box2_facts (unhide HD8).bq.1
        obtain ⟨r0, r1, _, _⟩ := box2_facts (unhide HD8).br.1
        obtain ⟨t0, t1', _, _⟩ := box2_facts (unhide HD8).bt.1
        have hS0 : (fun w' : World => (w'.cell? ⟨w.heap.size + 1 + 1 + 1 + 1, 0, none⟩ = some (.bool false) ∧ w'.cell? ⟨w.heap.size + 1 + 1 + 1 + 1, 1, none⟩ = some qs) ∧ (w'.cell? ⟨w.heap.size + 1 + 1 + 1 + 1 + 1, 0, none⟩ = some (.bool false) ∧ w'.cell? ⟨w.heap.size + 1 + 1 + 1 + 1 + 1, 1, none⟩ = some rs) ∧ w'.cell? ⟨w1.heap.size, 0, none⟩ = some (.bool false) ∧ w'.cell? ⟨w1.heap.size, 1, none⟩ = some (.slice ta tl tc)) wr.drew := ⟨bS (unhide HD8).bq, bS (unhide HD8).br, bS (unhide HD8).bt⟩
        refine wp_region_noPanic ?_
        refine wp_region_G (S := fun w' : World => (w'.cell? ⟨w.heap.size + 1 + 1 + 1 + 1, 0, none⟩ = some (.bool false) ∧ w'.cell? ⟨w.heap.size + 1 + 1 + 1 + 1, 1, none⟩ = some qs) ∧ (w'.cell? ⟨w.heap.size + 1 + 1 + 1 + 1 + 1, 0, none⟩ = some (.bool false) ∧ w'.cell? ⟨w.heap.size + 1 + 1 + 1 + 1 + 1, 1, none⟩ = some rs) ∧ w'.cell? ⟨w1.heap.size, 0, none⟩ = some (.bool false) ∧ w'.cell? ⟨w1.heap.size, 1, none⟩ = some (.slice ta tl tc)) (k := 6) (by kernel_rfl) ?_
        refine anyG_take (i := 0) (v := .agg #[.bool false, qs]) [2, 6] rfl (by kernel_rfl) (by kernel_rfl) (by kernel_rfl) (by kernel_rfl) (fun _ _ _ h => h) (Or.inl ⟨by rfl, fun w' hSw => ?_⟩) hS0 ?_
        · dsimp only at hSw; obtain ⟨⟨c1, c2⟩, ⟨c3, c4⟩, c5, c6⟩ := hSw; go_simp
        try simp only [Act.put, List.setIfInBounds_toArray, List.set_cons_zero, List.set_cons_succ]
        refine anyG_take (i := 1) (v := .agg #[.bool false, .slice ta tl tc]) [2, 6] rfl (by kernel_rfl) (by kernel_rfl) (by kernel_rfl) (by kernel_rfl) (fun _ _ _ h => h) (Or.inl ⟨by rfl, fun w' hSw => ?_⟩) hS0 ?_
        · dsimp only at hSw; obtain ⟨⟨c1, c2⟩, ⟨c3, c4⟩, c5, c6⟩ := hSw; go_simp
        try simp only [Act.put, List.setIfInBounds_toArray, List.set_cons_zero, List.set_cons_succ]
        refine anyG_take (i := 3) (v := .agg #[.bool false, rs]) [5, 6] rfl (by kernel_rfl) (by kernel_rfl) (by kernel_rfl) (by kernel_rfl) (fun _ _ _ h => h) (Or.inl ⟨by rfl, fun w' hSw => ?_⟩) hS0 ?_
        · dsimp only at hSw; obtain ⟨⟨c1, c2⟩, ⟨c3, c4⟩, c5, c6⟩ := hSw; go_simp
        try simp only [Act.put, List.setIfInBounds_toArray, List.set_cons_zero, List.set_cons_succ]
        refine anyG_take (i := 4) (v := .agg #[.bool false, .slice ta tl tc]) [5, 6] rfl (by kernel_rfl) (by kernel_rfl) (by kernel_rfl) (by kernel_rfl) (fun _ _ _ h => h) (Or.inl ⟨by rfl, fun w' hSw => ?_⟩) hS0 ?_
        · dsimp only at hSw; obtain ⟨⟨c1, c2⟩, ⟨c3, c4⟩, c5, c6⟩ := hSw; go_simp
        try simp only [Act.put, List.setIfInBounds_toArray, List.set_cons_zero, List.set_cons_succ]
        refine anyG_one (i := 2) (by kernel_rfl) ?_
        clear hS0
        refine wpOp_at rfl (by rfl) fun K hK => ?_
        go_simp
        refine (unhide HTQ _ (Below.refl _ _).drew).mono ?_
        rintro e w5 ⟨t5, rfl, ht5, hb5⟩
        go_simp
        have hB5 := below_step (Below.refl wr.heap.size wr).drew hb5
        have hD5 := hide ((unhide HD8).later hB5)
        have HT5 := hide ht5
        have HB5 := hide hB5
        obtain ⟨fa, fl, fc, ef⟩ := ht5.shape
        subst ef
        refine unhide hK _ _ ⟨fun _ => ⟨bS (unhide hD5).bq, bS (unhide hD5).br, bS (unhide hD5).bt⟩, ?_⟩
        clear hK K hb5 hB5 ht5
        refine anyG_one (i := 5) (by kernel_rfl) ?_
        refine wpOp_at rfl (by rfl) fun K hK => ?_
        go_simp
        refine (unhide HTR _ (unhide HB5)).mono ?_
        rintro e w6 ⟨t6, rfl, ht6, hb6⟩
        go_simp
        have hD6 := hide ((unhide hD5).later hb6)
        have HT6 := hide ((unhide HT5).later hb6)
        obtain ⟨ga, gl, gc, eg⟩ := ht6.shape
        subst eg
        have hE := hide ((unhide hD6).putq (unhide HT6))
        have hF := hide ((unhide hE).putr ((unhide hD6).bq.long ht6 _ _))
        refine unhide hK _ _ ⟨fun _ => ⟨bS (unhide hD6).bq, bS (unhide hD6).br, bS (unhide hD6).bt⟩, ?_⟩
        obtain ⟨g0, g1, g2, g3⟩ := box2_facts (unhide hD6).bq.1
        obtain ⟨k0, k1, k2, k3⟩ := box2_facts (unhide hE).br.1
        clear hK K ht6 hb6
        refine anyG_one (i := 6) (by kernel_rfl) ?_
        refine wpOp_at rfl (by rfl) fun K hK => ?_
        go_simp
        refine unhide hK _ _ ⟨fun hh => absurd hh (by decide), ?_⟩
        clear hK K
        refine anyG_one (i := 7) (by kernel_rfl) ?_
        refine wpOp_at rfl (by rfl) fun K hK => ?_
        go_simp
        refine unhide hK _ _ ⟨fun hh => absurd hh (by decide), ?_⟩
        clear hK K
        refine anyG_done (by kernel_rfl) ?_ _
        refine NoPanic.normal ?_
        go_wp2
        go_meet
        exact ⟨_, _, unhide hF⟩
      case rest =>
        obtain ⟨qs2, rs2, hE⟩ := hcut
        rename World => wx
        have HE2 := hide hE
        obtain ⟨k, s, hks, hs16⟩ : ∃ k s : Nat, i = 16 * k + s ∧ s < 16 := ⟨i / 16, i % 16, by omega, by omega⟩
        have hkl : k < ds.length := by omega
        obtain ⟨x, hx⟩ : ∃ x, ds[k]? = some x := ⟨_, List.getElem?_eq_getElem hkl⟩
        have hxb := (unhide HD).at hx
        rcases (unhide HA).later hE.below with e | ⟨ba, oa, e, hca⟩
        · rw [e] at hx; cases hx
        subst e
        have cx := hca k x hx
        obtain ⟨b0, b1, _, _⟩ := box2_facts hE.bx.1
        have e1 : (i : Int).tdiv 16 = (k : Int) := by rw [Int.tdiv_eq_ediv_of_nonneg (by omega)]; omega
        have e2 : (i : Int).tmod 16 = (s : Int) := by rw [Int.tmod_eq_emod_of_nonneg (by omega)]; omega
        have t2 : (k : Int) < (ds.length : Int) := by omega
        obtain ⟨bt, hbt⟩ : ∃ bt, bt = X / 2 ^ i % 2 := ⟨_, rfl⟩
        have hbt01 : bt = 0 ∨ bt = 1 := by omega
        have hbits : bits BinOp.and IntKind.u32 (x / 2 ^ s) 1 = bt := by
          have hp : (0 : Int) < 2 ^ s := Int.pow_pos (by omega)
          rw [and_one (Int.ediv_nonneg hxb.1 (Int.le_of_lt hp)) (by have := Int.ediv_le_self (2 ^ s) hxb.1; omega), hbt, hks, ← unhide HX]
          exact bit_of (unhide HD) hx hs16
        have HDIV : Hid ((Y ≤ R * 2 + bt → Q * 2 + 1 = (X / 2 ^ i) / Y ∧ R * 2 + bt - Y = (X / 2 ^ i) % Y) ∧ (R * 2 + bt < Y → Q * 2 = (X / 2 ^ i) / Y ∧ R * 2 + bt = (X / 2 ^ i) % Y)) := by
          have h1 := div_bit (X / 2 ^ (i + 1)) Q R Y bt hY hbt01 (unhide HQ) (unhide HR)
          have h2 : X / 2 ^ i = 2 * (X / 2 ^ (i + 1)) + bt := by
            have h3 : X / 2 ^ (i + 1) = X / 2 ^ i / 2 := by rw [Int.pow_succ, Int.ediv_ediv_of_nonneg (Int.le_of_lt (Int.pow_pos (by omega)))]
            omega
          rw [h2]
          exact h1
        have HR1B : Hid (R * 2 + bt < 65536 ^ 5) := by show _ < _; have := unhide HYB; have h4 : (65536 : Int) ^ 4 = 18446744073709551616 := (by decide); have h5 : (65536 : Int) ^ 5 = 1208925819614629174706176 := (by decide); omega
        have HQ2B : Hid (Q * 2 < 65536 ^ 5) := by show _ < _; have := unhide HQB; have h4 : (65536 : Int) ^ 4 = 18446744073709551616 := (by decide); have h5 : (65536 : Int) ^ 5 = 1208925819614629174706176 := (by decide); omega
        have HI := hide hks
        clear hE hca hks hkl HDB HPT hbt HQ HR HD8 hx hxb HQB hRY hQ0 hR0
        generalize Q * 2 = Q2 at *
        rcases hbt01 with e | e
        · subst e
          have hb9 : (bits BinOp.and IntKind.u32 (x / 2 ^ s) 1 == 1) = false := by rw [hbits]; rfl
          rw [Int.add_zero] at HDIV HR1B
          generalize R * 2 = R1 at *
          clear hbits
          go_upto_region 11 with fail
          obtain ⟨rs3, wz, hG⟩ : ∃ rs3 wz, Hid (rs3 = rs2 ∧ wz = wx) := ⟨_, _, rfl, rfl⟩
          obtain ⟨rfl, rfl⟩ := unhide hG
          have hG := unhide HE2
          clear HE2
          have HG := hide hG
          obtain ⟨r0, r1, _, _⟩ := box2_facts hG.br.1
          obtain ⟨s0, s1, _, _⟩ := box2_facts hG.bs.1
          have HSZ : Hid (∀ W', Below wz.heap.size wz W' → Calls Tryz.prog 205 #[.agg #[.bool false, rs3], .agg #[.bool false, .slice b es.length cb]] W' fun e w' => e = .returned (.int .i64 (cmpI R1 Y)) ∧ Below W'.heap.size W' w') := fun W' hW => size_s rs3 _ R1 Y W' (by have := unhide HYB; have := unhide HR1B; have : (65536 : Int) ^ 5 < 65536 ^ 30 := (by decide); omega) (by have := unhide HYB; have : (65536 : Int) ^ 4 < 65536 ^ 30 := (by decide); omega) ((unhide HG).lr.later hW) ((unhide HG).ly.later hW)
          have hwz : w.heap.size + 1 + 1 + 1 + 1 + 1 < wz.heap.size := hG.br.1.lt
          have hwt : w1.heap.size + 1 < wz.heap.size := hG.bs.1.lt
          clear hG
          by_cases hc : Y ≤ R1
          · have HMI : Hid (∀ W', Below wz.heap.size wz W' → Calls Tryz.prog 154 #[.agg #[.bool false, rs3], .agg #[.bool true, .slice b es.length cb]] W' fun e w' => ∃ r, e = .returned (.agg #[.bool false, r]) ∧ LongS w' r (R1 - Y) ∧ Below W'.heap.size W' w') := fun W' hW => minus_s rs3 _ R1 Y W' (by have := unhide HR1B; have : (65536 : Int) ^ 5 < 65536 ^ 29 := (by decide); omega) hY hc ((unhide HG).lr.later hW) ((unhide HG).ly.later hW)
            have tc0 : (0 : Int) ≤ cmpI R1 Y := by unfold cmpI; rw [if_neg (by omega)]; split <;> omega
            generalize cmpI R1 Y = CC at *
            go_upto_region 15 with (first
              | (go_at_call 205; refine (unhide HSZ _ (Below.refl _ _)).mono ?_; rintro e w2 ⟨rfl, hb2⟩; have hG2 := (unhide HG).later hb2; obtain ⟨r0, r1, _, _⟩ := box2_facts hG2.br.1; obtain ⟨s0, s1, _, _⟩ := box2_facts hG2.bs.1; have hsz2 := hb2.size; have hw2 : w.heap.size + 1 + 1 + 1 + 1 + 1 < w2.heap.size := hG2.br.1.lt; have hw3 : w1.heap.size + 1 < w2.heap.size := hG2.bs.1.lt)
              | (go_at_call 154; refine (unhide HMI _ (below_step hb2 (below_alloc (Below.refl _ w2) _))).mono ?_; rintro e w3 ⟨r3, rfl, hr3, hb3⟩; have hG3 := (hG2.later (below_alloc (Below.refl _ w2) _)).later hb3; obtain ⟨x0, x1, x2, x3⟩ := box2_facts hG3.br.1; obtain ⟨ra, rl, rc, er⟩ := hr3.shape; subst er)
              | fail)
            have hG4 := hG3.putr hr3
            have HG4 := hide hG4
            obtain ⟨W4, hW4⟩ : ∃ W4, Hid (W4 = ((w3.setCell ⟨w.heap.size + 1 + 1 + 1 + 1 + 1, 0, none⟩ (.bool false)).setCell ⟨w.heap.size + 1 + 1 + 1 + 1 + 1, 1, none⟩ (.slice ra rl rc))) := ⟨_, rfl⟩
            rw [← unhide hW4] at HG4 ⊢
            clear hG2 hG3 hG4 hr3 hb3 hb2 x0 x1 x2 x3 r0 r1 s0 s1 hW4
            have HP1 : Hid (∀ W' t, Below W4.heap.size W4 W' → LongS W' t 1 → Calls Tryz.prog 154 #[.agg #[.bool false, qs2], .agg #[.bool false, t]] W' fun e w'' => ∃ r, e = .returned (.agg #[.bool false, r]) ∧ LongS w'' r (Q2 + 1) ∧ Below W'.heap.size W' w'') := fun W' t hW ht => plus_s qs2 t Q2 1 W' (by have := unhide HQ2B; have : (65536 : Int) ^ 5 < 65536 ^ 29 := (by decide); omega) (by decide) ((unhide HG4).lq.later hW) ht
            have hS0 : (fun w' : World => w'.cell? ⟨w.heap.size + 1 + 1 + 1 + 1, 0, none⟩ = some (.bool false) ∧ w'.cell? ⟨w.heap.size + 1 + 1 + 1 + 1, 1, none⟩ = some qs2) W4.drew := bS (unhide HG4).bq
            refine wp_region_noPanic ?_
            refine wp_region_G (S := fun w' : World => w'.cell? ⟨w.heap.size + 1 + 1 + 1 + 1, 0, none⟩ = some (.bool false) ∧ w'.cell? ⟨w.heap.size + 1 + 1 + 1 + 1, 1, none⟩ = some qs2) (k := 3) (by kernel_rfl) ?_
            refine anyG_take (i := 0) (v := .agg #[.bool false, qs2]) [2, 3] rfl (by kernel_rfl) (by kernel_rfl) (by kernel_rfl) (by kernel_rfl) (fun _ _ _ h => h) (Or.inl ⟨by rfl, fun w' hSw => ?_⟩) hS0 ?_
            · dsimp only at hSw; obtain ⟨c1, c2⟩ := hSw; go_simp
            try simp only [Act.put, List.setIfInBounds_toArray, List.set_cons_zero, List.set_cons_succ]
            refine anyG_one (i := 1) (by kernel_rfl) ?_
            clear hS0
            refine wpOp_at rfl (by rfl) fun K hK => ?_
            go_simp
            refine (unhide H1 _).mono ?_
            rintro e w5 ⟨t5, rfl, ht5, hb5⟩
            go_simp
            have hB5 := below_step (Below.refl W4.heap.size W4).drew hb5
            have hD5 := hide ((unhide HG4).later hB5)
            have HT5 := hide ht5
            have HB5 := hide hB5
            obtain ⟨fa, fl, fc, ef⟩ := ht5.shape
            subst ef
            refine unhide hK _ _ ⟨fun _ => bS (unhide hD5).bq, ?_⟩
            clear hK K hb5 hB5 ht5
            refine anyG_one (i := 2) (by kernel_rfl) ?_
            refine wpOp_at rfl (by rfl) fun K hK => ?_
            go_simp
            refine (unhide HP1 _ _ (unhide HB5) (unhide HT5)).mono ?_
            rintro e w6 ⟨t6, rfl, ht6, hb6⟩
            go_simp
            have hD6 := hide ((unhide hD5).later hb6)
            obtain ⟨ga, gl, gc, eg⟩ := ht6.shape
            subst eg
            have hF := hide ((unhide hD6).putq ht6)
            refine unhide hK _ _ ⟨fun _ => bS (unhide hD6).bq, ?_⟩
            obtain ⟨g0, g1, g2, g3⟩ := box2_facts (unhide hD6).bq.1
            clear hK K ht6 hb6
            refine anyG_one (i := 3) (by kernel_rfl) ?_
            refine wpOp_at rfl (by rfl) fun K hK => ?_
            go_simp
            refine unhide hK _ _ ⟨fun hh => absurd hh (by decide), ?_⟩
            clear hK K
            refine anyG_done (by kernel_rfl) ?_ _
            refine NoPanic.normal ?_
            go_wp2
            go_roundw
            case rel => exact ⟨i, _, _, Q2 + 1, R1 - Y, by go_num, by omega, unhide hF, hide ((unhide HDIV).1 hc).1, hide ((unhide HDIV).1 hc).2⟩
            case measure => first | (simp [intOf]; done) | (simp [intOf]; omega)

          · have tc0 : ¬ (0 : Int) ≤ cmpI R1 Y := by unfold cmpI; rw [if_pos (by omega)]; omega
            generalize cmpI R1 Y = CC at *
            go_wp2_with (first
              | (go_at_call 205; refine (unhide HSZ _ (Below.refl _ _)).mono ?_; rintro e w2 ⟨rfl, hb2⟩; have hG2 := (unhide HG).later hb2; have hsz2 := hb2.size)
              | fail)
            go_roundw
            case rel => exact ⟨i, _, _, Q2, R1, by go_num, by omega, hG2, hide ((unhide HDIV).2 (by omega)).1, hide ((unhide HDIV).2 (by omega)).2⟩
            case measure => first | (simp [intOf]; done) | (simp [intOf]; omega)

        · subst e
          have hb9 : (bits BinOp.and IntKind.u32 (x / 2 ^ s) 1 == 1) = true := by rw [hbits]; rfl
          generalize R * 2 = R2 at *
          clear hbits
          go_upto_region 10 with fail
          go_cut [] (fun wy => ∃ r4, DB w wy w1.heap.size m n (.slice (some ⟨ba, oa, none⟩) ds.length ca) (.slice b es.length cb) qs2 r4 (.slice ta tl tc) Q2 (R2 + 1) Y)
          case first =>
            have HP1 : Hid (∀ W' t, Below wx.heap.size wx W' → LongS W' t 1 → Calls Tryz.prog 154 #[.agg #[.bool false, rs2], .agg #[.bool false, t]] W' fun e w'' => ∃ r, e = .returned (.agg #[.bool false, r]) ∧ LongS w'' r (R2 + 1) ∧ Below W'.heap.size W' w'') := fun W' t hW ht => plus_s rs2 t R2 1 W' (by have := unhide HR1B; have : (65536 : Int) ^ 5 < 65536 ^ 29 := (by decide); omega) (by decide) ((unhide HE2).lr.later hW) ht
            have hS0 : (fun w' : World => w'.cell? ⟨w.heap.size + 1 + 1 + 1 + 1 + 1, 0, none⟩ = some (.bool false) ∧ w'.cell? ⟨w.heap.size + 1 + 1 + 1 + 1 + 1, 1, none⟩ = some rs2) wx.drew := bS (unhide HE2).br
            refine wp_region_noPanic ?_
            refine wp_region_G (S := fun w' : World => w'.cell? ⟨w.heap.size + 1 + 1 + 1 + 1 + 1, 0, none⟩ = some (.bool false) ∧ w'.cell? ⟨w.heap.size + 1 + 1 + 1 + 1 + 1, 1, none⟩ = some rs2) (k := 3) (by kernel_rfl) ?_
            refine anyG_take (i := 0) (v := .agg #[.bool false, rs2]) [2, 3] rfl (by kernel_rfl) (by kernel_rfl) (by kernel_rfl) (by kernel_rfl) (fun _ _ _ h => h) (Or.inl ⟨by rfl, fun w' hSw => ?_⟩) hS0 ?_
            · dsimp only at hSw; obtain ⟨c1, c2⟩ := hSw; go_simp
            try simp only [Act.put, List.setIfInBounds_toArray, List.set_cons_zero, List.set_cons_succ]
            refine anyG_one (i := 1) (by kernel_rfl) ?_
            clear hS0
            refine wpOp_at rfl (by rfl) fun K hK => ?_
            go_simp
            refine (unhide H1 _).mono ?_
            rintro e w5 ⟨t5, rfl, ht5, hb5⟩
            go_simp
            have hB5 := below_step (Below.refl wx.heap.size wx).drew hb5
            have hD5 := hide ((unhide HE2).later hB5)
            have HT5 := hide ht5
            have HB5 := hide hB5
            obtain ⟨fa, fl, fc, ef⟩ := ht5.shape
            subst ef
            refine unhide hK _ _ ⟨fun _ => bS (unhide hD5).br, ?_⟩
            clear hK K hb5 hB5 ht5
            refine anyG_one (i := 2) (by kernel_rfl) ?_
            refine wpOp_at rfl (by rfl) fun K hK => ?_
            go_simp
            refine (unhide HP1 _ _ (unhide HB5) (unhide HT5)).mono ?_
            rintro e w6 ⟨t6, rfl, ht6, hb6⟩
            go_simp
            have hD6 := hide ((unhide hD5).later hb6)
            obtain ⟨ga, gl, gc, eg⟩ := ht6.shape
            subst eg
            have hF := hide ((unhide hD6).putr ht6)
            refine unhide hK _ _ ⟨fun _ => bS (unhide hD6).br, ?_⟩
            obtain ⟨g0, g1, g2, g3⟩ := box2_facts (unhide hD6).br.1
            clear hK K ht6 hb6
            refine anyG_one (i := 3) (by kernel_rfl) ?_
            refine wpOp_at rfl (by rfl) fun K hK => ?_
            go_simp
            refine unhide hK _ _ ⟨fun hh => absurd hh (by decide), ?_⟩
            clear hK K
            refine anyG_done (by kernel_rfl) ?_ _
            refine NoPanic.normal ?_
            go_wp2
            go_meet
            exact ⟨_, unhide hF⟩

          case rest =>
            obtain ⟨rs3, hG⟩ := hcut
            rename World => wz
            generalize R2 + 1 = R1 at *
            clear HE2
            have HG := hide hG
            obtain ⟨r0, r1, _, _⟩ := box2_facts hG.br.1
            obtain ⟨s0, s1, _, _⟩ := box2_facts hG.bs.1
            have HSZ : Hid (∀ W', Below wz.heap.size wz W' → Calls Tryz.prog 205 #[.agg #[.bool false, rs3], .agg #[.bool false, .slice b es.length cb]] W' fun e w' => e = .returned (.int .i64 (cmpI R1 Y)) ∧ Below W'.heap.size W' w') := fun W' hW => size_s rs3 _ R1 Y W' (by have := unhide HYB; have := unhide HR1B; have : (65536 : Int) ^ 5 < 65536 ^ 30 := (by decide); omega) (by have := unhide HYB; have : (65536 : Int) ^ 4 < 65536 ^ 30 := (by decide); omega) ((unhide HG).lr.later hW) ((unhide HG).ly.later hW)
            have hwz : w.heap.size + 1 + 1 + 1 + 1 + 1 < wz.heap.size := hG.br.1.lt
            have hwt : w1.heap.size + 1 < wz.heap.size := hG.bs.1.lt
            clear hG
            by_cases hc : Y ≤ R1
            · have HMI : Hid (∀ W', Below wz.heap.size wz W' → Calls Tryz.prog 154 #[.agg #[.bool false, rs3], .agg #[.bool true, .slice b es.length cb]] W' fun e w' => ∃ r, e = .returned (.agg #[.bool false, r]) ∧ LongS w' r (R1 - Y) ∧ Below W'.heap.size W' w') := fun W' hW => minus_s rs3 _ R1 Y W' (by have := unhide HR1B; have : (65536 : Int) ^ 5 < 65536 ^ 29 := (by decide); omega) hY hc ((unhide HG).lr.later hW) ((unhide HG).ly.later hW)
              have tc0 : (0 : Int) ≤ cmpI R1 Y := by unfold cmpI; rw [if_neg (by omega)]; split <;> omega
              generalize cmpI R1 Y = CC at *
              go_upto_region 15 with (first
                | (go_at_call 205; refine (unhide HSZ _ (Below.refl _ _)).mono ?_; rintro e w2 ⟨rfl, hb2⟩; have hG2 := (unhide HG).later hb2; obtain ⟨r0, r1, _, _⟩ := box2_facts hG2.br.1; obtain ⟨s0, s1, _, _⟩ := box2_facts hG2.bs.1; have hsz2 := hb2.size; have hw2 : w.heap.size + 1 + 1 + 1 + 1 + 1 < w2.heap.size := hG2.br.1.lt; have hw3 : w1.heap.size + 1 < w2.heap.size := hG2.bs.1.lt)
                | (go_at_call 154; refine (unhide HMI _ (below_step hb2 (below_alloc (Below.refl _ w2) _))).mono ?_; rintro e w3 ⟨r3, rfl, hr3, hb3⟩; have hG3 := (hG2.later (below_alloc (Below.refl _ w2) _)).later hb3; obtain ⟨x0, x1, x2, x3⟩ := box2_facts hG3.br.1; obtain ⟨ra, rl, rc, er⟩ := hr3.shape; subst er)
                | fail)
              have hG4 := hG3.putr hr3
              have HG4 := hide hG4
              obtain ⟨W4, hW4⟩ : ∃ W4, Hid (W4 = ((w3.setCell ⟨w.heap.size + 1 + 1 + 1 + 1 + 1, 0, none⟩ (.bool false)).setCell ⟨w.heap.size + 1 + 1 + 1 + 1 + 1, 1, none⟩ (.slice ra rl rc))) := ⟨_, rfl⟩
              rw [← unhide hW4] at HG4 ⊢
              clear hG2 hG3 hG4 hr3 hb3 hb2 x0 x1 x2 x3 r0 r1 s0 s1 hW4
              have HP1 : Hid (∀ W' t, Below W4.heap.size W4 W' → LongS W' t 1 → Calls Tryz.prog 154 #[.agg #[.bool false, qs2], .agg #[.bool false, t]] W' fun e w'' => ∃ r, e = .returned (.agg #[.bool false, r]) ∧ LongS w'' r (Q2 + 1) ∧ Below W'.heap.size W' w'') := fun W' t hW ht => plus_s qs2 t Q2 1 W' (by have := unhide HQ2B; have : (65536 : Int) ^ 5 < 65536 ^ 29 := (by decide); omega) (by decide) ((unhide HG4).lq.later hW) ht
              have hS0 : (fun w' : World => w'.cell? ⟨w.heap.size + 1 + 1 + 1 + 1, 0, none⟩ = some (.bool false) ∧ w'.cell? ⟨w.heap.size + 1 + 1 + 1 + 1, 1, none⟩ = some qs2) W4.drew := bS (unhide HG4).bq
              refine wp_region_noPanic ?_
              refine wp_region_G (S := fun w' : World => w'.cell? ⟨w.heap.size + 1 + 1 + 1 + 1, 0, none⟩ = some (.bool false) ∧ w'.cell? ⟨w.heap.size + 1 + 1 + 1 + 1, 1, none⟩ = some qs2) (k := 3) (by kernel_rfl) ?_
              refine anyG_take (i := 0) (v := .agg #[.bool false, qs2]) [2, 3] rfl (by kernel_rfl) (by kernel_rfl) (by kernel_rfl) (by kernel_rfl) (fun _ _ _ h => h) (Or.inl ⟨by rfl, fun w' hSw => ?_⟩) hS0 ?_
              · dsimp only at hSw; obtain ⟨c1, c2⟩ := hSw; go_simp
              try simp only [Act.put, List.setIfInBounds_toArray, List.set_cons_zero, List.set_cons_succ]
              refine anyG_one (i := 1) (by kernel_rfl) ?_
              clear hS0
              refine wpOp_at rfl (by rfl) fun K hK => ?_
              go_simp
              refine (unhide H1 _).mono ?_
              rintro e w5 ⟨t5, rfl, ht5, hb5⟩
              go_simp
              have hB5 := below_step (Below.refl W4.heap.size W4).drew hb5
              have hD5 := hide ((unhide HG4).later hB5)
              have HT5 := hide ht5
              have HB5 := hide hB5
              obtain ⟨fa, fl, fc, ef⟩ := ht5.shape
              subst ef
              refine unhide hK _ _ ⟨fun _ => bS (unhide hD5).bq, ?_⟩
              clear hK K hb5 hB5 ht5
              refine anyG_one (i := 2) (by kernel_rfl) ?_
              refine wpOp_at rfl (by rfl) fun K hK => ?_
              go_simp
              refine (unhide HP1 _ _ (unhide HB5) (unhide HT5)).mono ?_
              rintro e w6 ⟨t6, rfl, ht6, hb6⟩
              go_simp
              have hD6 := hide ((unhide hD5).later hb6)
              obtain ⟨ga, gl, gc, eg⟩ := ht6.shape
              subst eg
              have hF := hide ((unhide hD6).putq ht6)
              refine unhide hK _ _ ⟨fun _ => bS (unhide hD6).bq, ?_⟩
              obtain ⟨g0, g1, g2, g3⟩ := box2_facts (unhide hD6).bq.1
              clear hK K ht6 hb6
              refine anyG_one (i := 3) (by kernel_rfl) ?_
              refine wpOp_at rfl (by rfl) fun K hK => ?_
              go_simp
              refine unhide hK _ _ ⟨fun hh => absurd hh (by decide), ?_⟩
              clear hK K
              refine anyG_done (by kernel_rfl) ?_ _
              refine NoPanic.normal ?_
              go_wp2
              go_roundw
              case rel => exact ⟨i, _, _, Q2 + 1, R1 - Y, by go_num, by omega, unhide hF, hide ((unhide HDIV).1 hc).1, hide ((unhide HDIV).1 hc).2⟩
              case measure => first | (simp [intOf]; done) | (simp [intOf]; omega)

            · have tc0 : ¬ (0 : Int) ≤ cmpI R1 Y := by unfold cmpI; rw [if_pos (by omega)]; omega
              generalize cmpI R1 Y = CC at *
              go_wp2_with (first
                | (go_at_call 205; refine (unhide HSZ _ (Below.refl _ _)).mono ?_; rintro e w2 ⟨rfl, hb2⟩; have hG2 := (unhide HG).later hb2; have hsz2 := hb2.size)
                | fail)
              go_roundw
              case rel => exact ⟨i, _, _, Q2, R1, by go_num, by omega, hG2, hide ((unhide HDIV).2 (by omega)).1, hide ((unhide HDIV).2 (by omega)).2⟩
              case measure => first | (simp [intOf]; done) | (simp [intOf]; omega)

    · have ej : j = 0 := by omega
      subst ej
      have t1 : (((0 : Nat) : Int) - 1) = -1 := by omega
      rw [t1]
      have eQ : Q = X / Y := by have := unhide HQ; rw [Int.pow_zero, Int.ediv_one] at this; exact this
      have eR : R = X % Y := by have := unhide HR; rw [Int.pow_zero, Int.ediv_one] at this; exact this
      have HRB : Hid (R < 65536 ^ 4) := by show _ < _; have := unhide HYB; omega
      obtain ⟨a0, a1, _, _⟩ := box2_facts hDB.bx.1
      obtain ⟨b0, b1, _, _⟩ := box2_facts hDB.bn.1
      obtain ⟨q0, q1, q2, q3⟩ := box2_facts hDB.bq.1
      obtain ⟨r0, r1, r2, r3⟩ := box2_facts hDB.br.1
      have EQ := hide eQ
      have ER := hide eR
      clear HQ HR eQ eR HDB HPT hDB h1 hj
      go_upto_region 18 with fail
      have hDB := unhide HD8
      have u1 := hDB.bq.put0 (!(m == n))
      have u2 := u1.other0 (g' := w.heap.size + 1 + 1 + 1 + 1 + 1) (j := 0) (by omega) (.bool m)
      have v1 := (hDB.br.other0 (g' := w.heap.size + 1 + 1 + 1 + 1) (j := 0) (by omega) (.bool (!(m == n)))).put0 m
      have y1 := (hDB.z1.other0 (g' := w.heap.size + 1 + 1 + 1 + 1) (j := 0) (by omega) (.bool (!(m == n)))).other0 (g' := w.heap.size + 1 + 1 + 1 + 1 + 1) (j := 0) (by omega) (.bool m)
      have y2 := (hDB.z2.other0 (g' := w.heap.size + 1 + 1 + 1 + 1) (j := 0) (by omega) (.bool (!(m == n)))).other0 (g' := w.heap.size + 1 + 1 + 1 + 1 + 1) (j := 0) (by omega) (.bool m)
      have lq1 := (hDB.lq.set (j := 0) (u := .bool (!(m == n))) hDB.bq.1 (box2_no hDB.bq.2)).set (j := 0) (u := .bool m) (hDB.br.other0 (g' := w.heap.size + 1 + 1 + 1 + 1) (j := 0) (by omega) (.bool (!(m == n)))).1 (box2_no hDB.br.2)
      have lr1 := (hDB.lr.set (j := 0) (u := .bool (!(m == n))) hDB.bq.1 (box2_no hDB.bq.2)).set (j := 0) (u := .bool m) (hDB.br.other0 (g' := w.heap.size + 1 + 1 + 1 + 1) (j := 0) (by omega) (.bool (!(m == n)))).1 (box2_no hDB.br.2)
      have bel1 := (hDB.below.setCell (p := ⟨w.heap.size + 1 + 1 + 1 + 1, 0, none⟩) (by simp; omega) (.bool (!(m == n)))).setCell (p := ⟨w.heap.size + 1 + 1 + 1 + 1 + 1, 0, none⟩) (by simp; omega) (.bool m)
      obtain ⟨WX, hWX⟩ : ∃ WX, Hid (WX = ((wr.setCell ⟨w.heap.size + 1 + 1 + 1 + 1, 0, none⟩ (.bool (!(m == n)))).setCell ⟨w.heap.size + 1 + 1 + 1 + 1 + 1, 0, none⟩ (.bool m))) := ⟨_, rfl⟩
      rw [← unhide hWX] at u2 v1 y1 y2 lq1 lr1 bel1 ⊢
      clear hWX u1 hDB HD8 a0 a1 b0 b1 q0 q1 q2 q3 r0 r1 r2 r3
      have HU := hide u2
      have HV := hide v1
      have HY1 := hide y1
      have HY2 := hide y2
      have HBL := hide bel1
      have HTQ : Hid (∀ W', Below WX.heap.size WX W' → Calls Tryz.prog 156 #[.agg #[.bool (!(m == n)), qs]] W' fun e w'' => ∃ r, e = .returned (.agg #[.bool (!(m == n) && decide (0 < Q)), r]) ∧ LongS w'' r Q ∧ Below W'.heap.size W' w'') := fun W' hW => trimmed_long qs Q _ W' (by have := unhide HQB; have : (65536 : Int) ^ 4 < 65536 ^ 30 := (by decide); omega) (lq1.later hW)
      have HTR : Hid (∀ W', Below WX.heap.size WX W' → Calls Tryz.prog 156 #[.agg #[.bool m, rs]] W' fun e w'' => ∃ r, e = .returned (.agg #[.bool (m && decide (0 < R)), r]) ∧ LongS w'' r R ∧ Below W'.heap.size W' w'') := fun W' hW => trimmed_long rs R _ W' (by have := unhide HRB; have : (65536 : Int) ^ 4 < 65536 ^ 30 := (by decide); omega) (lr1.later hW)
      have hS0 : (fun w' : World => (w'.cell? ⟨w.heap.size + 1 + 1 + 1 + 1, 0, none⟩ = some (.bool (!(m == n))) ∧ w'.cell? ⟨w.heap.size + 1 + 1 + 1 + 1, 1, none⟩ = some qs) ∧ w'.cell? ⟨w.heap.size + 1 + 1 + 1 + 1 + 1, 0, none⟩ = some (.bool m) ∧ w'.cell? ⟨w.heap.size + 1 + 1 + 1 + 1 + 1, 1, none⟩ = some rs) WX.drew := ⟨bS u2, bS v1⟩
      clear u2 v1 y1 y2 lq1 lr1 bel1
      refine wp_region_noPanic ?_
      refine wp_region_G (S := fun w' : World => (w'.cell? ⟨w.heap.size + 1 + 1 + 1 + 1, 0, none⟩ = some (.bool (!(m == n))) ∧ w'.cell? ⟨w.heap.size + 1 + 1 + 1 + 1, 1, none⟩ = some qs) ∧ w'.cell? ⟨w.heap.size + 1 + 1 + 1 + 1 + 1, 0, none⟩ = some (.bool m) ∧ w'.cell? ⟨w.heap.size + 1 + 1 + 1 + 1 + 1, 1, none⟩ = some rs) (k := 4) (by kernel_rfl) ?_
      refine anyG_take (i := 0) (v := .agg #[.bool (!(m == n)), qs]) [1, 4] rfl (by kernel_rfl) (by kernel_rfl) (by kernel_rfl) (by kernel_rfl) (fun _ _ _ h => h) (Or.inl ⟨by rfl, fun w' hSw => ?_⟩) hS0 ?_
      · dsimp only at hSw; obtain ⟨⟨c1, c2⟩, c3, c4⟩ := hSw; go_simp
      try simp only [Act.put, List.setIfInBounds_toArray, List.set_cons_zero, List.set_cons_succ]
      refine anyG_take (i := 2) (v := .agg #[.bool m, rs]) [3, 4] rfl (by kernel_rfl) (by kernel_rfl) (by kernel_rfl) (by kernel_rfl) (fun _ _ _ h => h) (Or.inl ⟨by rfl, fun w' hSw => ?_⟩) hS0 ?_
      · dsimp only at hSw; obtain ⟨⟨c1, c2⟩, c3, c4⟩ := hSw; go_simp
      try simp only [Act.put, List.setIfInBounds_toArray, List.set_cons_zero, List.set_cons_succ]
      refine anyG_one (i := 1) (by kernel_rfl) ?_
      clear hS0
      refine wpOp_at rfl (by rfl) fun K hK => ?_
      go_simp
      refine (unhide HTQ _ (Below.refl _ _).drew).mono ?_
      rintro e w5 ⟨t5, rfl, ht5, hb5⟩
      go_simp
      have hB5 := below_step (Below.refl WX.heap.size WX).drew hb5
      have HT5 := hide ht5
      have HB5 := hide hB5
      obtain ⟨fa, fl, fc, ef⟩ := ht5.shape
      subst ef
      refine unhide hK _ _ ⟨fun _ => ⟨bS ((unhide HU).later hB5), bS ((unhide HV).later hB5)⟩, ?_⟩
      clear hK K hb5 hB5 ht5
      refine anyG_one (i := 3) (by kernel_rfl) ?_
      refine wpOp_at rfl (by rfl) fun K hK => ?_
      go_simp
      refine (unhide HTR _ (unhide HB5)).mono ?_
      rintro e w6 ⟨t6, rfl, ht6, hb6⟩
      go_simp
      have hB6 := below_step (unhide HB5) hb6
      have HB6 := hide hB6
      have HT6 := hide ht6
      have HT5' := hide ((unhide HT5).later hb6)
      obtain ⟨ga, gl, gc, eg⟩ := ht6.shape
      subst eg
      refine unhide hK _ _ ⟨fun _ => ⟨bS ((unhide HU).later hB6), bS ((unhide HV).later hB6)⟩, ?_⟩
      obtain ⟨g0, g1, g2, g3⟩ := box2_facts ((unhide HY1).later hB6).1
      obtain ⟨k0, k1, k2, k3⟩ := box2_facts ((unhide HY2).later hB6).1
      clear hK K ht6 hb6 hB6
      refine anyG_one (i := 4) (by kernel_rfl) ?_
      refine wpOp_at rfl (by rfl) fun K hK => ?_
      go_simp
      refine unhide hK _ _ ⟨fun hh => absurd hh (by decide), ?_⟩
      clear hK K
      refine anyG_one (i := 5) (by kernel_rfl) ?_
      refine wpOp_at rfl (by rfl) fun K hK => ?_
      go_simp
      refine unhide hK _ _ ⟨fun hh => absurd hh (by decide), ?_⟩
      clear hK K
      refine anyG_done (by kernel_rfl) ?_ _
      refine NoPanic.normal ?_
      go_wp2
      have z1 := (unhide HY1).later (unhide HB6)
      have z2 := (unhide HY2).later (unhide HB6)
      refine bodyPost_ret (v := .tuple #[.agg #[.bool ((m != n) && decide (0 < X / Y)), .slice fa fl fc], .agg #[.bool (m && decide (0 < X % Y)), .slice ga gl gc]]) (by rw [← unhide EQ, ← unhide ER]; simp [results, Tryz.results158, go_sem, *, bne]) rfl ⟨_, _, rfl, ?_, ?_, ?_⟩
      · rw [← unhide EQ]
        exact (z2.other (by omega) _ _).long (z1.long (unhide HT5') _ _) _ _
      · rw [← unhide ER]
        exact (z2.other (by omega) _ _).long (z1.long (unhide HT6) _ _) _ _
      · have hB := below_step (unhide HBL) (unhide HB6)
        exact (((hB.setCell (by simp; omega) _).setCell (by simp; omega) _).setCell (by simp; omega) _).setCell (by simp; omega) _
end Go.Proofs.YtmjeiepljlepbacGreat

import Derived.Test.YtmjeiepljlepbacGreatAnyG
import Derived.Shelf.Spec.TrailingZeros
set_option linter.unusedSimpArgs false
set_option linter.unusedVariables false
set_option maxRecDepth 100000
namespace Go.Proofs.YtmjeiepljlepbacGreat
open Go.RowKit Go.Sort

theorem val_next (ds : List Int) (n : Nat) : valD (ds.take (n + 1)) = valD (ds.take n) + 65536 ^ n * dig ds n := by
  by_cases h : n < ds.length
  · exact val_take h
  · rw [List.take_of_length_le (by omega), List.take_of_length_le (by omega)]
    have : dig ds n = 0 := by simp [dig, List.getElem?_eq_none (Nat.le_of_not_lt h)]
    rw [this]; simp

/-- The four boxes of 'plus': two longs, the result, what is built. -/
structure Boxes4 (w wx : World) (m n o : Bool) (x y v : Value) : Prop where
  a0 : wx.cell? ⟨w.heap.size, 0, none⟩ = some (.bool m)
  a1 : wx.cell? ⟨w.heap.size, 1, none⟩ = some x
  b0 : wx.cell? ⟨w.heap.size + 1, 0, none⟩ = some (.bool n)
  b1 : wx.cell? ⟨w.heap.size + 1, 1, none⟩ = some y
  z0 : wx.cell? ⟨w.heap.size + 1 + 1, 0, none⟩ = some (.bool false)
  z1 : wx.cell? ⟨w.heap.size + 1 + 1, 1, none⟩ = some (.slice none 0 0)
  g0 : wx.frozen? ⟨w.heap.size + 1 + 1, 0, none⟩ = false
  g1 : wx.frozen? ⟨w.heap.size + 1 + 1, 1, none⟩ = false
  c0 : wx.cell? ⟨w.heap.size + 1 + 1 + 1, 0, none⟩ = some (.bool o)
  c1 : wx.cell? ⟨w.heap.size + 1 + 1 + 1, 1, none⟩ = some v
  f1 : wx.frozen? ⟨w.heap.size + 1 + 1 + 1, 1, none⟩ = false
  hs : w.heap.size + 1 + 1 + 1 + 1 ≤ wx.heap.size
theorem Boxes4.later {w wx wy : World} {m n o : Bool} {x y v : Value} (h : Boxes4 w wx m n o x y v) (hb : Below (w.heap.size + 1 + 1 + 1 + 1) wx wy) : Boxes4 w wy m n o x y v where
  a0 := (hb.cell (p := ⟨w.heap.size, 0, none⟩) (by simp <;> omega)).trans h.a0
  a1 := (hb.cell (p := ⟨w.heap.size, 1, none⟩) (by simp <;> omega)).trans h.a1
  b0 := (hb.cell (p := ⟨w.heap.size + 1, 0, none⟩) (by simp <;> omega)).trans h.b0
  b1 := (hb.cell (p := ⟨w.heap.size + 1, 1, none⟩) (by simp <;> omega)).trans h.b1
  z0 := (hb.cell (p := ⟨w.heap.size + 1 + 1, 0, none⟩) (by simp <;> omega)).trans h.z0
  z1 := (hb.cell (p := ⟨w.heap.size + 1 + 1, 1, none⟩) (by simp <;> omega)).trans h.z1
  g0 := (hb.frozen (p := ⟨w.heap.size + 1 + 1, 0, none⟩) (by simp <;> omega)).trans h.g0
  g1 := (hb.frozen (p := ⟨w.heap.size + 1 + 1, 1, none⟩) (by simp <;> omega)).trans h.g1
  c0 := (hb.cell (p := ⟨w.heap.size + 1 + 1 + 1, 0, none⟩) (by simp)).trans h.c0
  c1 := (hb.cell (p := ⟨w.heap.size + 1 + 1 + 1, 1, none⟩) (by simp)).trans h.c1
  f1 := (hb.frozen (p := ⟨w.heap.size + 1 + 1 + 1, 1, none⟩) (by simp)).trans h.f1
  hs := Nat.le_trans h.hs hb.size
theorem Boxes4.put {w wx : World} {m n o : Bool} {x y v : Value} (h : Boxes4 w wx m n o x y v) (u : Value) : Boxes4 w (wx.setCell ⟨w.heap.size + 1 + 1 + 1, 1, none⟩ u) m n o x y u := by
  obtain ⟨a0, a1, b0, b1, z0, z1, g0, g1, c0, c1, f1, hs⟩ := h
  constructor <;> simp [go_sem, *]

theorem OwnD.later {w w1 : World} {base : Nat} {v : Value} {xs : List Int} (h : OwnD w base v xs) (hb : Below w.heap.size w w1) : OwnD w1 base v xs :=
  World.ownsRow.kept (row := none) h ⟨hb.os, hb.tape, hb.output, hb.size, fun k hk _ => hb.block k hk⟩ (by cases v.ownBlock with | none => exact .inl rfl | some g => exact .inr (by simp))
theorem plus_step (zs : List Int) (k : Nat) (hk : zs.length = k) (S C x y D E : Int) (hS : S = C + (x + y)) (h : valD zs + 65536 ^ k * C = D + E) :
    valD (zs ++ [S % 65536]) + 65536 ^ (k + 1) * (S / 65536) = (D + 65536 ^ k * x) + (E + 65536 ^ k * y) := by
  rw [valD_snoc, hk, Int.pow_succ, Int.mul_assoc, Int.add_assoc, ← Int.mul_add, Int.emod_add_mul_ediv, hS, Int.mul_add, Int.mul_add]
  omega
theorem and_dig32 (U : Int) (h0 : 0 ≤ U) (h1 : U < 4294967296) : bits BinOp.and IntKind.u32 U 65535 = U % 65536 := by
  obtain ⟨a, rfl⟩ := Int.eq_ofNat_of_zero_le h0
  have h := bits_and_u32_nat a 65535 (by omega) (by omega)
  rw [show (65535 : Int) = ((65535 : Nat) : Int) from rfl, h, show (65535 : Nat) = 2 ^ 16 - 1 from rfl, Nat.and_two_pow_sub_one_eq_mod]
  omega

theorem plus_end (zs ds es : List Int) (k : Nat) (h1 : ds.length ≤ k) (h2 : es.length ≤ k) (h : valD zs + 65536 ^ k * 0 = valD (ds.take k) + valD (es.take k)) : valD zs = valD ds + valD es := by
  rw [List.take_of_length_le h1, List.take_of_length_le h2, Int.mul_zero, Int.add_zero] at h
  exact h

set_option maxHeartbeats 1000000 in
theorem plus_same (a b : Option Addr) (ca cb : Nat) (ds es : List Int) (m : Bool) (w : World) (hl : ds.length ≤ 1000000) (hl2 : es.length ≤ 1000000) (hd : Digs ds) (he : Digs es) (ha : DigAt w a ds) (hb : DigAt w b es) :
    Calls Tryz.prog 154 #[.agg #[.bool m, .slice a ds.length ca], .agg #[.bool m, .slice b es.length cb]] w fun e w' =>
      ∃ a' c' zs, e = .returned (.agg #[.bool (m && decide (0 < zs.length)), .slice a' zs.length c']) ∧ zs.length ≤ c' ∧ (a' = none → c' = 0) ∧ DigAt w' a' zs ∧ Digs zs ∧ trimN zs zs.length = zs.length ∧ valD zs = valD ds + valD es ∧ Below w.heap.size w w' := by
  obtain ⟨i0, hi, hz0, hz1, hz2⟩ := info_parts Tryz.info175
  have hL : ∃ L, ds.length ≤ L ∧ es.length ≤ L ∧ L ≤ 1000000 ∧ (L = ds.length ∨ L = es.length) := by
    by_cases h : ds.length ≤ es.length
    · exact ⟨es.length, h, Nat.le_refl _, hl2, .inr rfl⟩
    · exact ⟨ds.length, Nat.le_refl _, by omega, hl, .inl rfl⟩
  obtain ⟨L, l1, l2, l3, l4⟩ := hL
  go_enter Tryz.func154, Tryz.ntmps154
  go_wp2_with fail
  go_loopw [6, 7] (fun c i wx => ∃ (k : Nat) (C : Int) (zs : List Int) (v : Value), c = .int .u32 C ∧ i = .int .i64 k ∧ zs.length = k ∧ (k ≤ L ∨ (k = L + 1 ∧ C = 0)) ∧ 0 ≤ C ∧ C ≤ 1 ∧ Digs zs ∧ Hid (valD zs + 65536 ^ k * C = valD (ds.take k) + valD (es.take k)) ∧ OwnD wx (w.heap.size + 1 + 1 + 1 + 1) v zs ∧ Boxes4 w wx m m m (.slice a ds.length ca) (.slice b es.length cb) v ∧ Below w.heap.size w wx) (fun c i wx => L + 1 - (intOf i).toNat)
  case atStart =>
    refine ⟨0, 0, [], .slice none 0 0, rfl, rfl, rfl, .inl (Nat.zero_le _), by omega, by omega, by intro x hx; simp at hx, by show _ = _; simp [valD], World.ownsRow_nil _ _ _ _, ?_, ?_⟩
    · constructor <;> simp [go_sem]
    · exact below_alloc (below_alloc (below_alloc (below_alloc (Below.refl _ _) _) _) _) _
  case round =>
    obtain ⟨k, C, zs, v, rfl, rfl, hk, hkL, hC0, hC1, hdz, HV, ho, hB4, hbel⟩ := hrel
    by_cases h1 : k < ds.length
    · have t1 : (k : Int) < (ds.length : Int) := by omega
      have hx0 : k < L := by omega
      have hdd := dig_bd hd k
      have hee := dig_bd he k
      have hDa := ha.later hbel
      have hDb := hb.later hbel
      have hk6 : k ≤ 1000000000 := by omega
      have hB4' := hB4
      obtain ⟨a0, a1, b0, b1, z0, z1, g0, g1, c0, c1, f1, hs⟩ := hB4'
      have k0 := cell_regrown a0
      have k1 := cell_regrown a1
      have k2 := cell_regrown b0
      have k3 := cell_regrown b1
      have HA : Hid (∀ d os, Calls Tryz.prog 204 #[.agg #[.bool m, .slice a ds.length ca], .int .i64 k] (grow (redrawn wr d) os) fun e w' => e = .returned (.int .u32 (dig ds k)) ∧ Below (grow (redrawn wr d) os).heap.size (grow (redrawn wr d) os) w') := fun d os => digit_any a ca ds m k _ (by omega) hk6 (hDa.later (below_regrown _ _ _))
      have HB : Hid (∀ d os, Calls Tryz.prog 204 #[.agg #[.bool m, .slice b es.length cb], .int .i64 k] (grow (redrawn wr d) os) fun e w' => e = .returned (.int .u32 (dig es k)) ∧ Below (grow (redrawn wr d) os).heap.size (grow (redrawn wr d) os) w') := fun d os => digit_any b cb es m k _ (by omega) hk6 (hDb.later (below_regrown _ _ _))
      have HN1 := hide (val_next ds k)
      have HN2 := hide (val_next es k)
      generalize dig ds k = x at *
      generalize dig es k = y at *
      clear hDa hDb ha hb
      go_wp2_with fail
      refine wp_region_quiet_below (by kernel_rfl) (by kernel_rfl) ?_
      repeat (go_big_quiet_step (first
        | (go_at_call_of 204 (Value.agg #[Value.bool m, Value.slice a ds.length ca]); exact Calls.regrown_of (unhide HA _ _))
        | (go_at_call_of 204 (Value.agg #[Value.bool m, Value.slice b es.length cb]); exact Calls.regrown_of (unhide HB _ _))))
      refine wpQuiet_nil ?_
      intro w2 hw2
      have hB2 : Below wr.heap.size wr w2 := by obtain ⟨p, rfl⟩ := hw2; exact below_regrown _ _ _
      clear hw2 k0 k1 k2 k3
      have hB5 := hB4.later (hB2.mono hs)
      have hbel2 := below_step hbel hB2
      have ho2 := ho.later hB2
      clear hB4 hB2 hbel ho a0 a1 b0 b1 z0 z1 g0 g1 c0 c1 f1 hs
      have hB5' := hB5
      obtain ⟨a0, a1, b0, b1, z0, z1, g0, g1, c0, c1, f1, hs⟩ := hB5'
      obtain ⟨S, hS⟩ : ∃ S, S = C + (x + y) := ⟨_, rfl⟩
      have HS := hide hS
      have s0 : 0 ≤ S := by omega
      have s1 : S < 4294967296 := by omega
      have s2 : S / 65536 ≤ 1 := by omega
      have s3 : 0 ≤ S / 65536 := by omega
      have s4 : k + 1 ≤ L ∨ (k + 1 = L + 1 ∧ S / 65536 = 0) := by first | omega | (have := unhide hx0; omega)
      rw [← hS]
      have HA2 := hide (and_dig32 S s0 s1)
      have H4 := hide s4
      have HZ := hide hdz
      have HK := hide hk
      have HL6 : Hid (zs.length ≤ 2000000) := by show _ ≤ _; omega
      have HSZ := hide hs
      clear hS s4 hdz hk hd he hx0 hkL HA HB l1 l2 l4 hdd hee
      go_wp2_with (at_builtin; refine wpList_append_own_at _ rfl (.tmp 48) (.tmp 51) 157 rfl (w.heap.size + 1 + 1 + 1 + 1) 175 i0 (.int .u32 0) 1 4 Tryz.underlying157 hi hz0 hz1 hz2 rfl (by decide) _ _ _ rfl (World.ownsRow.alloc ho2 _) ⟨w2.heap.size, 0, none⟩ 1 1 [_] rfl rfl (cell_one_new _ _ _) (by intro u hu; simp at hu; subst hu; rfl) (by have := unhide HL6; unfold maxLen; omega) (by have := unhide HL6; omega) (by have := unhide HSZ; simp; omega) ?_; intro v' w3 hown' hgrow _ hat; have hg2 := Grew.app (Grew.refl w2 v) hgrow hat; have hB6 : Below (w.heap.size + 1 + 1 + 1 + 1) w2 w3 := hg2.below (unhide HSZ) (fun g hh => (ownD_lt ho2 hh).1); have ho3 := ownD_app hown'; clear hown' hgrow hat hg2; have hx2 := ownD_dig ho3; obtain ⟨a', q', rfl, hq', hD'⟩ := hx2; have hB7 := hB5.later hB6; have hB8 := hB7; obtain ⟨a0, a1, b0, b1, z0, z1, g0, g1, c0, c1, f1, hs⟩ := hB8)
      rw [unhide HA2] at ho3
      rw [List.length_append, List.length_singleton] at ho3
      refine ⟨⟨k + 1, S / 65536, zs ++ [S % 65536], .slice a' (zs.length + 1) q', rfl, by go_num, by rw [List.length_append, List.length_singleton, unhide HK], unhide H4, s3, s2, (unhide HZ).snoc (Int.emod_nonneg _ (by omega)) (Int.emod_lt_of_pos _ (by omega)), ?_, ho3.put (by simp) _, hB7.put _, ?_⟩, ?_⟩
      · show _ = _
        rw [unhide HN1, unhide HN2]
        exact plus_step zs k (unhide HK) S C x y _ _ (unhide HS) (unhide HV)
      · exact (hbel2.trans (hB6.mono (by omega))).setCell (by simp <;> omega) _
      · have := unhide H4; simp only [intOf]; omega
    · have t1 : ¬ (k : Int) < (ds.length : Int) := by omega
      by_cases h2 : k < es.length
      · have t2 : (k : Int) < (es.length : Int) := by omega
        have hx0 : k < L := by omega
        have hdd := dig_bd hd k
        have hee := dig_bd he k
        have hDa := ha.later hbel
        have hDb := hb.later hbel
        have hk6 : k ≤ 1000000000 := by omega
        have hB4' := hB4
        obtain ⟨a0, a1, b0, b1, z0, z1, g0, g1, c0, c1, f1, hs⟩ := hB4'
        have k0 := cell_regrown a0
        have k1 := cell_regrown a1
        have k2 := cell_regrown b0
        have k3 := cell_regrown b1
        have HA : Hid (∀ d os, Calls Tryz.prog 204 #[.agg #[.bool m, .slice a ds.length ca], .int .i64 k] (grow (redrawn wr d) os) fun e w' => e = .returned (.int .u32 (dig ds k)) ∧ Below (grow (redrawn wr d) os).heap.size (grow (redrawn wr d) os) w') := fun d os => digit_any a ca ds m k _ (by omega) hk6 (hDa.later (below_regrown _ _ _))
        have HB : Hid (∀ d os, Calls Tryz.prog 204 #[.agg #[.bool m, .slice b es.length cb], .int .i64 k] (grow (redrawn wr d) os) fun e w' => e = .returned (.int .u32 (dig es k)) ∧ Below (grow (redrawn wr d) os).heap.size (grow (redrawn wr d) os) w') := fun d os => digit_any b cb es m k _ (by omega) hk6 (hDb.later (below_regrown _ _ _))
        have HN1 := hide (val_next ds k)
        have HN2 := hide (val_next es k)
        generalize dig ds k = x at *
        generalize dig es k = y at *
        clear hDa hDb ha hb
        go_wp2_with fail
        refine wp_region_quiet_below (by kernel_rfl) (by kernel_rfl) ?_
        repeat (go_big_quiet_step (first
          | (go_at_call_of 204 (Value.agg #[Value.bool m, Value.slice a ds.length ca]); exact Calls.regrown_of (unhide HA _ _))
          | (go_at_call_of 204 (Value.agg #[Value.bool m, Value.slice b es.length cb]); exact Calls.regrown_of (unhide HB _ _))))
        refine wpQuiet_nil ?_
        intro w2 hw2
        have hB2 : Below wr.heap.size wr w2 := by obtain ⟨p, rfl⟩ := hw2; exact below_regrown _ _ _
        clear hw2 k0 k1 k2 k3
        have hB5 := hB4.later (hB2.mono hs)
        have hbel2 := below_step hbel hB2
        have ho2 := ho.later hB2
        clear hB4 hB2 hbel ho a0 a1 b0 b1 z0 z1 g0 g1 c0 c1 f1 hs
        have hB5' := hB5
        obtain ⟨a0, a1, b0, b1, z0, z1, g0, g1, c0, c1, f1, hs⟩ := hB5'
        obtain ⟨S, hS⟩ : ∃ S, S = C + (x + y) := ⟨_, rfl⟩
        have HS := hide hS
        have s0 : 0 ≤ S := by omega
        have s1 : S < 4294967296 := by omega
        have s2 : S / 65536 ≤ 1 := by omega
        have s3 : 0 ≤ S / 65536 := by omega
        have s4 : k + 1 ≤ L ∨ (k + 1 = L + 1 ∧ S / 65536 = 0) := by first | omega | (have := unhide hx0; omega)
        rw [← hS]
        have HA2 := hide (and_dig32 S s0 s1)
        have H4 := hide s4
        have HZ := hide hdz
        have HK := hide hk
        have HL6 : Hid (zs.length ≤ 2000000) := by show _ ≤ _; omega
        have HSZ := hide hs
        clear hS s4 hdz hk hd he hx0 hkL HA HB l1 l2 l4 hdd hee
        go_wp2_with (at_builtin; refine wpList_append_own_at _ rfl (.tmp 48) (.tmp 51) 157 rfl (w.heap.size + 1 + 1 + 1 + 1) 175 i0 (.int .u32 0) 1 4 Tryz.underlying157 hi hz0 hz1 hz2 rfl (by decide) _ _ _ rfl (World.ownsRow.alloc ho2 _) ⟨w2.heap.size, 0, none⟩ 1 1 [_] rfl rfl (cell_one_new _ _ _) (by intro u hu; simp at hu; subst hu; rfl) (by have := unhide HL6; unfold maxLen; omega) (by have := unhide HL6; omega) (by have := unhide HSZ; simp; omega) ?_; intro v' w3 hown' hgrow _ hat; have hg2 := Grew.app (Grew.refl w2 v) hgrow hat; have hB6 : Below (w.heap.size + 1 + 1 + 1 + 1) w2 w3 := hg2.below (unhide HSZ) (fun g hh => (ownD_lt ho2 hh).1); have ho3 := ownD_app hown'; clear hown' hgrow hat hg2; have hx2 := ownD_dig ho3; obtain ⟨a', q', rfl, hq', hD'⟩ := hx2; have hB7 := hB5.later hB6; have hB8 := hB7; obtain ⟨a0, a1, b0, b1, z0, z1, g0, g1, c0, c1, f1, hs⟩ := hB8)
        rw [unhide HA2] at ho3
        rw [List.length_append, List.length_singleton] at ho3
        refine ⟨⟨k + 1, S / 65536, zs ++ [S % 65536], .slice a' (zs.length + 1) q', rfl, by go_num, by rw [List.length_append, List.length_singleton, unhide HK], unhide H4, s3, s2, (unhide HZ).snoc (Int.emod_nonneg _ (by omega)) (Int.emod_lt_of_pos _ (by omega)), ?_, ho3.put (by simp) _, hB7.put _, ?_⟩, ?_⟩
        · show _ = _
          rw [unhide HN1, unhide HN2]
          exact plus_step zs k (unhide HK) S C x y _ _ (unhide HS) (unhide HV)
        · exact (hbel2.trans (hB6.mono (by omega))).setCell (by simp <;> omega) _
        · have := unhide H4; simp only [intOf]; omega
      · have t2 : ¬ (k : Int) < (es.length : Int) := by omega
        by_cases h3 : 0 < C
        · have hx0 : Hid (dig ds k = 0 ∧ dig es k = 0) := by show _ ∧ _; simp [dig, List.getElem?_eq_none (Nat.le_of_not_lt h1), List.getElem?_eq_none (Nat.le_of_not_lt h2)]
          have hdd := dig_bd hd k
          have hee := dig_bd he k
          have hDa := ha.later hbel
          have hDb := hb.later hbel
          have hk6 : k ≤ 1000000000 := by omega
          have hB4' := hB4
          obtain ⟨a0, a1, b0, b1, z0, z1, g0, g1, c0, c1, f1, hs⟩ := hB4'
          have k0 := cell_regrown a0
          have k1 := cell_regrown a1
          have k2 := cell_regrown b0
          have k3 := cell_regrown b1
          have HA : Hid (∀ d os, Calls Tryz.prog 204 #[.agg #[.bool m, .slice a ds.length ca], .int .i64 k] (grow (redrawn wr d) os) fun e w' => e = .returned (.int .u32 (dig ds k)) ∧ Below (grow (redrawn wr d) os).heap.size (grow (redrawn wr d) os) w') := fun d os => digit_any a ca ds m k _ (by omega) hk6 (hDa.later (below_regrown _ _ _))
          have HB : Hid (∀ d os, Calls Tryz.prog 204 #[.agg #[.bool m, .slice b es.length cb], .int .i64 k] (grow (redrawn wr d) os) fun e w' => e = .returned (.int .u32 (dig es k)) ∧ Below (grow (redrawn wr d) os).heap.size (grow (redrawn wr d) os) w') := fun d os => digit_any b cb es m k _ (by omega) hk6 (hDb.later (below_regrown _ _ _))
          have HN1 := hide (val_next ds k)
          have HN2 := hide (val_next es k)
          generalize dig ds k = x at *
          generalize dig es k = y at *
          clear hDa hDb ha hb
          go_wp2_with fail
          refine wp_region_quiet_below (by kernel_rfl) (by kernel_rfl) ?_
          repeat (go_big_quiet_step (first
            | (go_at_call_of 204 (Value.agg #[Value.bool m, Value.slice a ds.length ca]); exact Calls.regrown_of (unhide HA _ _))
            | (go_at_call_of 204 (Value.agg #[Value.bool m, Value.slice b es.length cb]); exact Calls.regrown_of (unhide HB _ _))))
          refine wpQuiet_nil ?_
          intro w2 hw2
          have hB2 : Below wr.heap.size wr w2 := by obtain ⟨p, rfl⟩ := hw2; exact below_regrown _ _ _
          clear hw2 k0 k1 k2 k3
          have hB5 := hB4.later (hB2.mono hs)
          have hbel2 := below_step hbel hB2
          have ho2 := ho.later hB2
          clear hB4 hB2 hbel ho a0 a1 b0 b1 z0 z1 g0 g1 c0 c1 f1 hs
          have hB5' := hB5
          obtain ⟨a0, a1, b0, b1, z0, z1, g0, g1, c0, c1, f1, hs⟩ := hB5'
          obtain ⟨S, hS⟩ : ∃ S, S = C + (x + y) := ⟨_, rfl⟩
          have HS := hide hS
          have s0 : 0 ≤ S := by omega
          have s1 : S < 4294967296 := by omega
          have s2 : S / 65536 ≤ 1 := by omega
          have s3 : 0 ≤ S / 65536 := by omega
          have s4 : k + 1 ≤ L ∨ (k + 1 = L + 1 ∧ S / 65536 = 0) := by first | omega | (have := unhide hx0; omega)
          rw [← hS]
          have HA2 := hide (and_dig32 S s0 s1)
          have H4 := hide s4
          have HZ := hide hdz
          have HK := hide hk
          have HL6 : Hid (zs.length ≤ 2000000) := by show _ ≤ _; omega
          have HSZ := hide hs
          clear hS s4 hdz hk hd he hx0 hkL HA HB l1 l2 l4 hdd hee
          go_wp2_with (at_builtin; refine wpList_append_own_at _ rfl (.tmp 48) (.tmp 51) 157 rfl (w.heap.size + 1 + 1 + 1 + 1) 175 i0 (.int .u32 0) 1 4 Tryz.underlying157 hi hz0 hz1 hz2 rfl (by decide) _ _ _ rfl (World.ownsRow.alloc ho2 _) ⟨w2.heap.size, 0, none⟩ 1 1 [_] rfl rfl (cell_one_new _ _ _) (by intro u hu; simp at hu; subst hu; rfl) (by have := unhide HL6; unfold maxLen; omega) (by have := unhide HL6; omega) (by have := unhide HSZ; simp; omega) ?_; intro v' w3 hown' hgrow _ hat; have hg2 := Grew.app (Grew.refl w2 v) hgrow hat; have hB6 : Below (w.heap.size + 1 + 1 + 1 + 1) w2 w3 := hg2.below (unhide HSZ) (fun g hh => (ownD_lt ho2 hh).1); have ho3 := ownD_app hown'; clear hown' hgrow hat hg2; have hx2 := ownD_dig ho3; obtain ⟨a', q', rfl, hq', hD'⟩ := hx2; have hB7 := hB5.later hB6; have hB8 := hB7; obtain ⟨a0, a1, b0, b1, z0, z1, g0, g1, c0, c1, f1, hs⟩ := hB8)
          rw [unhide HA2] at ho3
          rw [List.length_append, List.length_singleton] at ho3
          refine ⟨⟨k + 1, S / 65536, zs ++ [S % 65536], .slice a' (zs.length + 1) q', rfl, by go_num, by rw [List.length_append, List.length_singleton, unhide HK], unhide H4, s3, s2, (unhide HZ).snoc (Int.emod_nonneg _ (by omega)) (Int.emod_lt_of_pos _ (by omega)), ?_, ho3.put (by simp) _, hB7.put _, ?_⟩, ?_⟩
          · show _ = _
            rw [unhide HN1, unhide HN2]
            exact plus_step zs k (unhide HK) S C x y _ _ (unhide HS) (unhide HV)
          · exact (hbel2.trans (hB6.mono (by omega))).setCell (by simp <;> omega) _
          · have := unhide H4; simp only [intOf]; omega
        · have t3 : C = 0 := by omega
          subst t3
          subst hk
          have hx2 := ownD_dig ho
          obtain ⟨a', q', rfl, hq', hD'⟩ := hx2
          have hv : valD zs = valD ds + valD es := plus_end zs ds es _ (Nat.le_of_not_lt h1) (Nat.le_of_not_lt h2) (unhide HV)
          obtain ⟨rs, er, hlr, hdr, hvr, htr⟩ := trim_good zs hdz
          have HR := hide (hvr.trans hv)
          have HD := hide hdr
          have HT := hide htr
          have er0 := er
          have hDt := hD'.take (trimN zs zs.length)
          rw [er] at hDt
          have HC := hide (fun W (h : Below wr.heap.size wr W) => trimmed_any a' q' zs m W (by omega) hq' (hD'.later h))
          have hqr : rs.length ≤ q' := by have := trimN_le zs zs.length; omega
          have hB4' := hB4
          obtain ⟨a0, a1, b0, b1, z0, z1, g0, g1, c0, c1, f1, hs⟩ := hB4'
          rw [← hlr] at HC
          clear hv HV hvr hdr htr hdz hd he ha hb hkL er hlr
          have HC2 := hide (unhide HC wr (Below.refl _ _))
          have HER := hide er0
          clear HC er0
          go_wp2_with fail
          refine (unhide HC2).mono ?_
          rintro e w1 ⟨rfl, hb1⟩
          have hB5 := hB4.later (hb1.mono hs)
          have hB5' := hB5
          obtain ⟨a0, a1, b0, b1, z0, z1, g0, g1, c0, c1, f1, hs⟩ := hB5'
          go_wp2_with fail
          refine bodyPost_ret (v := .agg #[.bool (m && decide (0 < rs.length)), .slice a' rs.length q']) (by simp [results, Tryz.results154, go_sem, *]) rfl ⟨a', q', rs, rfl, hqr, ownD_none ho, ?_, unhide HD, unhide HT, unhide HR, ?_⟩
          · have h := (ownD_at (((ho.later hb1).put (p := ⟨w.heap.size + 1 + 1, 0, none⟩) (by simp) (.bool (m && decide (0 < rs.length)))).put (p := ⟨w.heap.size + 1 + 1, 1, none⟩) (by simp) (.slice a' rs.length q'))).take (trimN zs zs.length)
            rw [unhide HER] at h
            exact h
          · exact ((below_step hbel hb1).setCell (by simp <;> omega) _).setCell (by simp <;> omega) _
end Go.Proofs.YtmjeiepljlepbacGreat

import Derived.Test.YtmjeiepljlepbacGreatKeptA
import Derived.Deep.RegionLaw
set_option linter.unusedSimpArgs false
set_option linter.unusedVariables false
set_option maxRecDepth 100000
namespace Go.Proofs.YtmjeiepljlepbacGreat
open Go.RowKit Go.Sort

theorem PB.grown {w W w1 : World} {ob bs : Nat} {m n o : Bool} {x y v v0 : Value} {zs : List Int} (h : PB w W ob m n o x y v) (ho : OwnD W bs v0 zs) (hbs : w.heap.size ≤ bs) (hg : W.grownBy w1 v0.ownBlock) : PB w w1 ob m n o x y v := by
  have key : ∀ {g nn : Nat} {F : Nat → Value}, W.rowIs g 159 nn F → w1.rowIs g 159 nn F := fun hr => rowIs_grown hr hg (own_ne hr ho (by decide))
  exact ⟨h.below.trans (grown_belowL hg h.below.size fun g e => Nat.le_trans hbs (World.ownsRow.lt ho g e).1), key h.ba, key h.bb, key h.bz, key h.bo, h.ho⟩
theorem PB.put1 {w W : World} {ob : Nat} {m n o : Bool} {x y v : Value} (h : PB w W ob m n o x y v) (u : Value) : PB w (W.setCell ⟨ob, 1, none⟩ u) ob m n o x y u := by
  have := h.ho
  exact ⟨h.below.setCell (by simp; omega) _, h.ba.setOther (by simp; omega) _, h.bb.setOther (by simp; omega) _, h.bz.setOther (by simp; omega) _, box2_set1 h.bo, h.ho⟩
theorem PB.put2 {w W : World} {ob : Nat} {m n o o' : Bool} {x y v : Value} (h : PB w W ob m n o x y v) (u : Value) : PB w ((W.setCell ⟨ob, 0, none⟩ (.bool o')).setCell ⟨ob, 1, none⟩ u) ob m n o' x y u := by
  have := h.ho
  exact ⟨(h.below.setCell (by simp; omega) _).setCell (by simp; omega) _, (h.ba.setOther (by simp; omega) _).setOther (by simp; omega) _, (h.bb.setOther (by simp; omega) _).setOther (by simp; omega) _, (h.bz.setOther (by simp; omega) _).setOther (by simp; omega) _, box2_both h.bo, h.ho⟩
theorem own_lit (w : World) (base : Nat) (hb : base ≤ w.heap.size) (x : Int) : OwnD (w.alloc (.cells #[.int .u32 x] 175)) base (.slice (some ⟨w.heap.size, 0, none⟩) 1 1) [x] :=
  ⟨rfl, .inr ⟨w.heap.size, 1, #[.int .u32 x], rfl, hb, Go.Deep.blk_alloc_new _ _, Nat.le_refl _, by decide, rfl, rfl⟩⟩
theorem drop_dig {es : List Int} {j : Nat} (h : j < es.length) : valD (es.drop j) = dig es j + 65536 * valD (es.drop (j + 1)) := by
  rw [List.drop_eq_getElem_cons h, valD, dig_some (List.getElem?_eq_getElem h)]
theorem mul_step (ps : List Int) (k : Nat) (hk : ps.length = k) (S C x y D : Int) (hS : S = C + x * y) (h : valD ps + 65536 ^ k * C = D * y) :
    valD (ps ++ [S % 65536]) + 65536 ^ (k + 1) * (S / 65536) = (D + 65536 ^ k * x) * y := by
  rw [valD_snoc, hk, Int.pow_succ, Int.mul_assoc, Int.add_assoc, ← Int.mul_add, Int.emod_add_mul_ediv, hS, Int.mul_add, Int.add_mul, Int.mul_assoc]
  omega

theorem long_len {w : World} {s : Value} {z : Int} (h : LongS w s z) (hz : z < 65536 ^ 30) : ∀ b l c, s = .slice b l c → l ≤ 1000000 := by
  obtain ⟨a, c, zs, rfl, h2, h3, h4, h5, h6, rfl⟩ := h
  intro b l c' e
  cases e
  have := fits_len (z := valD zs) h5 h6 (.inl rfl) ⟨by have := valD_nonneg h5; have := pow_pos' 30; omega, hz⟩
  omega
theorem val_ten {ds : List Int} (hd : Digs ds) (hl : ds.length ≤ 10) : 0 ≤ valD ds ∧ valD ds < 65536 ^ 10 := ⟨valD_nonneg hd, Int.lt_of_lt_of_le (valD_lt hd) (pow_mono hl)⟩
theorem mul_ten {x y : Int} (hx : 0 ≤ x ∧ x < 65536 ^ 10) (hy : 0 ≤ y ∧ y < 65536 ^ 10) : 0 ≤ x * y ∧ 65536 * (x * y) < 65536 ^ 29 := by
  refine ⟨Int.mul_nonneg hx.1 hy.1, ?_⟩
  have h1 : x * y ≤ 65536 ^ 10 * 65536 ^ 10 := Int.mul_le_mul (by omega) (by omega) hy.1 (Int.le_of_lt (pow_pos' 10))
  have h2 : (65536 : Int) ^ 10 * 65536 ^ 10 = 65536 ^ 20 := by rw [← Int.pow_add]
  have h3 : (65536 : Int) ^ 29 = 65536 ^ 20 * 65536 ^ 9 := by rw [← Int.pow_add]
  have h4 := pow_pos' 20
  have h5 : (65536 : Int) ^ 9 = 22300745198530623141535718272648361505980416 := by decide
  generalize (65536 : Int) ^ 20 = q at *
  rw [h3, h5]
  omega
theorem digs_drop {ds : List Int} (hd : Digs ds) (n : Nat) : Digs (ds.drop n) := fun x hx => hd x (List.mem_of_mem_drop hx)

/-- An append to the part's list, and its store. -/
theorem part_app {wx wr w3 : World} {o : Obj} {v v' : Value} {ps ys : List Int} (hpb : wr.rowIs wx.heap.size 159 2 (box2 (.bool false) v)) (ho : OwnD wr wx.heap.size v ps) (hbw : Below wx.heap.size wx wr) (ho1 : OwnD w3 wx.heap.size v' ys) (hg : (wr.alloc o).grownBy w3 v.ownBlock) :
    w3.rowIs wx.heap.size 159 2 (box2 (.bool false) v) ∧ (w3.setCell ⟨wx.heap.size, 1, none⟩ v').rowIs wx.heap.size 159 2 (box2 (.bool false) v') ∧ OwnD (w3.setCell ⟨wx.heap.size, 1, none⟩ v') wx.heap.size v' ys ∧ Below wx.heap.size wx (w3.setCell ⟨wx.heap.size, 1, none⟩ v') := by
  have oa := World.ownsRow.alloc ho o
  have hr := rowIs_grown (hpb.alloc o) hg (own_ne (hpb.alloc o) oa (by decide))
  exact ⟨hr, box2_set1 hr, own_set ho1 hr (by decide), ((below_alloc hbw o).trans (grown_belowL hg (below_alloc hbw o).size fun g e => (World.ownsRow.lt oa g e).1)).setCell (by simp) _⟩

def Ten (z : Int) : Prop := -(65536 ^ 10) < z ∧ z < 65536 ^ 10

set_option maxHeartbeats 4000000 in
theorem times_s (a b : Option Addr) (ca cb : Nat) (ds es : List Int) (m n : Bool) (w : World) (hl : ds.length ≤ 10) (hl2 : es.length ≤ 10) (hd : Digs ds) (he : Digs es) (ha : DigAt w a ds) (hb : DigAt w b es) :
    Calls Tryz.prog 157 #[.agg #[.bool m, .slice a ds.length ca], .agg #[.bool n, .slice b es.length cb]] w fun e w' =>
      ∃ s, e = .returned (.agg #[.bool ((m != n) && decide (0 < valD ds * valD es)), s]) ∧ LongS w' s (valD ds * valD es) ∧ Below w.heap.size w w' := by
  obtain ⟨i0, hi, hz0, hz1, hz2⟩ := info_parts Tryz.info175
  have HA := hide ha
  have HB := hide hb
  have HD := hide hd
  have HE := hide he
  clear ha hb hd he
  go_enter Tryz.func157, Tryz.ntmps157
  go_wp2_with fail
  have HPB : Hid (PB w ((((w.alloc (.cells #[.bool m, .slice a ds.length ca] 159)).alloc (.cells #[.bool n, .slice b es.length cb] 159)).alloc (.cells #[.bool false, .slice none 0 0] 159)).alloc (.cells #[.bool false, .slice none 0 0] 159)) (w.heap.size + 1 + 1 + 1) m n false (.slice a ds.length ca) (.slice b es.length cb) (.slice none 0 0)) := by
    obtain ⟨h1, h2, h3, h4⟩ := three_boxes (w := w) (m := m) (n := n) (x := .slice a ds.length ca) (y := .slice b es.length cb) (Below.refl _ _)
    refine ⟨below_alloc h1 _, h2.alloc _, h3.alloc _, h4.alloc _, ?_, by omega⟩
    have := box2_alloc (((w.alloc (.cells #[.bool m, .slice a ds.length ca] 159)).alloc (.cells #[.bool n, .slice b es.length cb] 159)).alloc (.cells #[.bool false, .slice none 0 0] 159)) (.bool false) (.slice none 0 0)
    simpa using this
  go_loopw [6] (fun i wx => ∃ (j : Nat) (s : Value), i = .int .i64 ((j : Int) - 1) ∧ j ≤ es.length ∧ LongS wx s (valD ds * valD (es.drop j)) ∧ PB w wx (w.heap.size + 1 + 1 + 1) m n false (.slice a ds.length ca) (.slice b es.length cb) s) (fun i wx => (intOf i + 1).toNat)
  case atStart => exact ⟨es.length, .slice none 0 0, by first | rfl | go_num, Nat.le_refl _, ⟨none, 0, [], rfl, Nat.le_refl _, fun _ => rfl, .inl rfl, by intro x hx; simp at hx, rfl, by simp [valD]⟩, unhide HPB⟩
  case round =>
    obtain ⟨j, s, rfl, hj, hS, hP⟩ := hrel
    have HS := hide hS
    have HP := hide hP
    by_cases h1 : 0 < j
    · obtain ⟨i, rfl⟩ : ∃ i, j = i + 1 := ⟨j - 1, by omega⟩
      have ei : (((i + 1 : Nat) : Int) - 1) = (i : Int) := by omega
      rw [ei]
      have t1 : (0 : Int) ≤ (i : Int) := by omega
      obtain ⟨c0, c1, f0, f1⟩ := box2_facts hP.bo
      have hbs : w.heap.size ≤ wr.heap.size := hP.below.size
      have hzo : w.heap.size + 1 + 1 + 1 < wr.heap.size := hP.bo.lt
      have HSB := hide hS
      have hx10 := val_ten (unhide HD) hl
      have hy10 := val_ten (digs_drop (unhide HE) (i + 1)) (by rw [List.length_drop]; omega)
      have hm10 := mul_ten hx10 hy10
      have hp29 : (65536 : Int) ^ 29 < 65536 ^ 30 := by decide
      have HZL := hide (long_len hS (by omega))
      have HZ30 : Hid (65536 * (valD ds * valD (es.drop (i + 1))) < 65536 ^ 29) := hm10.2
      generalize hZ : valD ds * valD (es.drop (i + 1)) = Z at *
      have HZZ := hide hZ
      clear hS hP hx10 hy10 hm10 hp29 ei hZ h1
      go_upto_region 6 with (at_builtin; refine wpList_zero_front _ rfl (.tmp 20) (.tmp 22) rfl w.heap.size (.slice (some ⟨wr.heap.size, 0, none⟩) 1 1) s _ rfl rfl (own_lit wr w.heap.size hbs 0) ((unhide HSB).later (below_alloc (Below.refl _ _) _)) (unhide HZL) (by simp; omega) ?_; intro v1 w1 ys ho1 hl1 hd1 hv1 hg1; obtain ⟨a1, q1, e1, hq1, hD1⟩ := ownD_dig ho1; subst e1; have hP1 := ((unhide HP).later (below_alloc (Below.refl _ wr) (.cells #[.int .u32 0] 175))).grown (own_lit wr w.heap.size hbs 0) (Nat.le_refl _) hg1; obtain ⟨c0, c1, f0, f1⟩ := box2_facts hP1.bo)
      have hP2 := hP1.put1 (.slice a1 ys.length q1)
      have ho2 := own_set (j := 1) (u := .slice a1 ys.length q1) ho1 hP1.bo (by decide)
      have HTR := hide (trimmed_s a1 q1 ys false (w1.setCell ⟨w.heap.size + 1 + 1 + 1, 1, none⟩ (.slice a1 ys.length q1)) (by omega) hq1 (ownD_none ho1) hd1 (ownD_at ho2))
      rw [hv1] at HTR
      have HP2 := hide hP2
      clear hP1 hP2 ho1 ho2 hg1 hv1 hd1 hD1 hl1
      go_cut [] (fun wx => ∃ s1, LongS wx s1 (65536 * Z) ∧ PB w wx (w.heap.size + 1 + 1 + 1) m n false (.slice a ds.length ca) (.slice b es.length cb) s1)
      case first =>
        obtain ⟨c0, c1, f0, f1⟩ := box2_facts (unhide HP2).bo
        go_wp2_with (go_at_call 156; refine (unhide HTR).mono ?_; rintro e w2 ⟨s1, rfl, hs1, hb2⟩; have hPx := (unhide HP2).later hb2; obtain ⟨g0, g1, e0, e1⟩ := box2_facts hPx.bo; have hsh := hs1.shape; obtain ⟨a2, l2, q2, e2⟩ := hsh; subst e2)
        go_meet
        exact ⟨_, hs1.set2 hPx.bo ⟨_, _, _, rfl⟩, hPx.put2 _⟩
      case rest =>
        obtain ⟨s1, hs1, hP3⟩ := hcut
        rename World => wx
        have HS1 := hide hs1
        have HP3 := hide hP3
        obtain ⟨a0, a1', _, _⟩ := box2_facts hP3.ba
        have hzx : w.heap.size < wx.heap.size := hP3.ba.lt
        obtain ⟨y, hy⟩ : ∃ y, es[i]? = some y := ⟨_, List.getElem?_eq_getElem (by omega)⟩
        have hyb := (unhide HE).at hy
        have HYY : Hid (valD (es.drop i) = y + 65536 * valD (es.drop (i + 1))) := by show _ = _; rw [drop_dig (by omega), dig_some hy]
        clear hs1 hP3 HTR HP2 HP HS HSB HZL
        go_wp2_with fail
        go_loopw [8, 31] (fun c q wv => ∃ (k : Nat) (C : Int) (ps : List Int) (v : Value), c = .int .u64 C ∧ q = .int .i64 k ∧ ps.length = k ∧ k ≤ ds.length ∧ 0 ≤ C ∧ C ≤ 65535 ∧ Digs ps ∧ Hid (valD ps + 65536 ^ k * C = valD (ds.take k) * y) ∧ OwnD wv wx.heap.size v ps ∧ wv.rowIs wx.heap.size 159 2 (box2 (.bool false) v) ∧ Below wx.heap.size wx wv) (fun c q wv => ds.length - (intOf q).toNat)
        case atStart => exact ⟨0, 0, [], .slice none 0 0, rfl, rfl, rfl, Nat.zero_le _, by omega, by omega, by intro x hx; simp at hx, by show _ = _; simp [valD], World.ownsRow_nil _ _ _ _, box2_alloc _ _ _, below_alloc (Below.refl _ _) _⟩
        case round =>
          obtain ⟨k, C, ps, v, rfl, rfl, hk, hkL, hC0, hC1, hdp, HVV, ho, hpb, hbw⟩ := hrel
          have hPw := (unhide HP3).later hbw
          obtain ⟨b0, b1, _, _⟩ := box2_facts hPw.bb
          obtain ⟨c0, c1, f0, f1⟩ := box2_facts hpb
          by_cases h2 : k < ds.length
          · obtain ⟨x, hx⟩ : ∃ x, ds[k]? = some x := ⟨_, List.getElem?_eq_getElem h2⟩
            have hxb := (unhide HD).at hx
            rcases (unhide HA).later hPw.below with e | ⟨ba, oa, e, hca⟩
            · rw [e] at hx; cases hx
            subst e
            rcases (unhide HB).later hPw.below with e | ⟨bb, ob, e, hcb⟩
            · rw [e] at hy; cases hy
            subst e
            have cx := hca k x hx
            have cy := hcb i y hy
            have HN1 : Hid (valD (ds.take (k + 1)) = valD (ds.take k) + 65536 ^ k * x) := by show _ = _; rw [val_next, dig_some hx]
            have t2 : (k : Int) < (ds.length : Int) := by omega
            have t3 : (i : Int) < (es.length : Int) := by omega
            obtain ⟨hx0, hx1⟩ := hxb
            obtain ⟨hy0, hy1⟩ := hyb
            have hxy : 0 ≤ x * y ∧ x * y ≤ 65535 * 65535 := ⟨Int.mul_nonneg hx0 hy0, Int.mul_le_mul (by omega) (by omega) hy0 (by omega)⟩
            obtain ⟨hp0, hp1⟩ := hxy
            have HO := hide ho
            have HPB2 := hide hpb
            have HBW := hide hbw
            have HK := hide hk
            have HZ := hide hdp
            have hszw := hbw.size
            clear hca hcb hx hy ho hpb hbw hk hdp hPw
            obtain ⟨M, hM⟩ : ∃ M, M = x * y := ⟨_, rfl⟩
            have HM := hide hM
            rw [← hM] at hp0 hp1
            go_upto_region 13 with fail
            rw [← hM]
            obtain ⟨S, hSS⟩ : ∃ S, S = C + M := ⟨_, rfl⟩
            have HSS := hide hSS
            have s0 : 0 ≤ S := by omega
            have s1 : S < 18446744073709551616 := by omega
            have s2 : S / 65536 ≤ 65535 := by omega
            have s3 : 0 ≤ S / 65536 := by omega
            have s5 : 0 ≤ S % 65536 := Int.emod_nonneg _ (by omega)
            have s6 : S % 65536 < 65536 := Int.emod_lt_of_pos _ (by omega)
            rw [← hSS]
            have HA2 := hide (and_dig S s0 s1)
            have HL6 : Hid (ps.length ≤ 10) := by show _ ≤ _; have := unhide HK; omega
            have hO := unhide HO
            have s7 : S % 65536 % 4294967296 = S % 65536 := by omega
            have HS7 := hide s7
            clear hSS hM s7
            go_wp2_with (at_builtin; refine wpList_append_own_at _ rfl (.tmp 47) (.tmp 51) 157 rfl wx.heap.size 175 i0 (.int .u32 0) 1 4 Tryz.underlying157 hi hz0 hz1 hz2 rfl (by decide) _ _ _ rfl (World.ownsRow.alloc hO _) ⟨wr.heap.size, 0, none⟩ 1 1 [_] rfl rfl (cell_one_new _ _ _) (by intro u hu; simp at hu; subst hu; rfl) (by have := unhide HL6; unfold maxLen; omega) (by have := unhide HL6; omega) (by simp; omega) ?_; intro v' w3 hown' hgrow _ hat; have ho3 := ownD_app hown'; obtain ⟨r1, r2, r3, r4⟩ := part_app (unhide HPB2) (unhide HO) (unhide HBW) ho3 hgrow; clear hown' hgrow hat; obtain ⟨a', q', e', hq', hD'⟩ := ownD_dig ho3; subst e'; obtain ⟨g0, g1, e0, e1⟩ := box2_facts r1)
            rw [List.length_append, List.length_singleton] at r2 r3 r4
            rw [unhide HA2, unhide HS7] at r3
            refine ⟨⟨k + 1, S / 65536, ps ++ [S % 65536], .slice a' (ps.length + 1) q', by go_num, by go_num, by rw [List.length_append, List.length_singleton, unhide HK], by omega, s3, s2, (unhide HZ).snoc s5 s6, ?_, r3, r2, r4⟩, ?_⟩
            · show _ = _
              rw [unhide HN1]
              exact mul_step ps k (unhide HK) S C x y _ (by rw [unhide HSS, unhide HM]) (unhide HVV)
            · simp only [intOf]; omega
          · have t2 : ¬ (k : Int) < (ds.length : Int) := by omega
            have ek : k = ds.length := by omega
            have HVF : Hid (valD (ps ++ [C]) = valD ds * y) := by
              show _ = _
              have h := unhide HVV
              rw [ek, List.take_length] at h
              rw [valD_snoc, hk, ek]
              exact h
            have HZ : Hid (Digs (ps ++ [C])) := hdp.snoc hC0 (by omega)
            have HL6 : Hid (ps.length ≤ 10) := by show _ ≤ _; omega
            have HO := hide ho
            have HPB2 := hide hpb
            have HBW := hide hbw
            have s7 : C % 4294967296 = C := by omega
            have HS7 := hide s7
            have hszw := hbw.size
            have hO := ho
            clear hk ek hpb hbw ho hPw hdp s7 HVV
            go_upto_region 17 with (at_builtin; refine wpList_append_own_at _ rfl (.tmp 58) (.tmp 61) 157 rfl wx.heap.size 175 i0 (.int .u32 0) 1 4 Tryz.underlying157 hi hz0 hz1 hz2 rfl (by decide) _ _ _ rfl (World.ownsRow.alloc hO _) ⟨wr.heap.size, 0, none⟩ 1 1 [_] rfl rfl (cell_one_new _ _ _) (by intro u hu; simp at hu; subst hu; rfl) (by have := unhide HL6; unfold maxLen; omega) (by have := unhide HL6; omega) (by simp; omega) ?_; intro v' w3 hown' hgrow _ hat; have ho3 := ownD_app hown'; obtain ⟨r1, r2, r3, r4⟩ := part_app (unhide HPB2) (unhide HO) (unhide HBW) ho3 hgrow; clear hown' hgrow hat; obtain ⟨a', q', e', hq', hD'⟩ := ownD_dig ho3; subst e'; obtain ⟨g0, g1, e0, e1⟩ := box2_facts r1)
            rw [List.length_append, List.length_singleton] at r2 r3 r4
            obtain ⟨W4, hW4⟩ : ∃ W4, W4 = w3.setCell ⟨wx.heap.size, 1, none⟩ (.slice a' (ps.length + 1) q') := ⟨_, rfl⟩
            rw [← hW4] at r2 r3 r4 ⊢
            have hP4 := (unhide HP3).later r4
            have hS4 := (unhide HS1).later r4
            have HZP := hide (mul_ten (val_ten (unhide HD) hl) ⟨hyb.1, by have := hyb.2; have : (65536 : Int) < 65536 ^ 10 := (by decide); omega⟩)
            have HT : Hid (∀ W', Below W4.heap.size W4 W' → Calls Tryz.prog 156 #[.agg #[.bool false, .slice a' (ps.length + 1) q']] W' fun e w'' => ∃ t, e = .returned (.agg #[.bool false, t]) ∧ LongS w'' t (valD ds * y) ∧ Below W'.heap.size W' w'') := fun W' hW => by
              have hDW := (ownD_at r3).later hW
              have := trimmed_s a' q' (ps ++ [C]) false W' (by have := unhide HL6; simp; omega) hq' (ownD_none r3) (unhide HZ) hDW
              rw [List.length_append, List.length_singleton, unhide HVF] at this
              exact this
            have HPL : Hid (∀ W' t, Below W4.heap.size W4 W' → LongS W' t (valD ds * y) → Calls Tryz.prog 154 #[.agg #[.bool false, s1], .agg #[.bool false, t]] W' fun e w'' => ∃ r, e = .returned (.agg #[.bool false, r]) ∧ LongS w'' r (65536 * Z + valD ds * y) ∧ Below W'.heap.size W' w'') := fun W' t hW ht => by
              have z0 := hS4.nonneg
              have z1 := ht.nonneg
              have z2 := unhide HZ30
              have z3 := (unhide HZP).2
              have z4 : (65536 : Int) ^ 29 < 65536 ^ 30 := by decide
              refine (plus_any _ _ (65536 * Z) (valD ds * y) W' ⟨by omega, by omega⟩ ⟨by omega, by omega⟩ (hS4.later hW).long ht.long).mono fun e w'' ⟨v, he, hv, hb⟩ => ?_
              obtain ⟨r, rfl, hr⟩ := hv.plain (by omega)
              exact ⟨r, he, hr, hb⟩
            have HVN : Hid (65536 * Z + valD ds * y = valD ds * valD (es.drop i)) := by
              show _ = _
              rw [unhide HYY, ← unhide HZZ, Int.mul_add, ← Int.mul_assoc, ← Int.mul_assoc, Int.mul_comm 65536 (valD ds)]
              omega
            obtain ⟨x0, x1, _, _⟩ := box2_facts hP4.bo
            obtain ⟨y0, y1, _, _⟩ := box2_facts r2
            have HP4 := hide hP4
            have HR2 := hide r2
            obtain ⟨sa, sl, sc, es1⟩ := hS4.shape
            clear hW4 hS4 hP4 r2 r3 r4 g0 g1 e0 e1 es1
            go_region_with (first
              | (go_at_call 156; refine (unhide HT _ (Below.refl _ _).drew).mono ?_; rintro e w5 ⟨t5, rfl, ht5, hb5⟩; have hB5 := below_step (Below.refl W4.heap.size W4).drew hb5; have hP5 := (unhide HP4).later hB5; obtain ⟨u0, u1, _, _⟩ := box2_facts hP5.bo; clear hb5)
              | (go_at_call 154; refine (unhide HPL _ t5 hB5 ht5).mono ?_; rintro e w6 ⟨r6, rfl, hr6, hb6⟩; have hP6 := hP5.later hb6; obtain ⟨q0, q1, q2, q3⟩ := box2_facts hP6.bo; have hsh := hr6.shape; obtain ⟨ra, rl, rc, er⟩ := hsh; subst er))
            all_goals
              rw [unhide HVN] at hr6
              go_wp2
              go_roundw
              case rel => exact ⟨i, _, by go_num, by omega, hr6.set2 hP6.bo (unhide HS1).shape, hP6.put2 _⟩
              case measure => first | (simp [intOf]; done) | (simp [intOf]; omega)
    · have ej : j = 0 := by omega
      subst ej
      have t1 : (((0 : Nat) : Int) - 1) = -1 := by omega
      rw [t1]
      rw [List.drop_zero] at hS
      obtain ⟨a0, a1, _, _⟩ := box2_facts hP.ba
      obtain ⟨b0, b1, _, _⟩ := box2_facts hP.bb
      obtain ⟨c0, c1, f0, f1⟩ := box2_facts hP.bo
      have hbo1 : (wr.setCell ⟨w.heap.size + 1 + 1 + 1, 0, none⟩ (.bool (m != n))).rowIs (w.heap.size + 1 + 1 + 1) 159 2 (box2 (.bool (m != n)) s) := (hP.bo.set 0 _).congr fun i hi => by
        match i, hi with
        | 0, _ => rfl
        | 1, _ => rfl
      have hS1 := hS.set (j := 0) (u := .bool (m != n)) hP.bo (box2_no hS.shape)
      have hB1 := hP.below.setCell (p := ⟨w.heap.size + 1 + 1 + 1, 0, none⟩) (by simp; omega) (.bool (m != n))
      have hz1 := hP.bz.setOther (a := ⟨w.heap.size + 1 + 1 + 1, 0, none⟩) (by simp) (.bool (m != n))
      obtain ⟨sa, sc, zs, es1, k2, k3, k4, k5, k6, k7⟩ := hS1
      subst es1
      have HT := hide (trimmed_s sa sc zs (m != n) _ (by have := fits_len (z := valD zs) k5 k6 (.inl rfl) ⟨by have := valD_nonneg k5; have := pow_pos' 30; omega, by rw [k7]; have := (mul_ten (val_ten (unhide HD) hl) (val_ten (unhide HE) hl2)).2; have := (mul_ten (val_ten (unhide HD) hl) (val_ten (unhide HE) hl2)).1; have : (65536 : Int) ^ 29 < 65536 ^ 30 := (by decide); omega⟩; omega) k2 k3 k5 k4)
      rw [k7] at HT
      have HB1 := hide hB1
      have HZ1 := hide hz1
      clear hS hP HS HP hB1 hz1 k2 k3 k4 k5 k6 k7 t1 HPB h1 hj
      have HC := hide (box2_facts hbo1)
      obtain ⟨d0, d1, _, _⟩ := unhide HC
      clear hbo1
      go_wp2_with (go_at_call 156; refine (unhide HT).mono ?_; rintro e w2 ⟨t, rfl, ht, hb2⟩; have hz2 := rowIs_later (unhide HZ1) hb2; obtain ⟨z0, z1, y0, y1⟩ := box2_facts hz2; have hsh := ht.shape; obtain ⟨ta, tl, tc, et⟩ := hsh; subst et)
      refine bodyPost_ret (v := .agg #[.bool ((m != n) && decide (0 < valD ds * valD es)), .slice ta tl tc]) (by simp [results, Tryz.results157, go_sem, *]) rfl ⟨_, rfl, ht.set2 hz2 ⟨_, _, _, rfl⟩, ?_⟩
      exact ((below_step (unhide HB1) hb2).setCell (by simp; omega) _).setCell (by simp; omega) _
end Go.Proofs.YtmjeiepljlepbacGreat

import Derived.Test.YtbmeoabafmpacaaCellO
import Derived.Deep.DeepCutAuto
set_option linter.unusedSimpArgs false
set_option linter.unusedVariables false
namespace Go.Proofs.Ytbmeoabafmpacaa
open Go.RowKit Go.Sort

theorem encV_pos (x : Val) : 1 ≤ (toB (encV x)).size := by
  rw [toB_size]
  rcases kinds x with ⟨_, _, ex⟩ | ⟨_, _, ex⟩ | ⟨_, ex⟩ <;> simp [ex]
theorem own_box {w1 w2 : World} {base : Nat} {v : Value} {xs : List Val} {o : Obj} {a b c : Value} (h : OwnV (w1.alloc o) base v xs) (hb : Below (w1.alloc o).heap.size (w1.alloc o) w2) (hlt : ∀ g, v.ownBlock = some g → g < w1.heap.size) :
    OwnV (((w2.setCell ⟨w1.heap.size, 0, none⟩ a).setCell ⟨w1.heap.size, 1, none⟩ b).setCell ⟨w1.heap.size, 2, none⟩ c) base v xs := by
  have h2 := h.later hb
  have hg : ∀ (W : World) (j : Nat) (u : Value), W.grownBy (W.setCell ⟨w1.heap.size, j, none⟩ u) (some w1.heap.size) := by
    intro W j u
    have := (Below.refl w1.heap.size W).setCell (p := ⟨w1.heap.size, j, none⟩) (Nat.le_refl _) u
    exact ⟨this.os, this.tape, this.output, this.size, fun k _ hne => Below.heap_setCell W _ u k (fun e => hne (by rw [e]))⟩
  have hn : v.ownBlock = none ∨ v.ownBlock ≠ some w1.heap.size := by
    cases hv : v.ownBlock with
    | none => exact .inl rfl
    | some g => exact .inr (by have := hlt g hv; intro e; cases e; omega)
  exact World.ownsRow.kept (World.ownsRow.kept (World.ownsRow.kept h2 (hg _ _ _) hn) (hg _ _ _) hn) (hg _ _ _) hn

theorem scan_end (s : ByteArray) (k : Nat) (h : s.size ≤ k) : scanT (dropB s k) = none := by rw [drop_nil s k h]; rfl
theorem scan_other (s : ByteArray) (k : Nat) (h : k < s.size) (h0 : ¬ (s[k].toNat : Int) = 0) : scanT (dropB s k) = (scanT (dropB s (k + 1))).map (s[k] :: ·) := by
  have h0' : ¬ s[k].toNat = 0 := by omega
  rw [drop_cons s k h]
  by_cases h1 : k + 1 < s.size
  · rw [drop_cons s (k + 1) h1, scanT, if_neg h0']
  · rw [drop_nil s (k + 1) (by omega)]; simp [scanT, h0']
theorem scan_stop_end (s : ByteArray) (k : Nat) (h : k + 1 = s.size) (h0 : ((s[k]'(by omega)).toNat : Int) = 0) : scanT (dropB s k) = some [] := by
  have h0' : (s[k]'(by omega)).toNat = 0 := by omega
  rw [drop_cons s k (by omega), drop_nil s (k + 1) (by omega), scanT, if_pos h0']
theorem scan_stop (s : ByteArray) (k : Nat) (h : k + 1 < s.size) (h0 : (s[k].toNat : Int) = 0) (hd : ¬ (s[k + 1].toNat : Int) = 255) : scanT (dropB s k) = some [] := by
  have h0' : s[k].toNat = 0 := by omega
  have hd' : ¬ s[k + 1].toNat = 255 := by omega
  rw [drop_cons s k (by omega), drop_cons s (k + 1) h, scanT, if_pos h0', if_neg hd']
theorem scan_zero (s : ByteArray) (k : Nat) (h : k + 1 < s.size) (h0 : (s[k].toNat : Int) = 0) (hd : (s[k + 1].toNat : Int) = 255) : scanT (dropB s k) = (scanT (dropB s (k + 2))).map (s[k] :: ·) := by
  have h0' : s[k].toNat = 0 := by omega
  have hd' : s[k + 1].toNat = 255 := by omega
  rw [drop_cons s k (by omega), drop_cons s (k + 1) h, scanT, if_pos h0', if_pos hd']
def toN (t : List UInt8) : List Int := t.map (fun c => (c.toNat : Int))
theorem toN_snoc (t : List UInt8) (c : UInt8) : toN (t ++ [c]) = toN t ++ [(c.toNat : Int)] := by simp [toN]
theorem map_snoc (t : List UInt8) (c : UInt8) (o : Option (List UInt8)) : (o.map (c :: ·)).map (t ++ ·) = o.map ((t ++ [c]) ++ ·) := by cases o <;> simp

theorem nul_size : (⟨#[]⟩ : ByteArray).size = 0 := rfl

set_option maxHeartbeats 4000000 in
set_option maxRecDepth 100000 in
theorem rrow_any (s : ByteArray) (w : World) (hs : s.size ≤ 1000000000) :
    Calls Try.prog 30 #[.string s] w fun e w' => GotRow w' w.heap.size (decode s) e ∧ Below w.heap.size w w' := by
  obtain ⟨i0, hi, hz0, hz1, hz2⟩ := info_parts Try.info23
  go_enter Try.func30, Try.ntmps30
  go_wp2_with fail
  go_loopw [4, 5] (fun v key wr => ∃ (s' : ByteArray) (xs : List Val), key = .string s' ∧ xs.length + s'.size ≤ s.size ∧ OwnV wr w.heap.size v xs ∧ Hid (decode s = (decode s').map (xs ++ ·)) ∧ Below w.heap.size w wr) (fun _ key _ => strLen key)
  case atStart => exact ⟨s, [], rfl, by simp, World.ownsRow_nil _ _ _ _, by show _ = _; cases decode s <;> simp, Below.refl _ _⟩
  case round =>
    obtain ⟨s', xs, rfl, hl, ho, HD, hb⟩ := hrel
    by_cases h1 : 0 < s'.size
    · have hne : s'.toList.isEmpty = false := by
        rw [Lib.toList_data]
        cases h : s'.data.toList with
        | nil => have : s'.data.toList.length = 0 := by rw [h]; rfl
                 rw [Array.length_toList] at this; exact absurd h1 (by show ¬ 0 < s'.data.size; omega)
        | cons a l => rfl
      have i1 : (0 : Int) < (s'.size : Int) := by omega
      have hss : (s'.size : Int) ≤ 1000000000 := by omega
      by_cases c2 : (s'[0].toNat : Int) = 2
      · have c2' : ((s'[0].toNat : Int) == 2) = true := by simpa using c2
        by_cases h9 : 9 ≤ s'.size
        · have hcand : cand s' = some (.num (hor (midB s' 8) - 9223372036854775808)) := by
            unfold cand
            rw [drop_cons s' 0 h1]
            simp only
            rw [if_pos (by omega), if_pos h9]
          have hm : (s'.extract 1 9).data.toList = midB s' 8 := by rw [Lib.extract_data]; rfl
          have hz : (s'.extract 1 9).size = 8 := by simp; omega
          have HM := hide (fun w => rnumber_any (s'.extract 1 9) w hz)
          rw [hm] at HM
          have hN : wrap64 (bits BinOp.xor IntKind.u64 (hor (midB s' 8)) 9223372036854775808) = hor (midB s' 8) - 9223372036854775808 := by
            have h1 := hor_lt 8 (midB s' 8) (mid_len s' 8 (by omega))
            have h2 := hor_nonneg (midB s' 8)
            rw [xor_int _ h2 (by omega)]
            unfold wrap64
            omega
          have HR : Hid (∀ w, Calls Try.prog 40 #[.int .i64 (wrap64 (bits BinOp.xor IntKind.u64 (hor (midB s' 8)) 9223372036854775808))] w fun e w' => e = .returned (Val.num (hor (midB s' 8) - 9223372036854775808)).v ∧ Below w.heap.size w w') := by
            intro w
            rw [hN]
            exact rnum_any _ w
          have hxs : (Val.num (hor (midB s' 8) - 9223372036854775808)).s.size ≤ 1000000000 := by show (⟨#[]⟩ : ByteArray).size ≤ _; rw [nul_size]; omega
          clear hm hz hN
          generalize Val.num (hor (midB s' 8) - 9223372036854775808) = x at *
          generalize hor (midB s' 8) = U at *
          have HK := hide (fun b W => rkey_one x b W hxs)
          have HY := hide (dec_yes h1 hcand)
          have HN := hide (dec_no h1 hcand)
          rw [preV_iff] at HY HN
          have i9 : ¬ (s'.size : Int) < 9 := by omega
          clear c2 hcand hxs
          have hk1 := encV_pos x
          generalize toB (encV x) = kx at *
          go_upto_region 21 with (first
            | (go_at_call 42; refine (none_any _).mono ?_; rintro e w1 ⟨rfl, hb1⟩; rw [Val.open_]; simp only [Val.null]; have hbw := below_step hb hb1; have how := ho.later hb1)
            | (go_at_call 64; refine (unhide HM _).mono ?_; rintro e w' ⟨rfl, rfl⟩)
            | (go_at_call 40; refine (unhide HR _).mono ?_; rintro e w2 ⟨rfl, hb2⟩; rw [Val.open_]; obtain ⟨hc2, hf2⟩ := bcell hb2))
          have hlw : w.heap.size ≤ w1.heap.size := hbw.size
          have hbox : BoxAt (((w2.setCell ⟨w1.heap.size, 0, none⟩ (.int .i64 x.k)).setCell ⟨w1.heap.size, 1, none⟩ (.int .i64 x.n)).setCell ⟨w1.heap.size, 2, none⟩ (.string x.s)) w1.heap.size x := ⟨by simp [go_sem, hc2, hf2], by simp [go_sem, hc2, hf2], by simp [go_sem, hc2, hf2]⟩
          have hbW : Below w.heap.size w (((w2.setCell ⟨w1.heap.size, 0, none⟩ (.int .i64 x.k)).setCell ⟨w1.heap.size, 1, none⟩ (.int .i64 x.n)).setCell ⟨w1.heap.size, 2, none⟩ (.string x.s)) := (((below_step (below_alloc hbw _) hb2).setCell hlw _).setCell hlw _).setCell hlw _
          have hoW : OwnV (((w2.setCell ⟨w1.heap.size, 0, none⟩ (.int .i64 x.k)).setCell ⟨w1.heap.size, 1, none⟩ (.int .i64 x.n)).setCell ⟨w1.heap.size, 2, none⟩ (.string x.s)) w.heap.size u4 xs := own_box (how.later (below_alloc (Below.refl _ w1) _)) hb2 (fun g hg => (ownV_lt how hg).2)
          clear hc2 hf2 hb2
          go_cut [9] (fun s9 wx => s9 = .string kx ∧ BoxAt wx w1.heap.size x ∧ OwnV wx w.heap.size u4 xs ∧ Below w.heap.size w wx)
          case first =>
            have hbx := hbox
            obtain ⟨x0, x1, x2⟩ := hbx
            go_wp2_with (go_at_call 28; refine (unhide HK _ _ ?_ ?_ ?_).mono ?_; (simp [go_sem]); (simp [go_sem]); (simp [go_sem]); rintro e w9 ⟨rfl, hb9⟩)
            go_meet
            exact ⟨rfl, (BoxAt.later (BoxAt.later hbox (below_alloc (Below.refl _ _) _)) hb9), (OwnV.later (OwnV.later hoW (below_alloc (Below.refl _ _) _)) hb9), below_step (below_alloc hbW _) hb9⟩
          case rest =>
            obtain ⟨rfl, ⟨y0, y1, y2⟩, ho9, hb9⟩ := hcut
            rename World => wz
            by_cases hp : kx.size ≤ s'.size ∧ s'.extract 0 kx.size = kx
            · have HE : Hid (decode s = (decode (s'.extract kx.size s'.size)).map ((xs ++ [x]) ++ ·)) := by
                show _ = _
                rw [unhide HD, unhide HY hp]
                cases decode (s'.extract kx.size s'.size) <;> simp
              obtain ⟨p1, p2⟩ := hp
              have e1 : ¬ s'.size < kx.size := by omega
              have e1' : ¬ (s'.size : Int) < (kx.size : Int) := by omega
              have e2 : ((s'.extract 0 kx.size).toList == kx.toList) = true := by rw [p2]; simp
              have i3 : (kx.size : Int) ≤ (s'.size : Int) := by omega
              have hxl : xs.length + 1 ≤ 1000000001 := by omega
              clear p2 HN HY HD
              go_wp2_with (at_builtin; refine wpList_append_own_at _ rfl (.tmp 88) (.tmp 90) 30 rfl w.heap.size 23 i0 (.agg #[.int .i64 0, .int .i64 0, .string ⟨#[]⟩]) 3 32 Try.underlying30 hi hz0 hz1 hz2 rfl (by decide) _ _ _ rfl (World.ownsRow.alloc ho9 _) ⟨wz.heap.size, 0, none⟩ 1 1 (c3 x) rfl rfl ?_ (by intro u hu; simp [c3] at hu; rcases hu with rfl | rfl | rfl <;> rfl) (by unfold maxLen; omega) (by omega) (by have := hb9.size; simp; omega) ?_; rotate_right; intro v1 wy hown1 hgrow1 _ hat1; have hg1 := Grew.app (Grew.refl wz u4) hgrow1 hat1; have ho2 := ownV_app hown1; clear hown1 hgrow1 hat1)
              · have hb2 : Below w.heap.size w wy := hb9.trans (hg1.below hb9.size (fun g hg => (ownV_lt ho9 hg).1))
                have hsz : (s'.extract kx.size s'.size).size = s'.size - kx.size := by simp
                clear hg1
                go_roundw
                case rel => exact ⟨_, xs ++ [x], rfl, by rw [hsz, List.length_append, List.length_singleton]; omega, ho2, HE, hb2⟩
                case measure => simp only [strLen]; omega
              · intro j u hj
                match j, hj with
                | 0, hj => simp [c3] at hj; subst hj; simp [Addr.add, go_sem]
                | 1, hj => simp [c3] at hj; subst hj; simp [Addr.add, go_sem]
                | 2, hj => simp [c3] at hj; subst hj; simp [Addr.add, go_sem]
                | j + 3, hj => simp [c3] at hj
            · have HE : Hid (decode s = none) := by show _ = _; rw [unhide HD, unhide HN hp]; rfl
              by_cases p1 : kx.size ≤ s'.size
              · have e1 : ¬ s'.size < kx.size := by omega
                have e1' : ¬ (s'.size : Int) < (kx.size : Int) := by omega
                have e2 : ((s'.extract 0 kx.size).toList == kx.toList) = false := by
                  rw [beq_eq_false_iff_ne]
                  intro h
                  exact hp ⟨p1, WideShapes.bytes_inj (by rw [← Lib.toList_data, ← Lib.toList_data]; exact h)⟩
                have i3 : (kx.size : Int) ≤ (s'.size : Int) := by omega
                clear HN HY HD hp
                go_wp2
                go_ret2
                exact ⟨by rw [unhide HE]; rfl, hb9⟩
              · have e1 : s'.size < kx.size := by omega
                have e1' : (s'.size : Int) < (kx.size : Int) := by omega
                clear HN HY HD hp
                go_wp2
                go_ret2
                exact ⟨by rw [unhide HE]; rfl, hb9⟩
        · have hcand : cand s' = none := by
            unfold cand
            rw [drop_cons s' 0 h1]
            simp only
            rw [if_pos (by omega), if_neg h9]
          have HE : Hid (decode s = none) := by show _ = _; rw [unhide HD, dec_none h1 hcand]; rfl
          have i9 : (s'.size : Int) < 9 := by omega
          clear c2 hcand
          go_wp2_with (go_at_call 42; refine (none_any _).mono ?_; rintro e w1 ⟨rfl, hb1⟩; rw [Val.open_]; simp only [Val.null]; have hbw := below_step hb hb1)
          go_ret2
          exact ⟨by rw [unhide HE]; rfl, below_alloc hbw _⟩
      · have c2' : ((s'[0].toNat : Int) == 2) = false := by simpa using c2
        by_cases c3 : (s'[0].toNat : Int) = 3
        · have c3' : ((s'[0].toNat : Int) == 3) = true := by simpa using c3
          go_wp2_with (go_at_call 42; refine (none_any _).mono ?_; rintro e w1 ⟨rfl, hb1⟩; rw [Val.open_]; simp only [Val.null]; have hbw := below_step hb hb1; have how := ho.later hb1)
          go_loop [7, 8] (fun tx i => ∃ (k : Nat) (t : List UInt8), 1 ≤ k ∧ k ≤ s'.size ∧ t.length ≤ k ∧ i = .int .i64 k ∧ tx = .string (toB (toN t)) ∧ Hid (scanT (dropB s' 1) = (scanT (dropB s' k)).map (t ++ ·))) (fun _ i => s'.size - (intOf i).toNat)
          case atStart => exact ⟨1, [], by omega, by omega, by simp, rfl, rfl, by show _ = _; cases scanT (dropB s' 1) <;> simp⟩
          case round =>
            obtain ⟨k, t, hk1, hk2, ht, rfl, rfl, HS⟩ := hrel
            have z1 : (toB (toN t)).size ≤ 1000000000 := by rw [toB_size]; simp [toN]; omega
            by_cases h8 : k < s'.size
            · have i2 : (k : Int) < (s'.size : Int) := by omega
              have z4 : (s'.extract k (k + 1)).size = 1 := by rw [extract_one _ _ h8, toB_size]; rfl
              by_cases h0 : (s'[k].toNat : Int) = 0
              · have h0' : ((s'[k].toNat : Int) == 0) = true := by simpa using h0
                by_cases h7 : k + 1 < s'.size
                · have i3 : (k : Int) + 1 < (s'.size : Int) := by omega
                  have i4 : ((k : Int) + 1 == (s'.size : Int)) = false := by simp; omega
                  by_cases hd : (s'[k + 1].toNat : Int) = 255
                  · have hd' : ((s'[k + 1].toNat : Int) != 255) = false := by simpa using hd
                    have HS2 : Hid (scanT (dropB s' 1) = (scanT (dropB s' (k + 2))).map ((t ++ [s'[k]]) ++ ·)) := by
                      show _ = _
                      rw [unhide HS, scan_zero s' k h7 h0 hd, map_snoc]
                    have HV : Hid (toB (toN t) ++ s'.extract k (k + 1) = toB (toN (t ++ [s'[k]]))) := by
                      show _ = _
                      rw [extract_one _ _ h8, ← toB_append, toN_snoc]
                    clear h0 hd
                    generalize toB (toN t) = S at *
                    have n2 : ¬ 9223372036854775807 < S.size + (s'.extract k (k + 1)).size := by omega
                    go_wp2
                    go_round
                    case rel => exact ⟨k + 2, t ++ [s'[k]], by omega, by omega, by simp; omega, by go_num, congrArg Value.string (unhide HV), HS2⟩
                    case measure => simp [intOf]; omega
                  · have hd' : ((s'[k + 1].toNat : Int) != 255) = true := by simpa using hd
                    have hcand : cand s' = some (.str (toB (toN t))) := by
                      unfold cand
                      rw [drop_cons s' 0 h1]
                      simp only
                      rw [if_neg (by omega), if_pos (by omega), unhide HS, scan_stop s' k h7 h0 hd]
                      simp [toN]
                    have hxs : (Val.str (toB (toN t))).s.size ≤ 1000000000 := by show (toB (toN t)).size ≤ _; rw [toB_size]; simp [toN]; omega
                    have HR : Hid (∀ w, Calls Try.prog 41 #[.string (toB (toN t))] w fun e w' => e = .returned (Val.str (toB (toN t))).v ∧ Below w.heap.size w w') := fun w => rstr_any _ w
                    generalize Val.str (toB (toN t)) = x at *
                    have HK := hide (fun b W => rkey_one x b W hxs)
                    have HY := hide (dec_yes h1 hcand)
                    have HN := hide (dec_no h1 hcand)
                    rw [preV_iff] at HY HN
                    clear hd
                    clear c2 c3 hcand hxs h0
                    have hk1' := encV_pos x
                    generalize toB (encV x) = kx at *
                    go_upto_region 21 with (go_at_call 41; refine (unhide HR _).mono ?_; rintro e w2 ⟨rfl, hb2⟩; rw [Val.open_]; obtain ⟨hc2, hf2⟩ := bcell hb2)
                    have hlw : w.heap.size ≤ w1.heap.size := hbw.size
                    have hbox : BoxAt (((w2.setCell ⟨w1.heap.size, 0, none⟩ (.int .i64 x.k)).setCell ⟨w1.heap.size, 1, none⟩ (.int .i64 x.n)).setCell ⟨w1.heap.size, 2, none⟩ (.string x.s)) w1.heap.size x := ⟨by simp [go_sem, hc2, hf2], by simp [go_sem, hc2, hf2], by simp [go_sem, hc2, hf2]⟩
                    have hbW : Below w.heap.size w (((w2.setCell ⟨w1.heap.size, 0, none⟩ (.int .i64 x.k)).setCell ⟨w1.heap.size, 1, none⟩ (.int .i64 x.n)).setCell ⟨w1.heap.size, 2, none⟩ (.string x.s)) := (((below_step (below_alloc hbw _) hb2).setCell hlw _).setCell hlw _).setCell hlw _
                    have hoW : OwnV (((w2.setCell ⟨w1.heap.size, 0, none⟩ (.int .i64 x.k)).setCell ⟨w1.heap.size, 1, none⟩ (.int .i64 x.n)).setCell ⟨w1.heap.size, 2, none⟩ (.string x.s)) w.heap.size u4 xs := own_box (how.later (below_alloc (Below.refl _ w1) _)) hb2 (fun g hg => (ownV_lt how hg).2)
                    clear hc2 hf2 hb2
                    go_cut [9] (fun s9 wx => s9 = .string kx ∧ BoxAt wx w1.heap.size x ∧ OwnV wx w.heap.size u4 xs ∧ Below w.heap.size w wx)
                    case first =>
                      have hbx := hbox
                      obtain ⟨x0, x1, x2⟩ := hbx
                      go_wp2_with (go_at_call 28; refine (unhide HK _ _ ?_ ?_ ?_).mono ?_; (simp [go_sem]); (simp [go_sem]); (simp [go_sem]); rintro e w9 ⟨rfl, hb9⟩)
                      go_meet
                      exact ⟨rfl, (BoxAt.later (BoxAt.later hbox (below_alloc (Below.refl _ _) _)) hb9), (OwnV.later (OwnV.later hoW (below_alloc (Below.refl _ _) _)) hb9), below_step (below_alloc hbW _) hb9⟩
                    case rest =>
                      obtain ⟨rfl, ⟨y0, y1, y2⟩, ho9, hb9⟩ := hcut
                      rename World => wz
                      by_cases hp : kx.size ≤ s'.size ∧ s'.extract 0 kx.size = kx
                      · have HE : Hid (decode s = (decode (s'.extract kx.size s'.size)).map ((xs ++ [x]) ++ ·)) := by
                          show _ = _
                          rw [unhide HD, unhide HY hp]
                          cases decode (s'.extract kx.size s'.size) <;> simp
                        obtain ⟨p1, p2⟩ := hp
                        have e1 : ¬ s'.size < kx.size := by omega
                        have e1' : ¬ (s'.size : Int) < (kx.size : Int) := by omega
                        have e2 : ((s'.extract 0 kx.size).toList == kx.toList) = true := by rw [p2]; simp
                        have i3 : (kx.size : Int) ≤ (s'.size : Int) := by omega
                        have hxl : xs.length + 1 ≤ 1000000001 := by omega
                        clear p2 HN HY HD
                        go_wp2_with (at_builtin; refine wpList_append_own_at _ rfl (.tmp 88) (.tmp 90) 30 rfl w.heap.size 23 i0 (.agg #[.int .i64 0, .int .i64 0, .string ⟨#[]⟩]) 3 32 Try.underlying30 hi hz0 hz1 hz2 rfl (by decide) _ _ _ rfl (World.ownsRow.alloc ho9 _) ⟨wz.heap.size, 0, none⟩ 1 1 (c3 x) rfl rfl ?_ (by intro u hu; simp [c3] at hu; rcases hu with rfl | rfl | rfl <;> rfl) (by unfold maxLen; omega) (by omega) (by have := hb9.size; simp; omega) ?_; rotate_right; intro v1 wy hown1 hgrow1 _ hat1; have hg1 := Grew.app (Grew.refl wz u4) hgrow1 hat1; have ho2 := ownV_app hown1; clear hown1 hgrow1 hat1)
                        · have hb2 : Below w.heap.size w wy := hb9.trans (hg1.below hb9.size (fun g hg => (ownV_lt ho9 hg).1))
                          have hsz : (s'.extract kx.size s'.size).size = s'.size - kx.size := by simp
                          clear hg1
                          go_roundw
                          case rel => exact ⟨_, xs ++ [x], rfl, by rw [hsz, List.length_append, List.length_singleton]; omega, ho2, HE, hb2⟩
                          case measure => simp only [strLen]; omega
                        · intro j u hj
                          match j, hj with
                          | 0, hj => simp [c3] at hj; subst hj; simp [Addr.add, go_sem]
                          | 1, hj => simp [c3] at hj; subst hj; simp [Addr.add, go_sem]
                          | 2, hj => simp [c3] at hj; subst hj; simp [Addr.add, go_sem]
                          | j + 3, hj => simp [c3] at hj
                      · have HE : Hid (decode s = none) := by show _ = _; rw [unhide HD, unhide HN hp]; rfl
                        by_cases p1 : kx.size ≤ s'.size
                        · have e1 : ¬ s'.size < kx.size := by omega
                          have e1' : ¬ (s'.size : Int) < (kx.size : Int) := by omega
                          have e2 : ((s'.extract 0 kx.size).toList == kx.toList) = false := by
                            rw [beq_eq_false_iff_ne]
                            intro h
                            exact hp ⟨p1, WideShapes.bytes_inj (by rw [← Lib.toList_data, ← Lib.toList_data]; exact h)⟩
                          have i3 : (kx.size : Int) ≤ (s'.size : Int) := by omega
                          clear HN HY HD hp
                          go_wp2
                          go_ret2
                          exact ⟨by rw [unhide HE]; rfl, hb9⟩
                        · have e1 : s'.size < kx.size := by omega
                          have e1' : (s'.size : Int) < (kx.size : Int) := by omega
                          clear HN HY HD hp
                          go_wp2
                          go_ret2
                          exact ⟨by rw [unhide HE]; rfl, hb9⟩
                · have i4 : ((k : Int) + 1 == (s'.size : Int)) = true := by simp; omega
                  have hcand : cand s' = some (.str (toB (toN t))) := by
                    unfold cand
                    rw [drop_cons s' 0 h1]
                    simp only
                    rw [if_neg (by omega), if_pos (by omega), unhide HS, scan_stop_end s' k (by omega) h0]
                    simp [toN]
                  have hxs : (Val.str (toB (toN t))).s.size ≤ 1000000000 := by show (toB (toN t)).size ≤ _; rw [toB_size]; simp [toN]; omega
                  have HR : Hid (∀ w, Calls Try.prog 41 #[.string (toB (toN t))] w fun e w' => e = .returned (Val.str (toB (toN t))).v ∧ Below w.heap.size w w') := fun w => rstr_any _ w
                  generalize Val.str (toB (toN t)) = x at *
                  have HK := hide (fun b W => rkey_one x b W hxs)
                  have HY := hide (dec_yes h1 hcand)
                  have HN := hide (dec_no h1 hcand)
                  rw [preV_iff] at HY HN
                  skip
                  clear c2 c3 hcand hxs h0
                  have hk1' := encV_pos x
                  generalize toB (encV x) = kx at *
                  go_upto_region 21 with (go_at_call 41; refine (unhide HR _).mono ?_; rintro e w2 ⟨rfl, hb2⟩; rw [Val.open_]; obtain ⟨hc2, hf2⟩ := bcell hb2)
                  have hlw : w.heap.size ≤ w1.heap.size := hbw.size
                  have hbox : BoxAt (((w2.setCell ⟨w1.heap.size, 0, none⟩ (.int .i64 x.k)).setCell ⟨w1.heap.size, 1, none⟩ (.int .i64 x.n)).setCell ⟨w1.heap.size, 2, none⟩ (.string x.s)) w1.heap.size x := ⟨by simp [go_sem, hc2, hf2], by simp [go_sem, hc2, hf2], by simp [go_sem, hc2, hf2]⟩
                  have hbW : Below w.heap.size w (((w2.setCell ⟨w1.heap.size, 0, none⟩ (.int .i64 x.k)).setCell ⟨w1.heap.size, 1, none⟩ (.int .i64 x.n)).setCell ⟨w1.heap.size, 2, none⟩ (.string x.s)) := (((below_step (below_alloc hbw _) hb2).setCell hlw _).setCell hlw _).setCell hlw _
                  have hoW : OwnV (((w2.setCell ⟨w1.heap.size, 0, none⟩ (.int .i64 x.k)).setCell ⟨w1.heap.size, 1, none⟩ (.int .i64 x.n)).setCell ⟨w1.heap.size, 2, none⟩ (.string x.s)) w.heap.size u4 xs := own_box (how.later (below_alloc (Below.refl _ w1) _)) hb2 (fun g hg => (ownV_lt how hg).2)
                  clear hc2 hf2 hb2
                  go_cut [9] (fun s9 wx => s9 = .string kx ∧ BoxAt wx w1.heap.size x ∧ OwnV wx w.heap.size u4 xs ∧ Below w.heap.size w wx)
                  case first =>
                    have hbx := hbox
                    obtain ⟨x0, x1, x2⟩ := hbx
                    go_wp2_with (go_at_call 28; refine (unhide HK _ _ ?_ ?_ ?_).mono ?_; (simp [go_sem]); (simp [go_sem]); (simp [go_sem]); rintro e w9 ⟨rfl, hb9⟩)
                    go_meet
                    exact ⟨rfl, (BoxAt.later (BoxAt.later hbox (below_alloc (Below.refl _ _) _)) hb9), (OwnV.later (OwnV.later hoW (below_alloc (Below.refl _ _) _)) hb9), below_step (below_alloc hbW _) hb9⟩
                  case rest =>
                    obtain ⟨rfl, ⟨y0, y1, y2⟩, ho9, hb9⟩ := hcut
                    rename World => wz
                    by_cases hp : kx.size ≤ s'.size ∧ s'.extract 0 kx.size = kx
                    · have HE : Hid (decode s = (decode (s'.extract kx.size s'.size)).map ((xs ++ [x]) ++ ·)) := by
                        show _ = _
                        rw [unhide HD, unhide HY hp]
                        cases decode (s'.extract kx.size s'.size) <;> simp
                      obtain ⟨p1, p2⟩ := hp
                      have e1 : ¬ s'.size < kx.size := by omega
                      have e1' : ¬ (s'.size : Int) < (kx.size : Int) := by omega
                      have e2 : ((s'.extract 0 kx.size).toList == kx.toList) = true := by rw [p2]; simp
                      have i3 : (kx.size : Int) ≤ (s'.size : Int) := by omega
                      have hxl : xs.length + 1 ≤ 1000000001 := by omega
                      clear p2 HN HY HD
                      go_wp2_with (at_builtin; refine wpList_append_own_at _ rfl (.tmp 88) (.tmp 90) 30 rfl w.heap.size 23 i0 (.agg #[.int .i64 0, .int .i64 0, .string ⟨#[]⟩]) 3 32 Try.underlying30 hi hz0 hz1 hz2 rfl (by decide) _ _ _ rfl (World.ownsRow.alloc ho9 _) ⟨wz.heap.size, 0, none⟩ 1 1 (c3 x) rfl rfl ?_ (by intro u hu; simp [c3] at hu; rcases hu with rfl | rfl | rfl <;> rfl) (by unfold maxLen; omega) (by omega) (by have := hb9.size; simp; omega) ?_; rotate_right; intro v1 wy hown1 hgrow1 _ hat1; have hg1 := Grew.app (Grew.refl wz u4) hgrow1 hat1; have ho2 := ownV_app hown1; clear hown1 hgrow1 hat1)
                      · have hb2 : Below w.heap.size w wy := hb9.trans (hg1.below hb9.size (fun g hg => (ownV_lt ho9 hg).1))
                        have hsz : (s'.extract kx.size s'.size).size = s'.size - kx.size := by simp
                        clear hg1
                        go_roundw
                        case rel => exact ⟨_, xs ++ [x], rfl, by rw [hsz, List.length_append, List.length_singleton]; omega, ho2, HE, hb2⟩
                        case measure => simp only [strLen]; omega
                      · intro j u hj
                        match j, hj with
                        | 0, hj => simp [c3] at hj; subst hj; simp [Addr.add, go_sem]
                        | 1, hj => simp [c3] at hj; subst hj; simp [Addr.add, go_sem]
                        | 2, hj => simp [c3] at hj; subst hj; simp [Addr.add, go_sem]
                        | j + 3, hj => simp [c3] at hj
                    · have HE : Hid (decode s = none) := by show _ = _; rw [unhide HD, unhide HN hp]; rfl
                      by_cases p1 : kx.size ≤ s'.size
                      · have e1 : ¬ s'.size < kx.size := by omega
                        have e1' : ¬ (s'.size : Int) < (kx.size : Int) := by omega
                        have e2 : ((s'.extract 0 kx.size).toList == kx.toList) = false := by
                          rw [beq_eq_false_iff_ne]
                          intro h
                          exact hp ⟨p1, WideShapes.bytes_inj (by rw [← Lib.toList_data, ← Lib.toList_data]; exact h)⟩
                        have i3 : (kx.size : Int) ≤ (s'.size : Int) := by omega
                        clear HN HY HD hp
                        go_wp2
                        go_ret2
                        exact ⟨by rw [unhide HE]; rfl, hb9⟩
                      · have e1 : s'.size < kx.size := by omega
                        have e1' : (s'.size : Int) < (kx.size : Int) := by omega
                        clear HN HY HD hp
                        go_wp2
                        go_ret2
                        exact ⟨by rw [unhide HE]; rfl, hb9⟩
              · have h0' : ((s'[k].toNat : Int) == 0) = false := by simpa using h0
                have HS2 : Hid (scanT (dropB s' 1) = (scanT (dropB s' (k + 1))).map ((t ++ [s'[k]]) ++ ·)) := by
                  show _ = _
                  rw [unhide HS, scan_other s' k h8 h0, map_snoc]
                have HV : Hid (toB (toN t) ++ s'.extract k (k + 1) = toB (toN (t ++ [s'[k]]))) := by
                  show _ = _
                  rw [extract_one _ _ h8, ← toB_append, toN_snoc]
                clear h0
                generalize toB (toN t) = S at *
                have n2 : ¬ 9223372036854775807 < S.size + (s'.extract k (k + 1)).size := by omega
                go_wp2
                go_round
                case rel => exact ⟨k + 1, t ++ [s'[k]], by omega, by omega, by simp; omega, by go_num, congrArg Value.string (unhide HV), HS2⟩
                case measure => simp [intOf]; omega
            · have i2 : (s'.size : Int) ≤ (k : Int) := by omega
              have hcand : cand s' = none := by
                unfold cand
                rw [drop_cons s' 0 h1]
                simp only
                rw [if_neg (by omega), if_pos (by omega), unhide HS, scan_end s' k (by omega)]
                rfl
              have HE : Hid (decode s = none) := by show _ = _; rw [unhide HD, dec_none h1 hcand]; rfl
              clear c2 c3 hcand
              go_wp2
              go_ret2
              exact ⟨by rw [unhide HE]; rfl, below_alloc hbw _⟩
        · have c3' : ((s'[0].toNat : Int) == 3) = false := by simpa using c3
          have hcand : cand s' = some .null := by
            unfold cand
            rw [drop_cons s' 0 h1]
            simp only
            rw [if_neg (by omega), if_neg (by omega)]
          have HX : Hid (∀ w, Calls Try.prog 42 #[] w fun e w' => e = .returned Val.null.v ∧ Below w.heap.size w w') := none_any
          have hxs : Val.null.s.size ≤ 1000000000 := by show (⟨#[]⟩ : ByteArray).size ≤ _; rw [nul_size]; omega
          generalize Val.null = x at *
          have HK := hide (fun b W => rkey_one x b W hxs)
          have HY := hide (dec_yes h1 hcand)
          have HN := hide (dec_no h1 hcand)
          rw [preV_iff] at HY HN
          clear c2 c3 hcand hxs
          have hk1 := encV_pos x
          generalize toB (encV x) = kx at *
          go_upto_region 21 with (go_at_call 42; refine (unhide HX _).mono ?_; rintro e w1 ⟨rfl, hb1⟩; rw [Val.open_]; have hbw := below_step hb hb1; have how := ho.later hb1)
          have hbox : BoxAt (w1.alloc (.cells #[.int .i64 x.k, .int .i64 x.n, .string x.s] 23)) w1.heap.size x := ⟨by simp [go_sem], by simp [go_sem], by simp [go_sem]⟩
          have hbW := below_alloc hbw (.cells #[.int .i64 x.k, .int .i64 x.n, .string x.s] 23)
          have hoW := how.later (below_alloc (Below.refl w1.heap.size w1) (.cells #[.int .i64 x.k, .int .i64 x.n, .string x.s] 23))
          go_cut [9] (fun s9 wx => s9 = .string kx ∧ BoxAt wx w1.heap.size x ∧ OwnV wx w.heap.size u4 xs ∧ Below w.heap.size w wx)
          case first =>
            have hbx := hbox
            obtain ⟨x0, x1, x2⟩ := hbx
            go_wp2_with (go_at_call 28; refine (unhide HK _ _ ?_ ?_ ?_).mono ?_; (simp [go_sem]); (simp [go_sem]); (simp [go_sem]); rintro e w9 ⟨rfl, hb9⟩)
            go_meet
            exact ⟨rfl, (BoxAt.later (BoxAt.later hbox (below_alloc (Below.refl _ _) _)) hb9), (OwnV.later (OwnV.later hoW (below_alloc (Below.refl _ _) _)) hb9), below_step (below_alloc hbW _) hb9⟩
          case rest =>
            obtain ⟨rfl, ⟨y0, y1, y2⟩, ho9, hb9⟩ := hcut
            rename World => wz
            by_cases hp : kx.size ≤ s'.size ∧ s'.extract 0 kx.size = kx
            · have HE : Hid (decode s = (decode (s'.extract kx.size s'.size)).map ((xs ++ [x]) ++ ·)) := by
                show _ = _
                rw [unhide HD, unhide HY hp]
                cases decode (s'.extract kx.size s'.size) <;> simp
              obtain ⟨p1, p2⟩ := hp
              have e1 : ¬ s'.size < kx.size := by omega
              have e1' : ¬ (s'.size : Int) < (kx.size : Int) := by omega
              have e2 : ((s'.extract 0 kx.size).toList == kx.toList) = true := by rw [p2]; simp
              have i3 : (kx.size : Int) ≤ (s'.size : Int) := by omega
              have hxl : xs.length + 1 ≤ 1000000001 := by omega
              clear p2 HN HY HD
              go_wp2_with (at_builtin; refine wpList_append_own_at _ rfl (.tmp 88) (.tmp 90) 30 rfl w.heap.size 23 i0 (.agg #[.int .i64 0, .int .i64 0, .string ⟨#[]⟩]) 3 32 Try.underlying30 hi hz0 hz1 hz2 rfl (by decide) _ _ _ rfl (World.ownsRow.alloc ho9 _) ⟨wz.heap.size, 0, none⟩ 1 1 (c3 x) rfl rfl ?_ (by intro u hu; simp [c3] at hu; rcases hu with rfl | rfl | rfl <;> rfl) (by unfold maxLen; omega) (by omega) (by have := hb9.size; simp; omega) ?_; rotate_right; intro v1 wy hown1 hgrow1 _ hat1; have hg1 := Grew.app (Grew.refl wz u4) hgrow1 hat1; have ho2 := ownV_app hown1; clear hown1 hgrow1 hat1)
              · have hb2 : Below w.heap.size w wy := hb9.trans (hg1.below hb9.size (fun g hg => (ownV_lt ho9 hg).1))
                have hsz : (s'.extract kx.size s'.size).size = s'.size - kx.size := by simp
                clear hg1
                go_roundw
                case rel => exact ⟨_, xs ++ [x], rfl, by rw [hsz, List.length_append, List.length_singleton]; omega, ho2, HE, hb2⟩
                case measure => simp only [strLen]; omega
              · intro j u hj
                match j, hj with
                | 0, hj => simp [c3] at hj; subst hj; simp [Addr.add, go_sem]
                | 1, hj => simp [c3] at hj; subst hj; simp [Addr.add, go_sem]
                | 2, hj => simp [c3] at hj; subst hj; simp [Addr.add, go_sem]
                | j + 3, hj => simp [c3] at hj
            · have HE : Hid (decode s = none) := by show _ = _; rw [unhide HD, unhide HN hp]; rfl
              by_cases p1 : kx.size ≤ s'.size
              · have e1 : ¬ s'.size < kx.size := by omega
                have e1' : ¬ (s'.size : Int) < (kx.size : Int) := by omega
                have e2 : ((s'.extract 0 kx.size).toList == kx.toList) = false := by
                  rw [beq_eq_false_iff_ne]
                  intro h
                  exact hp ⟨p1, WideShapes.bytes_inj (by rw [← Lib.toList_data, ← Lib.toList_data]; exact h)⟩
                have i3 : (kx.size : Int) ≤ (s'.size : Int) := by omega
                clear HN HY HD hp
                go_wp2
                go_ret2
                exact ⟨by rw [unhide HE]; rfl, hb9⟩
              · have e1 : s'.size < kx.size := by omega
                have e1' : (s'.size : Int) < (kx.size : Int) := by omega
                clear HN HY HD hp
                go_wp2
                go_ret2
                exact ⟨by rw [unhide HE]; rfl, hb9⟩
    · have h0 : s'.size = 0 := by omega
      have hne : s'.toList.isEmpty = true := by
        rw [Lib.toList_data]
        have : s'.data.toList = [] := List.eq_nil_of_length_eq_zero (by simpa using h0)
        rw [this]; rfl
      have HE : Hid (decode s = some xs) := by show _ = _; rw [unhide HD, decode_nil s' h0]; simp
      clear h0
      go_wp2
      go_ret2
      exact ⟨by rw [unhide HE]; exact ⟨_, rfl, ho⟩, hb⟩

end Go.Proofs.Ytbmeoabafmpacaa

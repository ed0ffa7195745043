import Derived.Test.YtljebbodcehmpabGreatStbI
import Derived.Test.YtljebbodcehmpabGreatPackI
import Derived.Test.YtljebbodcehmpabGreatOrdA
import Derived.Test.YtljebbodcehmpabGreatPackX
set_option linter.unusedSimpArgs false
set_option linter.unusedVariables false
namespace Go.Proofs.YtljebbodcehmpabGreat
open Go.RowKit Go.Sort

/-- append(nil, values...). -/
theorem wpList_append_vals {ops : Array Oper} {rest : List Oper} {o : Oper} {a : Act} {Q : Exit → Act → World → Prop} (w : World) (hgd : o.guard = none) (s x : Operand) (ho : o.op = .call { callee := .builtin .append, args := #[s, x], argTypes := #[44, 44] })
    (B : Nat) (u : Value) (xs : List Val) (hs : a.eval s = .slice none 0 0) (hx : a.eval x = u) (hu : OwnV w B u xs) (hl : xs.length ≤ 1048576)
    (h : ∀ v' w', OwnV w' w.heap.size v' xs → Below w.heap.size w w' → wpList Tryz.prog ops Q rest (a.put o.dst v') w') : wpList Tryz.prog ops Q (o :: rest) a w := by
  obtain ⟨i4, hi4, z40, z41, z42⟩ := info_parts Tryz.info37
  rcases hu.2 with ⟨rfl, h0⟩ | ⟨g, cap, cur, rfl, hb, hh, hc, hm, hcs, ht⟩
  · have e : xs = [] := List.eq_nil_of_length_eq_zero h0
    subst e
    refine wpList_append_own_none hgd s x 44 ho w.heap.size 37 i4 3 Tryz.underlying44 hi4 (.slice none 0 0) 0 [] hs (World.ownsRow_nil _ _ _ _) hx ?_
    exact h _ w (World.ownsRow_nil _ _ _ _) (Below.refl _ _)
  · refine wpList_append_own_at w hgd s x 44 ho w.heap.size 37 i4 (.agg #[.int .i64 0, .int .i64 0, .string ⟨#[]⟩]) 3 32 Tryz.underlying44 hi4 z40 z41 z42 rfl (by decide) (.slice none 0 0) 0 [] hs (World.ownsRow_nil _ _ _ _) ⟨g, 0, none⟩ xs.length cap (xs.flatMap c3) hx (flat_len xs) (World.ownsRow.cells hu rfl) (c3_all xs) (by unfold maxLen; omega) (by omega) (Nat.le_refl _) ?_
    intro v' w' h1 h2 _ hat
    refine h v' w' ?_ (grown_below (B := w.heap.size) h2 (Nat.le_refl _) (fun g hg => by simp [Value.ownBlock] at hg))
    unfold OwnV
    simpa using h1
/-- Of the first k those that are not as great as the one ahead of them. -/
def unlT (xs : List Val) : Nat → List Val
  | 0 => []
  | k + 1 => unlT xs k ++ (if k = 0 ∨ ordV (atL xs k) (atL xs (k - 1)) ≠ 0 then [atL xs k] else [])
theorem unlT_len (xs : List Val) : ∀ k, (unlT xs k).length ≤ k
  | 0 => Nat.le_refl _
  | k + 1 => by
    rw [unlT, List.length_append]
    have := unlT_len xs k
    split <;> simp <;> omega
theorem unl_comp {xs : List Val} (hc : ∀ x ∈ xs, cleanV x = x) : ∀ k, k < xs.length → unlT xs (k + 1) = compT xs k
  | 0, h => by
    rw [unlT, unlT, compT, if_pos (.inl rfl), List.nil_append, List.take_one, List.head?_eq_getElem?, atL_some h]
    rfl
  | k + 1, h => by
    rw [unlT, unl_comp hc k (by omega), comp_next (atL_some h) (atL_some (by omega : k < xs.length))]
    congr 1
    rw [Nat.add_sub_cancel]
    have m1 : atL xs (k + 1) ∈ xs := List.mem_of_getElem? (atL_some h)
    have m2 : atL xs k ∈ xs := List.mem_of_getElem? (atL_some (by omega : k < xs.length))
    by_cases hs : sameB (atL xs (k + 1)) (atL xs k) = true
    · rw [if_pos hs, if_neg]
      have e := sameB_eq.1 hs
      rw [e, ord_self]
      simp
    · rw [if_neg hs, if_pos]
      right
      intro h0
      have := ord_eq h0
      rw [hc _ m1, hc _ m2] at this
      exact hs (sameB_eq.2 this)
theorem unl_compL {xs : List Val} (hc : ∀ x ∈ xs, cleanV x = x) : unlT xs xs.length = compL xs := by
  unfold compL
  cases h : xs.length with
  | zero =>
    have : xs = [] := List.eq_nil_of_length_eq_zero h
    subst this
    rfl
  | succ k => rw [Nat.add_sub_cancel]; exact unl_comp hc k (by omega)

set_option maxHeartbeats 8000000 in
set_option maxRecDepth 100000 in
theorem unlike_any (base : Nat) (xs : List Val) (vv : Value) (w : World) (hl : xs.length ≤ 1048576) (ha : OwnV w base vv xs) :
    Calls Tryz.prog 28 #[vv] w fun e w' => ∃ S v', e = .returned v' ∧ Hid (S.Perm xs ∧ Rises S) ∧ OwnV w' w.heap.size v' (unlT S S.length) ∧ Below w.heap.size w w' := by
  obtain ⟨i4, hi4, z40, z41, z42⟩ := info_parts Tryz.info37
  have HA := hide ha
  have H65 : Hid (∀ W a8 c8, Hid (OwnV W w.heap.size (.slice a8 xs.length c8) xs ∧ Below w.heap.size w W) → Calls Tryz.prog 65 #[.iface 44 (.slice a8 xs.length c8), .func (.func 66) #[] #[.pointer (some ⟨W.heap.size, 0, none⟩)]] (W.alloc (.cells #[.slice a8 xs.length c8] 44)) fun e w' => e = .returned (.tuple #[]) ∧ ∃ S, Hid (S.length = xs.length) ∧ Hid (S.Perm xs ∧ Rises S) ∧ Hid (RowAt w' a8 S) ∧ w'.cell? ⟨W.heap.size, 0, none⟩ = some (.slice a8 xs.length c8) ∧ Hid (Below w.heap.size w w')) := fun W a8 c8 ⟨h1, h2⟩ => by
    have bl := below_alloc (Below.refl _ W) (.cells #[.slice a8 xs.length c8] 44)
    have hne : (Value.slice a8 xs.length c8).ownBlock ≠ some W.heap.size := fun e => by have := (World.ownsRow.lt h1 _ e).2; omega
    have hbx : (W.alloc (.cells #[.slice a8 xs.length c8] 44)).cell? ⟨W.heap.size, 0, none⟩ = some (.slice a8 xs.length c8) := by simp [go_sem]
    refine (slicestable_any w.heap.size W.heap.size xs _ _ hl (h1.later bl) hbx hne).mono ?_
    rintro e w' ⟨rfl, S, o1, o2, o3, o4⟩
    obtain ⟨a9, c9, e9, _, _, hr⟩ := ownV_slice o1
    injection e9 with e9 _ _
    subst e9
    refine ⟨rfl, S, o3.length_eq, ⟨o3, o4⟩, hr, ?_, ?_⟩
    · rw [grew_kept o2 (by simp) hne]; exact hbx
    · exact (below_step h2 bl).trans (o2.below (by have := h2.size; simp; omega) fun g e => (World.ownsRow.lt h1 g e).1)
  clear ha
  go_enter Tryz.func28, Tryz.ntmps28
  go_wp2_with (first
    | (at_builtin; refine wpList_append_vals _ rfl _ (.tmp 7) rfl base vv xs rfl rfl (unhide HA) hl ?_; intro v8 w1 q1 q2; obtain ⟨a8, c8, rfl, _⟩ := ownV_slice q1; have Q1 := hide (show OwnV w1 w.heap.size (.slice a8 xs.length c8) xs ∧ Below w.heap.size w w1 from ⟨q1, q2⟩); clear q1 q2)
    | (go_at_call 65; refine (unhide H65 _ _ _ Q1).mono ?_; rintro e w2 ⟨rfl, S, HSL, HS, hrS, cB, HB2⟩)
    | fail)
  have HCB := hide cB
  have hltB : w1.heap.size < w2.heap.size := World.block_lt_of_cell? _ _ cB
  clear cB
  go_loopw [4, 15] (fun s4 s wr => ∃ k : Nat, k ≤ xs.length ∧ s = .int .i64 (k : Int) ∧ OwnV wr w2.heap.size s4 (unlT S k) ∧ Below w2.heap.size w2 wr) (fun _ s _ => xs.length - (intOf s).toNat)
  case atStart => exact ⟨0, Nat.zero_le _, rfl, World.ownsRow_nil _ _ _ _, Below.refl _ _⟩
  case round =>
    obtain ⟨k, hk, rfl, ho, hb⟩ := hrel
    by_cases h8 : k < xs.length
    · have h9 : (k : Int) < (xs.length : Int) := by omega
      have hkS : k < S.length := by rw [unhide HSL]; exact h8
      have hx := atL_some hkS
      rcases (unhide hrS).later hb with e | ⟨b, off, rfl, hc⟩
      · rw [e] at hkS; simp at hkS
      obtain ⟨c0, c1, c2⟩ := hc k _ hx
      have hlen : (unlT S k).length ≤ 1048576 := by have := unlT_len S k; omega
      have HLEN := hide hlen
      have hsz := hb.size
      have cB := cell_later hb (unhide HCB)
      have bl := below_alloc (Below.refl _ wr) (.cells #[.int .i64 (atL S k).k, .int .i64 (atL S k).n, .string (atL S k).s] 37)
      have ho1 := ho.later bl
      have HB1 := hide (below_step hb bl)
      have HU : Hid (unlT S (k + 1) = unlT S k ++ (if k = 0 ∨ ordV (atL S k) (atL S (k - 1)) ≠ 0 then [atL S k] else [])) := rfl
      by_cases hk0 : k = 0
      · have HN : Hid (unlT S (k + 1) = unlT S k ++ [atL S k]) := by
          show _ = _
          rw [unhide HU, if_pos (.inl hk0)]
        have HE0 : Hid (((k : Int) == 0) = true) := by show _ = _; simp; omega
        generalize atL S k = x at *
        clear hc hx ho hb hlen hkS HU hk0
        go_upto_region 7 with fail
        obtain ⟨W, hW⟩ : ∃ W, Hid (W = wr.alloc (.cells #[.int .i64 x.k, .int .i64 x.n, .string x.s] 37)) := ⟨_, rfl⟩
        have b0 : W.cell? ⟨wr.heap.size, 0, none⟩ = some (.int .i64 x.k) := by rw [unhide hW]; simp [go_sem]
        have b1 : W.cell? ⟨wr.heap.size, 1, none⟩ = some (.int .i64 x.n) := by rw [unhide hW]; simp [go_sem]
        have b2 : W.cell? ⟨wr.heap.size, 2, none⟩ = some (.string x.s) := by rw [unhide hW]; simp [go_sem]
        rw [← unhide hW] at ho1 HB1 ⊢
        have HO1 := hide ho1
        clear hW c0 c1 c2 bl ho1 cB
        go_cut [31] (fun s31 wx => s31 = .bool true ∧ Below W.heap.size W wx)
        case first =>
          have e0 := unhide HE0
          refine wp_region_quiet_below (by kernel_rfl) (by kernel_rfl) ?_
          repeat (go_big_quiet_step (first
            | (go_at_call 33; exact Calls.regrown_of (rorder_any x x _))))
          refine wpQuiet_nil ?_
          intro w' hw'
          have hB : Below W.heap.size W w' := by obtain ⟨p, rfl⟩ := hw'; exact below_regrown _ _ _
          clear hw'
          go_wp2
          go_meet
          exact ⟨rfl, hB⟩
        case rest =>
          obtain ⟨rfl, hbx⟩ := hcut
          rename World => wx
          have HOX := hide ((unhide HO1).later hbx)
          have HBX := hide (below_step (unhide HB1) hbx)
          replace b0 := cell_later hbx b0
          replace b1 := cell_later hbx b1
          replace b2 := cell_later hbx b2
          clear hbx
          go_wp2_with (at_builtin; refine wpList_append_own_at _ rfl (.tmp 32) (.tmp 34) 44 rfl w2.heap.size 37 i4 (.agg #[.int .i64 0, .int .i64 0, .string ⟨#[]⟩]) 3 32 Tryz.underlying44 hi4 z40 z41 z42 rfl (by decide) _ _ _ rfl (World.ownsRow.alloc (unhide HOX) _) ⟨wx.heap.size, 0, none⟩ 1 1 (c3 x) rfl rfl (cells3_new wx x) (c3_one _) (by have := unhide HLEN; unfold maxLen; omega) (by have := unhide HLEN; omega) (by have := (unhide HBX).size; simp; omega) ?_; intro v1 w3 hown1 hgrow1 _ hat1; have ho3 := hide (ownV_app hown1); have hgr : Hid ((wx.alloc (.cells #[.int .i64 x.k, .int .i64 x.n, .string x.s] 37)).grownBy w3 u4.ownBlock) := hgrow1; clear hown1 hgrow1 hat1)
          go_roundw
          case rel => exact ⟨k + 1, by omega, by go_num, by rw [unhide HN]; exact unhide ho3, own_below (unhide HBX) (unhide HOX) (Nat.le_refl _) (unhide hgr)⟩
          case measure => first | (simp [intOf]; done) | (simp only [intOf]; omega)
      · have hp := atL_some (show k - 1 < S.length by omega)
        obtain ⟨d0, d1, d2⟩ := hc (k - 1) _ hp
        have HO := hide (fun W' => rorder_any (atL S k) (atL S (k - 1)) W')
        rw [Val.open_, Val.open_] at HO
        have ek : (k : Int) - 1 = ((k - 1 : Nat) : Int) := by omega
        have i7 : ((k - 1 : Nat) : Int) < (xs.length : Int) := by omega
        have e0 : ((k : Int) == 0) = false := by simp; omega
        generalize ordV (atL S k) (atL S (k - 1)) = O at *
        generalize atL S k = x at *
        generalize atL S (k - 1) = y at *
        generalize hk1 : k - 1 = k1 at *
        clear hc hx hp ho hb hlen hkS
        go_upto_region 7 with fail
        obtain ⟨W, hW⟩ : ∃ W, Hid (W = wr.alloc (.cells #[.int .i64 x.k, .int .i64 x.n, .string x.s] 37)) := ⟨_, rfl⟩
        have b0 : W.cell? ⟨wr.heap.size, 0, none⟩ = some (.int .i64 x.k) := by rw [unhide hW]; simp [go_sem]
        have b1 : W.cell? ⟨wr.heap.size, 1, none⟩ = some (.int .i64 x.n) := by rw [unhide hW]; simp [go_sem]
        have b2 : W.cell? ⟨wr.heap.size, 2, none⟩ = some (.string x.s) := by rw [unhide hW]; simp [go_sem]
        have blW : Below wr.heap.size wr W := by rw [unhide hW]; exact bl
        replace d0 := cell_later blW d0
        replace d1 := cell_later blW d1
        replace d2 := cell_later blW d2
        replace cB := cell_later blW cB
        rw [← unhide hW] at ho1 HB1 ⊢
        have HO1 := hide ho1
        clear hW c0 c1 c2 bl blW ho1
        go_cut [31] (fun s31 wx => s31 = .bool (O != 0) ∧ Below W.heap.size W wx)
        case first =>
          have k0 := cell_regrown b0
          have k1 := cell_regrown b1
          have k2 := cell_regrown b2
          have k3 := cell_regrown d0
          have k4 := cell_regrown d1
          have k5 := cell_regrown d2
          have k6 := cell_regrown cB
          clear b0 b1 b2 d0 d1 d2 cB
          refine wp_region_quiet_below (by kernel_rfl) (by kernel_rfl) ?_
          repeat (go_big_quiet_step (first
            | (go_at_call 33; exact Calls.regrown_of (unhide HO _))))
          refine wpQuiet_nil ?_
          intro w' hw'
          have hB : Below W.heap.size W w' := by obtain ⟨p, rfl⟩ := hw'; exact below_regrown _ _ _
          clear hw'
          go_wp2
          go_meet
          exact ⟨rfl, hB⟩
        case rest =>
          obtain ⟨rfl, hbx⟩ := hcut
          rename World => wx
          have HOX := hide ((unhide HO1).later hbx)
          have HBX := hide (below_step (unhide HB1) hbx)
          replace b0 := cell_later hbx b0
          replace b1 := cell_later hbx b1
          replace b2 := cell_later hbx b2
          clear hbx d0 d1 d2 cB
          rcases Bool.eq_false_or_eq_true (O != 0) with e1 | e1
          · have HN : Hid (unlT S (k + 1) = unlT S k ++ [x]) := by
              show _ = _
              rw [unhide HU, if_pos (.inr (by simpa using e1))]
            rw [e1]
            clear HU e1
            go_wp2_with (at_builtin; refine wpList_append_own_at _ rfl (.tmp 32) (.tmp 34) 44 rfl w2.heap.size 37 i4 (.agg #[.int .i64 0, .int .i64 0, .string ⟨#[]⟩]) 3 32 Tryz.underlying44 hi4 z40 z41 z42 rfl (by decide) _ _ _ rfl (World.ownsRow.alloc (unhide HOX) _) ⟨wx.heap.size, 0, none⟩ 1 1 (c3 x) rfl rfl (cells3_new wx x) (c3_one _) (by have := unhide HLEN; unfold maxLen; omega) (by have := unhide HLEN; omega) (by have := (unhide HBX).size; simp; omega) ?_; intro v1 w3 hown1 hgrow1 _ hat1; have ho3 := hide (ownV_app hown1); have hgr : Hid ((wx.alloc (.cells #[.int .i64 x.k, .int .i64 x.n, .string x.s] 37)).grownBy w3 u4.ownBlock) := hgrow1; clear hown1 hgrow1 hat1)
            go_roundw
            case rel => exact ⟨k + 1, by omega, by go_num, by rw [unhide HN]; exact unhide ho3, own_below (unhide HBX) (unhide HOX) (Nat.le_refl _) (unhide hgr)⟩
            case measure => first | (simp [intOf]; done) | (simp only [intOf]; omega)
          · have HN : Hid (unlT S (k + 1) = unlT S k) := by
              show _ = _
              rw [unhide HU, if_neg (by rintro (h | h); exact hk0 h; simp at e1; exact h e1), List.append_nil]
            rw [e1]
            clear HU e1
            go_wp2
            go_roundw
            case rel => exact ⟨k + 1, by omega, by go_num, by rw [unhide HN]; exact unhide HOX, unhide HBX⟩
            case measure => first | (simp [intOf]; done) | (simp only [intOf]; omega)
    · have h9 : ¬ (k : Int) < (xs.length : Int) := by omega
      have hk8 : k = S.length := by rw [unhide HSL]; omega
      rw [hk8] at ho
      have HO := hide ho
      have HB := hide (below_step (unhide HB2) hb)
      have HZ := hide (unhide HB2).size
      clear ho hb hk8
      go_wp2
      go_ret
      exact ⟨S, _, rfl, HS, own_mono (unhide HO) (unhide HZ), unhide HB⟩
end Go.Proofs.YtljebbodcehmpabGreat

import Derived.Test.YthbfomcmjjnikaaGreatStbH
import Derived.Test.YthbfomcmjjnikaaGreatPackH
import Derived.Test.YthbfomcmjjnikaaGreatPackS
import Derived.Test.YthbfomcmjjnikaaGreatPackW
import Derived.Test.YthbfomcmjjnikaaGreatPackY
set_option linter.unusedSimpArgs false
set_option linter.unusedVariables false
namespace Go.Proofs.YthbfomcmjjnikaaGreat
open Go.RowKit Go.Sort

/-- append(nil, values...). -/
theorem wpList_append_vals {ops : Array Oper} {rest : List Oper} {o : Oper} {a : Act} {Q : Exit → Act → World → Prop} (w : World) (hgd : o.guard = none) (s x : Operand) (ho : o.op = .call { callee := .builtin .append, args := #[s, x], argTypes := #[37, 37] })
    (B : Nat) (u : Value) (xs : List Val) (hs : a.eval s = .slice none 0 0) (hx : a.eval x = u) (hu : OwnV w B u xs) (hl : xs.length ≤ 1048576)
    (h : ∀ v' w', OwnV w' w.heap.size v' xs → Below w.heap.size w w' → wpList Tryz.prog ops Q rest (a.put o.dst v') w') : wpList Tryz.prog ops Q (o :: rest) a w := by
  obtain ⟨i4, hi4, z40, z41, z42⟩ := info_parts Tryz.info59
  rcases hu.2 with ⟨rfl, h0⟩ | ⟨g, cap, cur, rfl, hb, hh, hc, hm, hcs, ht⟩
  · have e : xs = [] := List.eq_nil_of_length_eq_zero h0
    subst e
    refine wpList_append_own_none hgd s x 37 ho w.heap.size 59 i4 3 Tryz.underlying37 hi4 (.slice none 0 0) 0 [] hs (World.ownsRow_nil _ _ _ _) hx ?_
    exact h _ w (World.ownsRow_nil _ _ _ _) (Below.refl _ _)
  · refine wpList_append_own_at w hgd s x 37 ho w.heap.size 59 i4 (.agg #[.int .i64 0, .int .i64 0, .string ⟨#[]⟩]) 3 32 Tryz.underlying37 hi4 z40 z41 z42 rfl (by decide) (.slice none 0 0) 0 [] hs (World.ownsRow_nil _ _ _ _) ⟨g, 0, none⟩ xs.length cap (xs.flatMap c3) hx (flat_len xs) (World.ownsRow.cells hu rfl) (c3_all xs) (by unfold maxLen; omega) (by omega) (Nat.le_refl _) ?_
    intro v' w' h1 h2 _ hat
    refine h v' w' ?_ (grown_below (B := w.heap.size) h2 (Nat.le_refl _) (fun g hg => by simp [Value.ownBlock] at hg))
    unfold OwnV
    simpa using h1
/-- Of the first k those that are not as great as the one ahead of them. -/
def unlT (xs : List Val) : Nat → List Val
  | 0 => []
  | k + 1 => unlT xs k ++ (if k = 0 ∨ ordV (atL xs k) (atL xs (k - 1)) ≠ 0 then [atL xs k] else [])
theorem unlT_len (xs : List Val) : ∀ k, (unlT xs k).length ≤ k
  | 0 => Nat.le_refl _
  | k + 1 => by
    rw [unlT, List.length_append]
    have := unlT_len xs k
    split <;> simp <;> omega
theorem unl_comp {xs : List Val} (hc : ∀ x ∈ xs, cleanV x = x) : ∀ k, k < xs.length → unlT xs (k + 1) = compT xs k
  | 0, h => by
    rw [unlT, unlT, compT, if_pos (.inl rfl), List.nil_append, List.take_one, List.head?_eq_getElem?, atL_some h]
    rfl
  | k + 1, h => by
    rw [unlT, unl_comp hc k (by omega), comp_next (atL_some h) (atL_some (by omega : k < xs.length))]
    congr 1
    rw [Nat.add_sub_cancel]
    have m1 : atL xs (k + 1) ∈ xs := List.mem_of_getElem? (atL_some h)
    have m2 : atL xs k ∈ xs := List.mem_of_getElem? (atL_some (by omega : k < xs.length))
    by_cases hs : sameB (atL xs (k + 1)) (atL xs k) = true
    · rw [if_pos hs, if_neg]
      have e := sameB_eq.1 hs
      rw [e, ord_self]
      simp
    · rw [if_neg hs, if_pos]
      right
      intro h0
      have := ord_eq h0
      rw [hc _ m1, hc _ m2] at this
      exact hs (sameB_eq.2 this)
theorem unl_compL {xs : List Val} (hc : ∀ x ∈ xs, cleanV x = x) : unlT xs xs.length = compL xs := by
  unfold compL
  cases h : xs.length with
  | zero =>
    have : xs = [] := List.eq_nil_of_length_eq_zero h
    subst this
    rfl
  | succ k => rw [Nat.add_sub_cancel]; exact unl_comp hc k (by omega)

set_option maxHeartbeats 8000000 in
set_option maxRecDepth 100000 in
theorem unlike_any (base : Nat) (xs : List Val) (vv : Value) (w : World) (hl : xs.length ≤ 1048576) (ha : OwnV w base vv xs) :
    Calls Tryz.prog 64 #[vv] w fun e w' => ∃ S v', e = .returned v' ∧ Hid (S.Perm xs ∧ Rises S) ∧ OwnV w' w.heap.size v' (unlT S S.length) ∧ Below w.heap.size w w' := by
  obtain ⟨i4, hi4, z40, z41, z42⟩ := info_parts Tryz.info59
  have HA := hide ha
  have H65 : Hid (∀ W a8 c8, Hid (OwnV W w.heap.size (.slice a8 xs.length c8) xs ∧ Below w.heap.size w W) → Calls Tryz.prog 88 #[.iface 37 (.slice a8 xs.length c8), .func (.func 89) #[] #[.pointer (some ⟨W.heap.size, 0, none⟩)]] (W.alloc (.cells #[.slice a8 xs.length c8] 37)) fun e w' => e = .returned (.tuple #[]) ∧ ∃ S, Hid (S.length = xs.length) ∧ Hid (S.Perm xs ∧ Rises S) ∧ Hid (RowAt w' a8 S) ∧ w'.cell? ⟨W.heap.size, 0, none⟩ = some (.slice a8 xs.length c8) ∧ Hid (Below w.heap.size w w')) := fun W a8 c8 ⟨h1, h2⟩ => by
    have bl := below_alloc (Below.refl _ W) (.cells #[.slice a8 xs.length c8] 37)
    have hne : (Value.slice a8 xs.length c8).ownBlock ≠ some W.heap.size := fun e => by have := (World.ownsRow.lt h1 _ e).2; omega
    have hbx : (W.alloc (.cells #[.slice a8 xs.length c8] 37)).cell? ⟨W.heap.size, 0, none⟩ = some (.slice a8 xs.length c8) := by simp [go_sem]
    refine (slicestable_any w.heap.size W.heap.size xs _ _ hl (h1.later bl) hbx hne).mono ?_
    rintro e w' ⟨rfl, S, o1, o2, o3, o4⟩
    obtain ⟨a9, c9, e9, _, _, hr⟩ := ownV_slice o1
    injection e9 with e9 _ _
    subst e9
    refine ⟨rfl, S, o3.length_eq, ⟨o3, o4⟩, hr, ?_, ?_⟩
    · rw [grew_kept o2 (by simp) hne]; exact hbx
    · exact (below_step h2 bl).trans (o2.below (by have := h2.size; simp; omega) fun g e => (World.ownsRow.lt h1 g e).1)
  clear ha
  go_enter Tryz.func64, Tryz.ntmps64
  go_wp2_with (first
    | (at_builtin; refine wpList_append_vals _ rfl _ (.tmp 7) rfl base vv xs rfl rfl (unhide HA) hl ?_; intro v8 w1 q1 q2; obtain ⟨a8, c8, rfl, _⟩ := ownV_slice q1; have Q1 := hide (show OwnV w1 w.heap.size (.slice a8 xs.length c8) xs ∧ Below w.heap.size w w1 from ⟨q1, q2⟩); clear q1 q2)
    | (go_at_call 88; refine (unhide H65 _ _ _ Q1).mono ?_; rintro e w2 ⟨rfl, S, HSL, HS, hrS, cB, HB2⟩)
    | fail)
  have HCB := hide cB
  have hltB : w1.heap.size < w2.heap.size := World.block_lt_of_cell? _ _ cB
  clear cB
  go_loopw [4, 15] (fun s4 s wr => ∃ k : Nat, k ≤ xs.length ∧ s = .int .i64 (k : Int) ∧ OwnV wr w2.heap.size s4 (unlT S k) ∧ Below w2.heap.size w2 wr) (fun _ s _ => xs.length - (intOf s).toNat)
  case atStart => exact ⟨0, Nat.zero_le _, rfl, World.ownsRow_nil _ _ _ _, Below.refl _ _⟩
  case round =>
    obtain ⟨k, hk, rfl, ho, hb⟩ := hrel
    by_cases h8 : k < xs.length
    · have h9 : (k : Int) < (xs.length : Int) := by omega
      have hkS : k < S.length := by rw [unhide HSL]; exact h8
      have hx := atL_some hkS
      rcases (unhide hrS).later hb with e | ⟨b, off, rfl, hc⟩
      · rw [e] at hkS; simp at hkS
      obtain ⟨c0, c1, c2⟩ := hc k _ hx
      have hlen : (unlT S k).length ≤ 1048576 := by have := unlT_len S k; omega
      have HLEN := hide hlen
      have hsz := hb.size
      have cB := cell_later hb (unhide HCB)
      have bl := below_alloc (Below.refl _ wr) (.cells #[.int .i64 (atL S k).k, .int .i64 (atL S k).n, .string (atL S k).s] 59)
      have ho1 := ho.later bl
      have HB1 := hide (below_step hb bl)
      have HU : Hid (unlT S (k + 1) = unlT S k ++ (if k = 0 ∨ ordV (atL S k) (atL S (k - 1)) ≠ 0 then [atL S k] else [])) := rfl
      by_cases hk0 : k = 0
      · have HN : Hid (unlT S (k + 1) = unlT S k ++ [atL S k]) := by
          show _ = _
          rw [unhide HU, if_pos (.inl hk0)]
        have HE0 : Hid (((k : Int) == 0) = true) := by show _ = _; simp; omega
        generalize atL S k = x at *
        clear hc hx ho hb hlen hkS HU hk0
        go_upto_region 7 with fail
        obtain ⟨W, hW⟩ : ∃ W, Hid (W = wr.alloc (.cells #[.int .i64 x.k, .int .i64 x.n, .string x.s] 59)) := ⟨_, rfl⟩
        have b0 : W.cell? ⟨wr.heap.size, 0, none⟩ = some (.int .i64 x.k) := by rw [unhide hW]; simp [go_sem]
        have b1 : W.cell? ⟨wr.heap.size, 1, none⟩ = some (.int .i64 x.n) := by rw [unhide hW]; simp [go_sem]
        have b2 : W.cell? ⟨wr.heap.size, 2, none⟩ = some (.string x.s) := by rw [unhide hW]; simp [go_sem]
        rw [← unhide hW] at ho1 HB1 ⊢
        have HO1 := hide ho1
        clear hW c0 c1 c2 bl ho1 cB
        go_cut [31] (fun s31 wx => s31 = .bool true ∧ Below W.heap.size W wx)
        case first =>
          have e0 := unhide HE0
          refine wp_region_quiet_below (by kernel_rfl) (by kernel_rfl) ?_
          repeat (go_big_quiet_step (first
            | (go_at_call 84; exact Calls.regrown_of (rorder_any x x _))))
          refine wpQuiet_nil ?_
          intro w' hw'
          have hB : Below W.heap.size W w' := by obtain ⟨p, rfl⟩ := hw'; exact below_regrown _ _ _
          clear hw'
          go_wp2
          go_meet
          exact ⟨rfl, hB⟩
        case rest =>
          obtain ⟨rfl, hbx⟩ := hcut
          rename World => wx
          have HOX := hide ((unhide HO1).later hbx)
          have HBX := hide (below_step (unhide HB1) hbx)
          replace b0 := cell_later hbx b0
          replace b1 := cell_later hbx b1
          replace b2 := cell_later hbx b2
          clear hbx
          go_wp2_with (at_builtin; refine wpList_append_own_at _ rfl (.tmp 32) (.tmp 34) 37 rfl w2.heap.size 59 i4 (.agg #[.int .i64 0, .int .i64 0, .string ⟨#[]⟩]) 3 32 Tryz.underlying37 hi4 z40 z41 z42 rfl (by decide) _ _ _ rfl (World.ownsRow.alloc (unhide HOX) _) ⟨wx.heap.size, 0, none⟩ 1 1 (c3 x) rfl rfl (cells3_new wx x) (c3_one _) (by have := unhide HLEN; unfold maxLen; omega) (by have := unhide HLEN; omega) (by have := (unhide HBX).size; simp; omega) ?_; intro v1 w3 hown1 hgrow1 _ hat1; have ho3 := hide (ownV_app hown1); have hgr : Hid ((wx.alloc (.cells #[.int .i64 x.k, .int .i64 x.n, .string x.s] 59)).grownBy w3 u4.ownBlock) := hgrow1; clear hown1 hgrow1 hat1)
          go_roundw
          case rel => exact ⟨k + 1, by omega, by go_num, by rw [unhide HN]; exact unhide ho3, own_below (unhide HBX) (unhide HOX) (Nat.le_refl _) (unhide hgr)⟩
          case measure => first | (simp [intOf]; done) | (simp only [intOf]; omega)
      · have hp := atL_some (show k - 1 < S.length by omega)
        obtain ⟨d0, d1, d2⟩ := hc (k - 1) _ hp
        have HO := hide (fun W' => rorder_any (atL S k) (atL S (k - 1)) W')
        rw [Val.open_, Val.open_] at HO
        have ek : (k : Int) - 1 = ((k - 1 : Nat) : Int) := by omega
        have i7 : ((k - 1 : Nat) : Int) < (xs.length : Int) := by omega
        have e0 : ((k : Int) == 0) = false := by simp; omega
        generalize ordV (atL S k) (atL S (k - 1)) = O at *
        generalize atL S k = x at *
        generalize atL S (k - 1) = y at *
        generalize hk1 : k - 1 = k1 at *
        clear hc hx hp ho hb hlen hkS
        go_upto_region 7 with fail
        obtain ⟨W, hW⟩ : ∃ W, Hid (W = wr.alloc (.cells #[.int .i64 x.k, .int .i64 x.n, .string x.s] 59)) := ⟨_, rfl⟩
        have b0 : W.cell? ⟨wr.heap.size, 0, none⟩ = some (.int .i64 x.k) := by rw [unhide hW]; simp [go_sem]
        have b1 : W.cell? ⟨wr.heap.size, 1, none⟩ = some (.int .i64 x.n) := by rw [unhide hW]; simp [go_sem]
        have b2 : W.cell? ⟨wr.heap.size, 2, none⟩ = some (.string x.s) := by rw [unhide hW]; simp [go_sem]
        have blW : Below wr.heap.size wr W := by rw [unhide hW]; exact bl
        replace d0 := cell_later blW d0
        replace d1 := cell_later blW d1
        replace d2 := cell_later blW d2
        replace cB := cell_later blW cB
        rw [← unhide hW] at ho1 HB1 ⊢
        have HO1 := hide ho1
        clear hW c0 c1 c2 bl blW ho1
        go_cut [31] (fun s31 wx => s31 = .bool (O != 0) ∧ Below W.heap.size W wx)
        case first =>
          have k0 := cell_regrown b0
          have k1 := cell_regrown b1
          have k2 := cell_regrown b2
          have k3 := cell_regrown d0
          have k4 := cell_regrown d1
          have k5 := cell_regrown d2
          have k6 := cell_regrown cB
          clear b0 b1 b2 d0 d1 d2 cB
          refine wp_region_quiet_below (by kernel_rfl) (by kernel_rfl) ?_
          repeat (go_big_quiet_step (first
            | (go_at_call 84; exact Calls.regrown_of (unhide HO _))))
          refine wpQuiet_nil ?_
          intro w' hw'
          have hB : Below W.heap.size W w' := by obtain ⟨p, rfl⟩ := hw'; exact below_regrown _ _ _
          clear hw'
          go_wp2
          go_meet
          exact ⟨rfl, hB⟩
        case rest =>
          obtain ⟨rfl, hbx⟩ := hcut
          rename World => wx
          have HOX := hide ((unhide HO1).later hbx)
          have HBX := hide (below_step (unhide HB1) hbx)
          replace b0 := cell_later hbx b0
          replace b1 := cell_later hbx b1
          replace b2 := cell_later hbx b2
          clear hbx d0 d1 d2 cB
          rcases Bool.eq_false_or_eq_true (O != 0) with e1 | e1
          · have HN : Hid (unlT S (k + 1) = unlT S k ++ [x]) := by
              show _ = _
              rw [unhide HU, if_pos (.inr (by simpa using e1))]
            rw [e1]
            clear HU e1
            go_wp2_with (at_builtin; refine wpList_append_own_at _ rfl (.tmp 32) (.tmp 34) 37 rfl w2.heap.size 59 i4 (.agg #[.int .i64 0, .int .i64 0, .string ⟨#[]⟩]) 3 32 Tryz.underlying37 hi4 z40 z41 z42 rfl (by decide) _ _ _ rfl (World.ownsRow.alloc (unhide HOX) _) ⟨wx.heap.size, 0, none⟩ 1 1 (c3 x) rfl rfl (cells3_new wx x) (c3_one _) (by have := unhide HLEN; unfold maxLen; omega) (by have := unhide HLEN; omega) (by have := (unhide HBX).size; simp; omega) ?_; intro v1 w3 hown1 hgrow1 _ hat1; have ho3 := hide (ownV_app hown1); have hgr : Hid ((wx.alloc (.cells #[.int .i64 x.k, .int .i64 x.n, .string x.s] 59)).grownBy w3 u4.ownBlock) := hgrow1; clear hown1 hgrow1 hat1)
            go_roundw
            case rel => exact ⟨k + 1, by omega, by go_num, by rw [unhide HN]; exact unhide ho3, own_below (unhide HBX) (unhide HOX) (Nat.le_refl _) (unhide hgr)⟩
            case measure => first | (simp [intOf]; done) | (simp only [intOf]; omega)
          · have HN : Hid (unlT S (k + 1) = unlT S k) := by
              show _ = _
              rw [unhide HU, if_neg (by rintro (h | h); exact hk0 h; simp at e1; exact h e1), List.append_nil]
            rw [e1]
            clear HU e1
            go_wp2
            go_roundw
            case rel => exact ⟨k + 1, by omega, by go_num, by rw [unhide HN]; exact unhide HOX, unhide HBX⟩
            case measure => first | (simp [intOf]; done) | (simp only [intOf]; omega)
    · have h9 : ¬ (k : Int) < (xs.length : Int) := by omega
      have hk8 : k = S.length := by rw [unhide HSL]; omega
      rw [hk8] at ho
      have HO := hide ho
      have HB := hide (below_step (unhide HB2) hb)
      have HZ := hide (unhide HB2).size
      clear ho hb hk8
      go_wp2
      go_ret
      exact ⟨S, _, rfl, HS, own_mono (unhide HO) (unhide HZ), unhide HB⟩
end Go.Proofs.YthbfomcmjjnikaaGreat
set_option linter.unusedSimpArgs false
set_option linter.unusedVariables false
namespace Go.Proofs.YthbfomcmjjnikaaGreat
open Go.RowKit Go.Sort

set_option maxHeartbeats 2000000 in
set_option maxRecDepth 100000 in
theorem atleast_any (Wd : List Val) (x : Val) (a8 : Option Addr) (c8 B8 B3 k : Nat) (W : World) (hk : k < Wd.length) (hl : Wd.length ≤ 1048576) (hr : RowAt W a8 Wd) (hb : W.cell? ⟨B8, 0, none⟩ = some (.slice a8 Wd.length c8)) (hx : BoxAt W B3 x) :
    Calls Tryz.prog 86 #[.int .i64 k, .pointer (some ⟨B8, 0, none⟩), .pointer (some ⟨B3, 0, none⟩)] W fun e w' => e = .returned (.bool (!ltV (atL Wd k) x)) ∧ Below W.heap.size W w' := by
  rcases hr with e | ⟨b, off, rfl, hc⟩
  · rw [e] at hk; simp at hk
  obtain ⟨c0, c1, c2⟩ := hc k _ (atL_some hk)
  obtain ⟨d0, d1, d2⟩ := hx
  have HO := hide (fun W' => rorder_any (atL Wd k) x W')
  rw [Val.open_, Val.open_] at HO
  have e0 : (!ltV (atL Wd k) x) = decide (0 ≤ ordV (atL Wd k) x) := by
    unfold ltV
    by_cases h : ordV (atL Wd k) x < 0
    · have : ¬ 0 ≤ ordV (atL Wd k) x := by omega
      simp [h]
    · have : 0 ≤ ordV (atL Wd k) x := by omega
      simp [h, this]
  rw [e0]
  clear e0
  generalize ordV (atL Wd k) x = O at *
  generalize atL Wd k = y at *
  have i1 : (k : Int) < (Wd.length : Int) := by omega
  clear hc
  go_enter Tryz.func86, Tryz.ntmps86
  go_upto_region 1 with fail
  have k0 := cell_regrown c0
  have k1 := cell_regrown c1
  have k2 := cell_regrown c2
  have k3 := cell_regrown d0
  have k4 := cell_regrown d1
  have k5 := cell_regrown d2
  have k6 := cell_regrown hb
  clear c0 c1 c2 d0 d1 d2 hb
  refine wp_region_quiet_below (by kernel_rfl) (by kernel_rfl) ?_
  repeat (go_big_quiet_step (first
    | (go_at_call 84; exact Calls.regrown_of (unhide HO _))))
  refine wpQuiet_nil ?_
  intro w' hw'
  have hB : Below W.heap.size W w' := by obtain ⟨p, rfl⟩ := hw'; exact below_regrown _ _ _
  clear hw'
  go_wp2
  go_ret
  exact ⟨rfl, hB⟩

set_option maxHeartbeats 4000000 in
set_option maxRecDepth 100000 in
theorem search_any (Wd : List Val) (x : Val) (a8 : Option Addr) (c8 B8 B3 : Nat) (w : World) (hl : Wd.length ≤ 1048576) (hri : Rises Wd) (hr : RowAt w a8 Wd) (hb : w.cell? ⟨B8, 0, none⟩ = some (.slice a8 Wd.length c8)) (hx : BoxAt w B3 x) :
    Calls Tryz.prog 85 #[.int .i64 Wd.length, .func (.func 86) #[] #[.pointer (some ⟨B8, 0, none⟩), .pointer (some ⟨B3, 0, none⟩)]] w fun e w' => e = .returned (.int .i64 (posN Wd x : Int)) ∧ Below w.heap.size w w' := by
  have HC : Hid (∀ W k, Below w.heap.size w W → k < Wd.length → Calls Tryz.prog 86 #[.int .i64 (k : Nat), .pointer (some ⟨B8, 0, none⟩), .pointer (some ⟨B3, 0, none⟩)] W fun e w' => e = .returned (.bool (!ltV (atL Wd k) x)) ∧ Below W.heap.size W w') := fun W k hW hk => atleast_any Wd x a8 c8 B8 B3 k W hk hl (hr.later hW) (cell_later hW hb) (hx.later hW)
  have HP : Hid (∀ k, k ≤ Wd.length → (∀ a y, a < k → Wd[a]? = some y → ordV y x < 0) → (∀ a y, k ≤ a → Wd[a]? = some y → ¬ ordV y x < 0) → posN Wd x = k) := fun k h1 h2 h3 => posN_eq h1 h2 h3
  have HM := hide (hri.mono x)
  generalize posN Wd x = R at *
  clear hr hb hx hri
  go_enter Tryz.func85, Tryz.ntmps85
  go_wp2_with fail
  go_loopw [5, 6] (fun s5 s6 wr => ∃ i j : Nat, s5 = .int .i64 (i : Int) ∧ s6 = .int .i64 (j : Int) ∧ i ≤ j ∧ j ≤ Wd.length ∧ Hid (∀ a y, a < i → Wd[a]? = some y → ordV y x < 0) ∧ Hid (∀ a y, j ≤ a → Wd[a]? = some y → 0 ≤ ordV y x) ∧ Below w.heap.size w wr) (fun s5 s6 _ => (intOf s6 - intOf s5).toNat)
  case atStart => exact ⟨0, Wd.length, rfl, rfl, Nat.zero_le _, Nat.le_refl _, fun a y h => (by omega), fun a y h h2 => (by rw [List.getElem?_eq_none (by omega)] at h2; cases h2), Below.refl _ _⟩
  case round =>
    obtain ⟨i, j, rfl, rfl, hij, hjn, HLO, HHI, hb⟩ := hrel
    by_cases h1 : i < j
    · have i1 : (i : Int) < (j : Int) := by omega
      obtain ⟨h, hh⟩ : ∃ h, h = (i + j) / 2 := ⟨_, rfl⟩
      have eh : ((i : Int) + (j : Int)) / 2 = (h : Int) := by omega
      have i3 : (i : Int) + (j : Int) ≤ 2097152 := by omega
      have hhj : i ≤ h ∧ h < j := by omega
      have HHJ := hide hhj
      have HL := hide (unhide HC wr h hb (by omega))
      have HB := hide hb
      have hx := atL_some (show h < Wd.length by omega)
      have HX := hide hx
      clear hh hhj hb hx
      cases hlt : ltV (atL Wd h) x
      · rw [hlt] at HL
        have HHI2 : Hid (∀ a y, h ≤ a → Wd[a]? = some y → 0 ≤ ordV y x) := fun a y ha hy => by
          have h3 := ltV_f hlt
          rcases Int.lt_or_le (ordV y x) 0 with h4 | h4
          · exact absurd (unhide HM h a _ y ha (unhide HX) hy h4) h3
          · exact h4
        clear hlt
        go_wp2_with (go_at_call 86; refine (unhide HL).mono ?_; rintro e w2 ⟨rfl, hb2⟩; replace hb2 := hide hb2)
        go_roundw
        case rel => exact ⟨i, h, rfl, by go_num, (unhide HHJ).1, by have := unhide HHJ; omega, HLO, HHI2, below_step (unhide HB) (unhide hb2)⟩
        case measure => have := unhide HHJ; first | (simp [intOf]; omega) | (simp only [intOf]; omega)
      · rw [hlt] at HL
        have HLO2 : Hid (∀ a y, a < h + 1 → Wd[a]? = some y → ordV y x < 0) := fun a y ha hy => unhide HM a h y _ (by omega) hy (unhide HX) (ltV_t hlt)
        clear hlt
        go_wp2_with (go_at_call 86; refine (unhide HL).mono ?_; rintro e w2 ⟨rfl, hb2⟩; replace hb2 := hide hb2)
        go_roundw
        case rel => exact ⟨h + 1, j, by go_num, rfl, by have := unhide HHJ; omega, hjn, HLO2, HHI, below_step (unhide HB) (unhide hb2)⟩
        case measure => have := unhide HHJ; first | (simp [intOf]; omega) | (simp only [intOf]; omega)
    · have i1 : ¬ (i : Int) < (j : Int) := by omega
      have hij' : i = j := by omega
      have HE : Hid (R = i) := by
        show _ = _
        exact unhide HP i (by omega) (unhide HLO) (fun a y h2 h3 => unhide HHI a y (by omega) h3)
      have HB := hide hb
      clear hb hij'
      go_wp2
      go_ret
      exact ⟨by rw [unhide HE]; rfl, unhide HB⟩

theorem rtruth_yes (w : World) : Calls Tryz.prog 81 #[.bool true] w fun e w' => e = .returned (.agg #[.int .i64 1, .int .i64 1, .string ⟨#[]⟩]) ∧ Below w.heap.size w w' := by
  go_enter Tryz.func81, Tryz.ntmps81
  go_wp2_with (go_at_call 37; refine (rnum_any _ _).mono ?_; rintro e w1 ⟨rfl, hb1⟩; obtain ⟨hc1, hf1⟩ := bcell hb1; rw [Val.open_])
  refine bodyPost_ret (v := .agg #[.int .i64 1, .int .i64 1, .string ⟨#[]⟩]) (by simp [results, Tryz.results81, go_sem, Val.v, Val.num, hc1, hf1]) rfl ⟨rfl, ?_⟩
  exact (((below_step (below_alloc (Below.refl _ w) _) hb1).setCell (by simp) _).setCell (by simp) _).setCell (by simp) _
theorem rtruth_no (w : World) : Calls Tryz.prog 81 #[.bool false] w fun e w' => e = .returned (.agg #[.int .i64 1, .int .i64 0, .string ⟨#[]⟩]) ∧ Below w.heap.size w w' := by
  go_enter Tryz.func81, Tryz.ntmps81
  go_wp2_with (go_at_call 37; refine (rnum_any _ _).mono ?_; rintro e w1 ⟨rfl, hb1⟩; obtain ⟨hc1, hf1⟩ := bcell hb1; rw [Val.open_])
  refine bodyPost_ret (v := .agg #[.int .i64 1, .int .i64 0, .string ⟨#[]⟩]) (by simp [results, Tryz.results81, go_sem, Val.v, Val.num, hc1, hf1]) rfl ⟨rfl, ?_⟩
  exact (((below_step (below_alloc (Below.refl _ w) _) hb1).setCell (by simp) _).setCell (by simp) _).setCell (by simp) _
end Go.Proofs.YthbfomcmjjnikaaGreat
set_option linter.unusedSimpArgs false
set_option linter.unusedVariables false
namespace Go.Proofs.YthbfomcmjjnikaaGreat
open Go.RowKit Go.Sort

set_option maxHeartbeats 4000000 in
set_option maxRecDepth 100000 in
theorem rwrite_bad (X : Vc) (p : Sl) (sch : Int) (w : World) (hs : small X) (hp : VecAt w X p) (hbad : badW X sch = true) :
    Calls Tryz.prog 62 #[vecV X p, .int .i64 sch] w fun e w' => e = .returned (.tuple #[.string ⟨#[]⟩, .int .i64 1]) ∧ Below w.heap.size w w' := by
  rw [vecV_open]
  have bl := below_alloc (Below.refl _ w) (.cells #[.int .i64 X.k, .slice p.a1 X.nl.length p.c1, .slice p.a2 X.ns.length p.c2, .slice p.a3 X.ss.length p.c3] 49)
  have HG := hide (rgood_any X p _ hs (hp.later bl))
  rw [vecV_open] at HG
  cases hg : goodB X
  · rw [hg] at HG
    clear hbad hg
    go_enter Tryz.func62, Tryz.ntmps62
    go_wp2_with (go_at_call 68; refine (unhide HG).mono ?_; rintro e w1 ⟨rfl, hb1⟩; obtain ⟨hc1, _⟩ := bcell hb1)
    refine bodyPost_ret (v := .tuple #[.string ⟨#[]⟩, .int .i64 1]) (by simp [results, Tryz.results62, go_sem]) rfl ⟨rfl, below_step bl hb1⟩
  · rw [hg] at HG
    simp only [badW, hg, Bool.not_true, Bool.false_or, Bool.or_eq_true, decide_eq_true_eq, Bool.and_eq_true, beq_iff_eq] at hbad
    have FACT : Hid (∀ w1, Below (w.alloc (.cells #[.int .i64 X.k, .slice p.a1 X.nl.length p.c1, .slice p.a2 X.ns.length p.c2, .slice p.a3 X.ss.length p.c3] 49)).heap.size (w.alloc (.cells #[.int .i64 X.k, .slice p.a1 X.nl.length p.c1, .slice p.a2 X.ns.length p.c2, .slice p.a3 X.ss.length p.c3] 49)) w1 → w1.cell? ⟨w.heap.size, 0, none⟩ = some (.int .i64 X.k) ∧ Hid (Below w.heap.size w w1)) := fun w1 hb1 => by
      obtain ⟨hc1, _⟩ := bcell hb1
      refine ⟨?_, below_step bl hb1⟩
      rw [hc1 _ _ (by simp)]; simp [go_sem]
    clear hg bl
    rcases hbad with (h | h) | ⟨h1, h2⟩
    · go_enter Tryz.func62, Tryz.ntmps62
      go_wp2_with (go_at_call 68; refine (unhide HG).mono ?_; rintro e w1 ⟨rfl, hb1⟩; obtain ⟨c0, hbb⟩ := unhide FACT _ hb1; clear hb1)
      refine bodyPost_ret (v := .tuple #[.string ⟨#[]⟩, .int .i64 1]) (by simp [results, Tryz.results62, go_sem]) rfl ⟨rfl, unhide hbb⟩
    · have h3 : ¬ sch < 1 := by omega
      go_enter Tryz.func62, Tryz.ntmps62
      go_wp2_with (go_at_call 68; refine (unhide HG).mono ?_; rintro e w1 ⟨rfl, hb1⟩; obtain ⟨c0, hbb⟩ := unhide FACT _ hb1; clear hb1)
      refine bodyPost_ret (v := .tuple #[.string ⟨#[]⟩, .int .i64 1]) (by simp [results, Tryz.results62, go_sem]) rfl ⟨rfl, unhide hbb⟩
    · subst h1
      rw [h2] at FACT HG
      rw [h2]
      clear h2
      go_enter Tryz.func62, Tryz.ntmps62
      go_wp2_with (go_at_call 68; refine (unhide HG).mono ?_; rintro e w1 ⟨rfl, hb1⟩; obtain ⟨c0, hbb⟩ := unhide FACT _ hb1; clear hb1)
      refine bodyPost_ret (v := .tuple #[.string ⟨#[]⟩, .int .i64 1]) (by simp [results, Tryz.results62, go_sem]) rfl ⟨rfl, unhide hbb⟩

set_option maxHeartbeats 8000000 in
set_option maxRecDepth 100000 in
theorem rwrite_large (X : Vc) (p : Sl) (sch : Int) (w : World) (hs : small X) (hp : VecAt w X p) (hbad : badW X sch = false) (hbig : 4096 < X.nl.length) :
    Calls Tryz.prog 62 #[vecV X p, .int .i64 sch] w fun e w' => e = .returned (.tuple #[.string ⟨#[]⟩, .int .i64 3]) ∧ Below w.heap.size w w' := by
  rw [vecV_open]
  have bl := below_alloc (Below.refl _ w) (.cells #[.int .i64 X.k, .slice p.a1 X.nl.length p.c1, .slice p.a2 X.ns.length p.c2, .slice p.a3 X.ss.length p.c3] 49)
  have HG := hide (rgood_any X p _ hs (hp.later bl))
  rw [vecV_open] at HG
  simp only [badW, Bool.or_eq_false_iff, Bool.not_eq_false', decide_eq_false_iff_not] at hbad
  obtain ⟨⟨⟨hg, h1⟩, h2⟩, h3⟩ := hbad
  rw [hg] at HG
  have HVL : Hid ((valsV X).length = X.nl.length) := vals_len hg
  have hnl : X.nl.length ≤ 1048576 := hs.1
  have FACT : Hid (∀ w1, Below (w.alloc (.cells #[.int .i64 X.k, .slice p.a1 X.nl.length p.c1, .slice p.a2 X.ns.length p.c2, .slice p.a3 X.ss.length p.c3] 49)).heap.size (w.alloc (.cells #[.int .i64 X.k, .slice p.a1 X.nl.length p.c1, .slice p.a2 X.ns.length p.c2, .slice p.a3 X.ss.length p.c3] 49)) w1 → (w1.cell? ⟨w.heap.size, 0, none⟩ = some (.int .i64 X.k) ∧ w1.cell? ⟨w.heap.size, 1, none⟩ = some (.slice p.a1 X.nl.length p.c1) ∧ w1.cell? ⟨w.heap.size, 2, none⟩ = some (.slice p.a2 X.ns.length p.c2) ∧ w1.cell? ⟨w.heap.size, 3, none⟩ = some (.slice p.a3 X.ss.length p.c3)) ∧ Hid (Below w.heap.size w w1)) := fun w1 hb1 => by
    obtain ⟨hc1, _⟩ := bcell hb1
    refine ⟨⟨?_, ?_, ?_, ?_⟩, below_step bl hb1⟩ <;> (rw [hc1 _ _ (by simp)]; simp [go_sem])
  have HV : Hid (∀ W, Hid (Below w.heap.size w W) → Calls Tryz.prog 63 #[.agg #[.int .i64 X.k, .slice p.a1 X.nl.length p.c1, .slice p.a2 X.ns.length p.c2, .slice p.a3 X.ss.length p.c3]] W fun e w' => ∃ a6 c6, e = .returned (.slice a6 X.nl.length c6) ∧ Hid (RowAt w' a6 (valsV X)) ∧ Hid (Below w.heap.size w w')) := fun W hW => by
    have := rvalues_any X p W hs (hp.later hW)
    rw [vecV_open] at this
    refine this.mono fun e w' ⟨v, he, h1, h2⟩ => ?_
    obtain ⟨a6, c6, rfl, _, _, hr⟩ := ownV_slice h1
    rw [vals_len hg] at he
    exact ⟨a6, c6, he, hr, below_step hW h2⟩
  have HST : Hid (∀ W a6 c6, Hid (RowAt W a6 (valsV X)) → Hid (Below w.heap.size w W) → Calls Tryz.prog 65 #[.slice a6 X.nl.length c6] W fun e w' => ∃ a7 c7, e = .returned (.slice a7 (standL (valsV X)).length c7) ∧ Hid (OwnV w' W.heap.size (.slice a7 (standL (valsV X)).length c7) (standL (valsV X))) ∧ Hid (Below w.heap.size w w')) := fun W a6 c6 hr hW => by
    have := stand_any a6 c6 (valsV X) W (by rw [vals_len hg]; exact hnl) hr
    rw [vals_len hg] at this
    refine this.mono fun e w' ⟨v, he, h1, h2⟩ => ?_
    obtain ⟨a7, c7, rfl, _, _, _⟩ := ownV_slice h1
    exact ⟨a7, c7, he, h1, below_step hW h2⟩
  have HUN : Hid (∀ W B a7 c7, Hid (OwnV W B (.slice a7 (standL (valsV X)).length c7) (standL (valsV X))) → Hid (Below w.heap.size w W) → Calls Tryz.prog 64 #[.slice a7 (standL (valsV X)).length c7] W fun e w' => ∃ S a8 c8, e = .returned (.slice a8 (unlT S S.length).length c8) ∧ Hid (S.Perm (standL (valsV X)) ∧ Rises S) ∧ Hid (RowAt w' a8 (unlT S S.length)) ∧ Hid (Below w.heap.size w w')) := fun W B a7 c7 ho hW => by
    refine (unlike_any B (standL (valsV X)) _ W (Nat.le_trans (stand_len _) (by rw [vals_len hg]; exact hnl)) ho).mono fun e w' ⟨S, v, he, h1, h2, h3⟩ => ?_
    obtain ⟨a8, c8, rfl, _, _, hr⟩ := ownV_slice h2
    exact ⟨S, a8, c8, he, h1, hr, below_step hW h3⟩
  have i1 : (4096 : Int) < (X.nl.length : Int) := by omega
  generalize (standL (valsV X)).length = NY at *
  clear hg bl hs hp
  have hc : ((sch == 4) = true ∧ (X.k == 2) = false) ∨ (sch == 4) = false := by
    rcases Bool.eq_false_or_eq_true (sch == 4) with e4 | e4
    · left; exact ⟨e4, by simpa [e4] using h3⟩
    · exact .inr e4
  clear h3
  rcases hc with ⟨e4, e5⟩ | e4
  all_goals
    go_enter Tryz.func62, Tryz.ntmps62
    go_wp2_with (first
      | (go_at_call 68; refine (unhide HG).mono ?_; rintro e w1 ⟨rfl, hb1⟩; obtain ⟨⟨c0, c1, c2, c3⟩, hbb⟩ := unhide FACT _ hb1; clear hb1)
      | (go_at_call 63; refine (unhide HV _ hbb).mono ?_; rintro e w2 ⟨a6, c6, rfl, R6, hb2⟩)
      | (go_at_call 65; refine (unhide HST _ _ _ R6 hb2).mono ?_; rintro e w3 ⟨a7, c7, rfl, R7, hb3⟩)
      | (go_at_call 64; refine (unhide HUN _ _ _ _ R7 hb3).mono ?_; rintro e w4 ⟨S, a8, c8, rfl, HS, R8, hb4⟩))
    refine bodyPost_ret (v := .tuple #[.string ⟨#[]⟩, .int .i64 3]) (by simp [results, Tryz.results62, go_sem]) rfl ⟨rfl, below_alloc (unhide hb4) _⟩
end Go.Proofs.YthbfomcmjjnikaaGreat
set_option linter.unusedSimpArgs false
set_option linter.unusedVariables false
namespace Go.Proofs.YthbfomcmjjnikaaGreat
open Go.RowKit Go.Sort

/-- How many from the first one on are as great. -/
def aheadO (xs : List Val) : Nat := (xs.takeWhile fun y => decide (ordV y (xs.headD Val.null) = 0)).length
def runsO : Nat → List Val → List Int
  | 0, _ => []
  | _ + 1, [] => []
  | f + 1, x :: xs => (beL (aheadO (x :: xs) : Int) 4 4 ++ plainL x) ++ runsO f ((x :: xs).drop (aheadO (x :: xs)))
def runsM : Nat → List Val → Nat
  | 0, _ => 0
  | _ + 1, [] => 0
  | f + 1, x :: xs => 1 + runsM f ((x :: xs).drop (aheadO (x :: xs)))
def lastI (W : List Val) : Int := if W.length = 0 then 0 else (atL W (W.length - 1)).n
def firstI (W : List Val) : Int := if W.length = 0 then 0 else (atL W 0).n
def offsR (W ys : List Val) : List Int := (beL (IntKind.u64.wrap (firstI W)) 8 8 ++ beL (bl ((lastI W - firstI W) % 18446744073709551616).toNat : Int) 1 1) ++ leB (total (bl ((lastI W - firstI W) % 18446744073709551616).toNat) (ys.map (offN (firstI W)))) (bytesN ys.length (bl ((lastI W - firstI W) % 18446744073709551616).toNat))
/-- The values' bytes by a scheme, as the document says them. -/
def RBody (n : Nat) (ys : List Val) (b : List Int) : Prop :=
  (n = 1 ∧ b = plains ys) ∨ (n = 2 ∧ b = beL (runsM ys.length ys : Int) 4 4 ++ runsO ys.length ys) ∨ (n = 3 ∧ ∃ S, S.Perm ys ∧ Rises S ∧ b = wordsB (unlT S S.length) ys) ∨ (n = 4 ∧ ∃ S, S.Perm ys ∧ Rises S ∧ b = offsR (unlT S S.length) ys)
theorem head2 (n kd : Nat) (hn : n < 256) (hk : kd < 256) : toB [(n : Int), (kd : Int)] = toB (beL (n : Int) 1 1 ++ beL (kd : Int) 1 1) := by
  congr 1
  simp [beL, beN]
  omega

end Go.Proofs.YthbfomcmjjnikaaGreat

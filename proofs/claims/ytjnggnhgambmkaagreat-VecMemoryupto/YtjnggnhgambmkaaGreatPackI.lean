import Derived.Test.YtjnggnhgambmkaaGreatPackD
import Derived.Laws.AppendOwnNone
set_option linter.unusedSimpArgs false
set_option linter.unusedVariables false
namespace Go.Proofs.YtjnggnhgambmkaaGreat
open Go.RowKit Go.Sort

theorem ahead_le (xs : List Val) : aheadN xs ≤ xs.length := (List.takeWhile_prefix _).length_le
theorem ahead_pos {x : Val} {xs : List Val} : 0 < aheadN (x :: xs) := by
  unfold aheadN
  have : sameB x x = true := by simp [sameB]
  simp [List.takeWhile_cons, this]
/-- The runs' bytes, and how many there are. -/
def runsB : Nat → List Val → List Int
  | 0, _ => []
  | _ + 1, [] => []
  | f + 1, x :: xs => (beL (aheadN (x :: xs) : Int) 4 4 ++ plainL x) ++ runsB f ((x :: xs).drop (aheadN (x :: xs)))
def runsN : Nat → List Val → Nat
  | 0, _ => 0
  | _ + 1, [] => 0
  | f + 1, x :: xs => 1 + runsN f ((x :: xs).drop (aheadN (x :: xs)))
theorem runsB_fuel : ∀ (f g : Nat) (xs : List Val), xs.length ≤ f → xs.length ≤ g → runsB f xs = runsB g xs ∧ runsN f xs = runsN g xs
  | 0, g, [], _, _ => by cases g <;> exact ⟨rfl, rfl⟩
  | 0, g, x :: xs, h, _ => by simp at h
  | f + 1, 0, [], _, _ => ⟨rfl, rfl⟩
  | f + 1, 0, x :: xs, _, h => by simp at h
  | f + 1, g + 1, [], _, _ => ⟨rfl, rfl⟩
  | f + 1, g + 1, x :: xs, h1, h2 => by
    have hp := ahead_pos (x := x) (xs := xs)
    have hl : ((x :: xs).drop (aheadN (x :: xs))).length ≤ xs.length := by rw [List.length_drop, List.length_cons]; omega
    simp only [List.length_cons] at h1 h2
    have ih := runsB_fuel f g ((x :: xs).drop (aheadN (x :: xs))) (by omega) (by omega)
    exact ⟨by rw [runsB, runsB, ih.1], by rw [runsN, runsN, ih.2]⟩
theorem runs_next {x : Val} {xs : List Val} : runsB (x :: xs).length (x :: xs) = (beL (aheadN (x :: xs) : Int) 4 4 ++ plainL x) ++ runsB ((x :: xs).drop (aheadN (x :: xs))).length ((x :: xs).drop (aheadN (x :: xs))) ∧ runsN (x :: xs).length (x :: xs) = 1 + runsN ((x :: xs).drop (aheadN (x :: xs))).length ((x :: xs).drop (aheadN (x :: xs))) := by
  have hp := ahead_pos (x := x) (xs := xs)
  have hl : ((x :: xs).drop (aheadN (x :: xs))).length ≤ xs.length := by rw [List.length_drop, List.length_cons]; omega
  have ih := runsB_fuel xs.length _ ((x :: xs).drop (aheadN (x :: xs))) hl (Nat.le_refl _)
  rw [List.length_cons]
  exact ⟨by rw [runsB, ih.1], by rw [runsN, ih.2]⟩
theorem RowAt.drop {w : World} {b off j : Nat} {xs : List Val} (h : RowAt w (some ⟨b, off, none⟩) xs) (hj : j ≤ xs.length) : RowAt w (some ⟨b, off + j * 3, none⟩) (xs.drop j) := by
  rcases h with h | ⟨b', off', e, h⟩
  · left; rw [h]; simp
  · injection e with e
    injection e with e1 e2
    subst e1 e2
    refine .inr ⟨b, off + j * 3, rfl, fun i x hx => ?_⟩
    rw [List.getElem?_drop] at hx
    have := h (j + i) x hx
    rw [show off + j * 3 + i * 3 = off + (j + i) * 3 by omega]
    exact this

theorem RowAt.keep {w wr W : World} {a : Option Addr} {xs : List Val} (h : RowAt wr a xs) (hb : Below w.heap.size w wr) (hW : Below w.heap.size w W) (hlt : ∀ ad, a = some ad → ad.block < w.heap.size) : RowAt W a xs := by
  rcases h with h | ⟨b, off, ha, h⟩
  · exact .inl h
  · have hl := hlt _ ha
    have e : ∀ o, W.cell? ⟨b, o, none⟩ = wr.cell? ⟨b, o, none⟩ := fun o => (hW.cell (p := ⟨b, o, none⟩) hl).trans (hb.cell (p := ⟨b, o, none⟩) hl).symm
    exact .inr ⟨b, off, ha, fun i x hx => ⟨by rw [e]; exact (h i x hx).1, by rw [e]; exact (h i x hx).2.1, by rw [e]; exact (h i x hx).2.2⟩⟩
theorem RowAt.lt {w : World} {a : Option Addr} {xs : List Val} (h : RowAt w a xs) (hn : 0 < xs.length) : ∀ ad, a = some ad → ad.block < w.heap.size := by
  intro ad e
  rcases h with h | ⟨b, off, ha, h⟩
  · subst h; simp at hn
  · rw [ha] at e
    injection e with e
    subst e
    exact World.block_lt_of_cell? _ _ (h 0 _ (List.getElem?_eq_getElem hn)).1
theorem Grew.of_below {w wr : World} (h : Below w.heap.size w wr) (v : Value) : Grew w wr v v := ⟨⟨h.os, h.tape, h.output, h.size, fun i hi _ => h.block i hi⟩, .inl rfl⟩

theorem OwnB.grew {w w' : World} {B : Nat} {u v v' : Value} {zr : List Int} (h : OwnB w B u zr) (hg : Grew w w' v v') (hne : ∀ g, u.ownBlock = some g → v.ownBlock ≠ some g) : OwnB w' B u zr := by
  refine ⟨h.1, ?_⟩
  rcases h.2 with h1 | ⟨g, cap, cur, hv, hb, hh, rest⟩
  · exact .inl h1
  · refine .inr ⟨g, cap, cur, hv, hb, ?_, rest⟩
    rw [hg.1.block g (by have := (ownB_lt h (g := g) (by rw [hv]; rfl)).2; exact this) (fun e => hne g (by rw [hv]; rfl) e.symm)]
    exact hh
/-- Append an own row to an own row. -/
theorem wpList_append_rows {ops : Array Oper} {rest : List Oper} {o : Oper} {a : Act} {Q : Exit → Act → World → Prop} (w : World) (hgd : o.guard = none) (s x : Operand) (ho : o.op = .call { callee := .builtin .append, args := #[s, x], argTypes := #[78, 78] })
    (base B : Nat) (v u : Value) (zs zr : List Int) (hs : a.eval s = v) (hx : a.eval x = u) (hown : OwnB w base v zs) (hu : OwnB w B u zr) (hlen : zs.length + zr.length ≤ 140737488355328) (hbase : base ≤ w.heap.size)
    (h : ∀ v' w', OwnB w' base v' (zs ++ zr) → Grew w w' v v' → wpList Tryz.prog ops Q rest (a.put o.dst v') w') : wpList Tryz.prog ops Q (o :: rest) a w := by
  obtain ⟨i0, hi, hz0, hz1, hz2⟩ := info_parts Tryz.info5
  rcases hu.2 with ⟨rfl, h0⟩ | ⟨g, cap, cur, rfl, hb, hh, hc, hm, hcs, ht⟩
  · have e : zr = [] := List.eq_nil_of_length_eq_zero h0
    subst e
    refine wpList_append_own_none hgd s x 78 ho base 5 i0 1 Tryz.underlying78 hi v zs.length (zs.map (.int .u8)) hs hown hx ?_
    exact h v w (by simpa using hown) (Grew.refl _ _)
  · refine wpList_append_own_at w hgd s x 78 ho base 5 i0 (.int .u8 0) 1 1 Tryz.underlying78 hi hz0 hz1 hz2 rfl (by decide) v zs.length (zs.map (.int .u8)) hs hown ⟨g, 0, none⟩ zr.length cap (zr.map (.int .u8)) hx (by simp) (World.ownsRow.cells hu rfl) (by intro u hu; obtain ⟨y, _, rfl⟩ := List.mem_map.1 hu; rfl) (by unfold maxLen; omega) (by omega) hbase ?_
    intro v' w' h1 h2 _ hat
    refine h v' w' (ownB_app rfl h1) ⟨h2, ?_⟩
    rcases hat with e | e
    · exact .inl e
    · exact .inr ⟨_, e, Nat.le_refl _⟩

set_option maxHeartbeats 4000000 in
set_option maxRecDepth 100000 in
theorem runs_loop (base : Nat) (zs : List Int) (aa : Option Addr) (ca : Nat) (xs : List Val) (v : Value) (w : World) (hown : OwnB w base v zs) (hl : xs.length ≤ 4096) (hca : xs.length ≤ ca) (hlen : zs.length ≤ 1000000) (hs : ∀ x ∈ xs, x.s.size ≤ 1000) (hbase : base ≤ w.heap.size)
    (ha : RowAt w aa xs) (hsep : ∀ ad, aa = some ad → v.ownBlock ≠ some ad.block) :
    Calls Tryz.prog 49 #[v, .slice aa xs.length ca] w fun e w' => ∃ v', e = .returned v' ∧ OwnB w' base v' (zs ++ (beL (runsN xs.length xs : Int) 4 4 ++ runsB xs.length xs)) ∧ Grew w w' v v' := by
  obtain ⟨i0, hi, hz0, hz1, hz2⟩ := info_parts Tryz.info5
  have HA := hide ha
  have HSEP := hide hsep
  have HS := hide hs
  have HOWN := hide hown
  clear ha hsep hs hown
  go_enter Tryz.func49, Tryz.ntmps49
  go_wp2_with fail
  go_loopw [1, 5, 6] (fun s1 r s6 wr => ∃ (j : Nat) (ys : List Val) (zr : List Int) (c : Nat) (a' : Option Addr), ys = xs.drop j ∧ j ≤ xs.length ∧ s1 = .slice a' ys.length (ca - j) ∧ RowAt wr a' ys ∧ (∀ ad, a' = some ad → ∃ ad0, aa = some ad0 ∧ ad.block = ad0.block) ∧ OwnB wr w.heap.size r zr ∧ s6 = .int .i64 (c : Int) ∧ c ≤ j ∧ Hid (runsB xs.length xs = zr ++ runsB ys.length ys) ∧ Hid (runsN xs.length xs = c + runsN ys.length ys) ∧ zr.length ≤ 1012 * j ∧ Below w.heap.size w wr) (fun s1 _ _ _ => match s1 with | .slice _ n _ => n | _ => 0)
  case atStart => exact ⟨0, xs, [], 0, aa, by simp, Nat.zero_le _, by simp, unhide HA, fun ad e => ⟨ad, e, rfl⟩, World.ownsRow_nil _ _ _ _, rfl, Nat.le_refl _, by show _ = _; simp, by show _ = _; simp, by simp, Below.refl _ _⟩
  case round =>
    obtain ⟨j, ys, zr, c, a', hys, hj, rfl, hA, hblk, ho, rfl, hcj, HRB, HRN, hzr, hb⟩ := hrel
    cases ys with
    | nil =>
      have HRB2 : Hid (runsB xs.length xs = zr) := by show _ = _; rw [unhide HRB]; simp [runsB]
      have HRN2 : Hid (runsN xs.length xs = c) := by show _ = _; rw [unhide HRN]; simp [runsN]
      have hgv : ∀ g, v.ownBlock = some g → g < w.heap.size := fun g hg => (ownB_lt (unhide HOWN) hg).2
      have hgr : ∀ g, u5.ownBlock = some g → w.heap.size ≤ g := fun g hg => (ownB_lt ho hg).1
      have hsz := hb.size
      have hc4 : (c : Int) ≤ 4096 := by omega
      have hwc : IntKind.u64.wrap (c : Int) = c := wrap_size (by omega)
      have HC : Hid (Calls Tryz.prog 44 #[v, .int .u64 (c : Int), .int .i64 4] wr fun e w' => ∃ v2, e = .returned v2 ∧ (OwnB w' base v2 (zs ++ beL (c : Int) 4 4) ∧ Grew w w' v v2) ∧ OwnB w' w.heap.size u5 zr ∧ w.heap.size ≤ w'.heap.size) := by
        refine (appnum_any base zs (c : Int) 4 v wr (by omega) (own_later (unhide HOWN) hb) (by omega) (by omega)).mono fun e w' ⟨v2, he, h1, h2⟩ => ⟨v2, he, ⟨h1, (Grew.of_below hb v).trans h2⟩, ho.grew h2 (fun g h3 h4 => ?_), by have := h2.1.size; omega⟩
        have := hgv g h4
        have := hgr g h3
        omega
      have hzr2 : zr.length ≤ 5000000 := by omega
      clear hA hblk ho hb hgv hgr hys HRB HRN
      go_wp2_with (first
        | (go_at_call 44; refine (unhide HC).mono ?_; rintro e w2 ⟨v2, rfl, h2, h3, h4⟩; replace h2 := hide h2; replace h3 := hide h3)
        | (at_builtin; refine wpList_append_rows _ rfl (.tmp 29) (.tmp 30) rfl base w.heap.size v2 u5 _ zr rfl rfl (unhide h2).1 (unhide h3) (by rw [List.length_append, beL_len]; omega) (by omega) ?_; intro v3 w3 h5 h6; replace h5 := hide h5; replace h6 := hide h6))
      go_ret
      refine ⟨_, rfl, ?_, (unhide h2).2.trans (unhide h6)⟩
      rw [unhide HRB2, unhide HRN2, ← List.append_assoc]
      exact unhide h5
    | cons x ys =>
      have HYS := hide hys
      have HO := hide ho
      have HB := hide hb
      have HAA := hide hA
      have HBLK := hide hblk
      have h9 : (0 : Int) < ((x :: ys).length : Int) := by simp only [List.length_cons]; omega
      have hyl : (x :: ys).length ≤ 4096 := by rw [hys, List.length_drop]; omega
      have HAH := hide (fun W (h : Below wr.heap.size wr W) => ahead_any a' (ca - j) (x :: ys) W (by omega) (hA.later h))
      have HAP := hide (ahead_pos (x := x) (xs := ys))
      have HAL := hide (ahead_le (x :: ys))
      have hN0 : 0 < xs.length := by have := congrArg List.length hys; rw [List.length_drop, List.length_cons] at this; omega
      have hlt : ∀ ad, a' = some ad → ad.block < w.heap.size := fun ad e => by
        obtain ⟨ad0, e0, e1⟩ := hblk ad e
        rw [e1]
        exact (unhide HA).lt hN0 ad0 e0
      have HLT := hide hlt
      have hxs : x.s.size ≤ 1000 := unhide HS x (List.mem_of_mem_drop (i := j) (by rw [← hys]; simp))
      have HC1 : Hid (∀ W, Below wr.heap.size wr W → Calls Tryz.prog 44 #[u5, .int .u64 (aheadN (x :: ys) : Int), .int .i64 4] W fun e w' => ∃ v2, e = .returned v2 ∧ OwnB w' w.heap.size v2 (zr ++ beL (aheadN (x :: ys) : Int) 4 4) ∧ Below w.heap.size w w') := fun W hW => by
        refine (appnum_any w.heap.size zr (aheadN (x :: ys) : Int) 4 u5 W (by omega) (own_later ho hW) (by omega) (by have := hb.size; have := hW.size; omega)).mono fun e w' ⟨v', he, h1, h2⟩ => ⟨v', he, h1, ?_⟩
        exact (below_step hb hW).trans (h2.below (by have := hb.size; have := hW.size; omega) (fun g hg => (ownB_lt (own_later ho hW) hg).1))
      have HC2 : Hid (∀ W v2, OwnB W w.heap.size v2 (zr ++ beL (aheadN (x :: ys) : Int) 4 4) → Below w.heap.size w W → Calls Tryz.prog 62 #[v2, .agg #[.int .i64 x.k, .int .i64 x.n, .string x.s]] W fun e w' => ∃ v3, e = .returned v3 ∧ OwnB w' w.heap.size v3 ((zr ++ beL (aheadN (x :: ys) : Int) 4 4) ++ plainL x) ∧ Below w.heap.size w w') := fun W v2 hO hW => by
        refine (applain_any w.heap.size _ x v2 W hO (by rw [List.length_append, beL_len]; omega) (by omega) hW.size).mono fun e w' ⟨v', he, h1, h2⟩ => ⟨v', he, h1, ?_⟩
        exact hW.trans (h2.below hW.size (fun g hg => (ownB_lt hO hg).1))
      have HNX := hide (runs_next (x := x) (xs := ys))
      have h4 : (aheadN (x :: ys) : Int) ≤ 4096 := by have := ahead_le (x :: ys); omega
      generalize hN : (x :: ys).length = N at *
      generalize hr : aheadN (x :: ys) = R at *
      have HHN := hide hN
      clear hys ho hb hA hblk hN hr hlt
      go_upto_region 5 with (go_at_call 61; refine (unhide HAH _ (Below.refl _ _)).mono ?_; rintro e w1 ⟨rfl, hb1⟩)
      rcases unhide HAA with e | ⟨rb, ro, ea, hc⟩
      · cases e
      subst ea
      have HB1 := hide (below_step (unhide HB) hb1)
      have HSF : Hid (∀ W, Below w.heap.size w W → W.cell? ⟨rb, ro, none⟩ = some (.int .i64 x.k) ∧ W.cell? ⟨rb, ro + 1, none⟩ = some (.int .i64 x.n) ∧ W.cell? ⟨rb, ro + 2, none⟩ = some (.string x.s)) := fun W hW => by
        rcases (unhide HAA).keep (unhide HB) hW (unhide HLT) with e | ⟨rb', ro', ea, hc'⟩
        · cases e
        · injection ea with ea
          injection ea with ea1 ea2
          subst ea1 ea2
          have := hc' 0 x rfl
          simpa using this
      clear hc
      go_cut [5] (fun s5 wx => OwnB wx w.heap.size s5 ((zr ++ beL (R : Int) 4 4) ++ plainL x) ∧ Below w.heap.size w wx)
      case first =>
        rename_i K0 aK0 J1 K1 aJ aM
        have hS0 : (fun w' : World => w'.cell? ⟨rb, ro, none⟩ = some (.int .i64 x.k) ∧ w'.cell? ⟨rb, ro + 1, none⟩ = some (.int .i64 x.n) ∧ w'.cell? ⟨rb, ro + 2, none⟩ = some (.string x.s)) w1.drew := unhide HSF w1.drew ((unhide HB1).drew)
        refine wp_region_noPanic ?_
        refine wp_region_G (S := fun w' : World => w'.cell? ⟨rb, ro, none⟩ = some (.int .i64 x.k) ∧ w'.cell? ⟨rb, ro + 1, none⟩ = some (.int .i64 x.n) ∧ w'.cell? ⟨rb, ro + 2, none⟩ = some (.string x.s)) (k := 8) (by kernel_rfl) ?_
        refine anyG_takel (i := 0) (v := u5) [3, 7, 8] rfl (by kernel_rfl) (by kernel_rfl) (by kernel_rfl) (by kernel_rfl) (fun _ _ _ h => h) (Or.inl ⟨by rfl, fun w' hSw => ?_⟩) hS0 ?_
        · dsimp only at hSw; obtain ⟨q0, q1, q2⟩ := hSw; go_simp
        try simp only [Act.put, List.setIfInBounds_toArray, List.set_cons_zero, List.set_cons_succ]
        refine anyG_takel (i := 1) (v := (.int .i64 R)) [2, 3, 7, 8] rfl (by kernel_rfl) (by kernel_rfl) (by kernel_rfl) (by kernel_rfl) (fun _ _ _ h => h) (Or.inl ⟨by rfl, fun w' hSw => ?_⟩) hS0 ?_
        · dsimp only at hSw; obtain ⟨q0, q1, q2⟩ := hSw; go_simp
        try simp only [Act.put, List.setIfInBounds_toArray, List.set_cons_zero, List.set_cons_succ]
        refine anyG_takel (i := 2) (v := (.int .u64 R)) [3, 7, 8] rfl (by kernel_rfl) (by kernel_rfl) (by kernel_rfl) (by kernel_rfl) (fun _ _ _ h => h) (Or.inl ⟨by rfl, fun w' hSw => ?_⟩) hS0 ?_
        · dsimp only at hSw; obtain ⟨q0, q1, q2⟩ := hSw; go_simp; first | done | exact wrap_size (by omega)
        try simp only [Act.put, List.setIfInBounds_toArray, List.set_cons_zero, List.set_cons_succ]
        refine anyG_takel (i := 4) (v := (.slice (some ⟨rb, ro, none⟩) N (ca - j))) [5, 6, 7, 8] rfl (by kernel_rfl) (by kernel_rfl) (by kernel_rfl) (by kernel_rfl) (fun _ _ _ h => h) (Or.inl ⟨by rfl, fun w' hSw => ?_⟩) hS0 ?_
        · dsimp only at hSw; obtain ⟨q0, q1, q2⟩ := hSw; go_simp
        try simp only [Act.put, List.setIfInBounds_toArray, List.set_cons_zero, List.set_cons_succ]
        refine anyG_takel (i := 5) (v := (.pointer (some ⟨rb, ro, none⟩))) [6, 7, 8] rfl (by kernel_rfl) (by kernel_rfl) (by kernel_rfl) (by kernel_rfl) (fun _ _ _ h => h) (Or.inl ⟨by rfl, fun w' hSw => ?_⟩) hS0 ?_
        · dsimp only at hSw; obtain ⟨q0, q1, q2⟩ := hSw; go_simp
        try simp only [Act.put, List.setIfInBounds_toArray, List.set_cons_zero, List.set_cons_succ]
        refine anyG_takel (i := 6) (v := (.agg #[.int .i64 x.k, .int .i64 x.n, .string x.s])) [7, 8] rfl (by kernel_rfl) (by kernel_rfl) (by kernel_rfl) (by kernel_rfl) (fun _ _ _ h => h) (Or.inl ⟨by rfl, fun w' hSw => ?_⟩) hS0 ?_
        · dsimp only at hSw; obtain ⟨q0, q1, q2⟩ := hSw; go_simp
        try simp only [Act.put, List.setIfInBounds_toArray, List.set_cons_zero, List.set_cons_succ]
        clear hS0
        refine anyG_one (i := 3) (by kernel_rfl) ?_
        refine wpOp_lit rfl (by rfl) fun K hK => ?_
        go_simp
        refine (unhide HC1 _ (hb1.drew)).mono ?_
        rintro e w2 ⟨v2, rfl, hO2, hB2⟩
        go_simp
        have HO2 := hide hO2
        have HB2 := hide hB2
        refine unhide hK _ _ ⟨fun _ => unhide HSF _ hB2, ?_⟩
        clear hK K hO2 hB2
        refine anyG_one (i := 7) (by kernel_rfl) ?_
        refine wpOp_lit rfl (by rfl) fun K hK => ?_
        go_simp
        refine (unhide HC2 _ _ (unhide HO2) (unhide HB2)).mono ?_
        rintro e w3 ⟨v3, rfl, hO3, hB3⟩
        go_simp
        have HO3 := hide hO3
        have HB3 := hide hB3
        refine unhide hK _ _ ⟨fun _ => unhide HSF _ hB3, ?_⟩
        clear hK K hO3 hB3
        refine anyG_one (i := 8) (by kernel_rfl) ?_
        refine wpOp_lit rfl (by rfl) fun K hK => ?_
        go_simp
        refine unhide hK _ _ ⟨fun hh => absurd hh (by decide), ?_⟩
        clear hK K
        refine anyG_done (by kernel_rfl) ?_ _
        refine NoPanic.normal ?_
        go_wp2
        go_meet
        exact ⟨unhide HO3, unhide HB3⟩
      case rest =>
        obtain ⟨hO5, hB5⟩ := hcut
        have HO5 := hide hO5
        have HB5 := hide hB5
        have hRN := unhide HAL
        have hRi : (R : Int) ≤ (N : Int) := by omega
        clear hO5 hB5
        rename World => wc
        have hNx : N = xs.length - j := by have := congrArg List.length (unhide HYS); rw [List.length_drop, unhide HHN] at this; exact this
        have HROW : Hid (RowAt wc (if ca - j = R then some ⟨rb, ro, none⟩ else some ⟨rb, ro + R * 3, none⟩) ((x :: ys).drop R)) := by
          by_cases hcR : ca - j = R
          · left
            exact List.drop_eq_nil_of_le (by rw [unhide HHN]; omega)
          · rw [if_neg hcR]
            exact ((unhide HAA).keep (unhide HB) (unhide HB5) (unhide HLT)).drop (by rw [unhide HHN]; exact hRN)
        have HBK2 : Hid (∀ ad, (if ca - j = R then some (⟨rb, ro, none⟩ : Addr) else some ⟨rb, ro + R * 3, none⟩) = some ad → ∃ ad0, aa = some ad0 ∧ ad.block = ad0.block) := by
          obtain ⟨ad0, e0, e1⟩ := unhide HBLK _ rfl
          intro ad e
          split at e
          · injection e with e; subst e; exact ⟨ad0, e0, e1⟩
          · injection e with e; subst e; exact ⟨ad0, e0, e1⟩
        have hp := unhide HAP
        clear hNx
        go_wp2
        refine ⟨⟨j + R, (x :: ys).drop R, (zr ++ beL (R : Int) 4 4) ++ plainL x, c + 1, _, ?_, ?_, ?_, unhide HROW, unhide HBK2, unhide HO5, by go_num, by omega, ?_, ?_, ?_, unhide HB5⟩, ?_⟩
        · rw [unhide HYS, List.drop_drop]
        · have := congrArg List.length (unhide HYS); rw [List.length_drop, unhide HHN] at this; omega
        · rw [List.length_drop, unhide HHN, Nat.sub_sub]
        · show _ = _
          rw [unhide HRB, (unhide HNX).1]
          simp only [List.append_assoc]
        · show _ = _
          rw [unhide HRN, (unhide HNX).2]
          omega
        · have := plainL_len x
          rw [List.length_append, List.length_append, beL_len]
          have : 1012 * (j + R) = 1012 * j + 1012 * R := by rw [Nat.mul_add]
          omega
        · show N - R < N
          omega
end Go.Proofs.YtjnggnhgambmkaaGreat

import Derived.Test.YtcpndojkfngioaaGreatLkC
import Derived.Test.YtcpndojkfngioaaGreatCoB
set_option linter.unusedSimpArgs false
set_option linter.unusedVariables false
namespace Go.Proofs.YtcpndojkfngioaaGreat
open Go.RowKit Go.Sort

/-- The columns of an expression. -/
def colX (e : Ex) : List Int := if builtE e then uniqI (colsE e) else []
theorem colX_le (e : Ex) : (colX e).length ≤ 400 := by
  unfold colX
  split
  · rename_i h
    have h1 := (uniq_sd (colsE e)).2.2
    have h2 := cols_size e
    have h3 := (built_bounds h).1
    omega
  · simp
/-- The columns of which a plan speaks itself. -/
def colsOv (p : Pl) : List Int := if p.op == 6 then p.cols ++ p.aggs.map Prod.snd else if p.op == 9 then p.keys.map Prod.fst else if p.op == 10 then (p.cols ++ p.keys.map Prod.fst) ++ [p.col] else p.ex.flatMap colX
theorem flat_le (l : List Ex) : (l.flatMap colX).length ≤ 400 * l.length := by
  induction l with
  | nil => simp
  | cons e l ih => rw [List.flatMap_cons, List.length_append, List.length_cons]; have := colX_le e; omega
/-- Two lists side by side. -/
def LL2 (W : World) (g : Nat) (x y : Ls) : Prop := ∀ (i : Nat) z, [x, y][i]? = some z → W.cell? ⟨g, i, none⟩ = some (.slice z.1 z.2.2.length z.2.1)
theorem LL2.later {W W' : World} {g : Nat} {x y : Ls} (h : LL2 W g x y) (hb : Below W.heap.size W W') : LL2 W' g x y := fun i z hz => clater (h i z hz) hb
theorem concat_two (x y : Ls) (g : Nat) (W : World) (h1 : x.2.2.length ≤ 1048576) (h2 : y.2.2.length ≤ 1048576) (hc : LL2 W g x y) (hx : IntsAt W x.1 x.2.2) (hy : IntsAt W y.1 y.2.2) {L : List Int} (hL : L = x.2.2 ++ y.2.2) : Calls Tryz.prog 81 #[.slice (some ⟨g, 0, none⟩) 2 2] W (OwnQ L W) := by
  have h := concat_any [x, y] g 2 W (by simp) (by simp; omega) fun i z hz => ⟨hc i z hz, by
    match i with
    | 0 => obtain rfl : x = z := by simpa using hz
           exact hx
    | 1 => obtain rfl : y = z := by simpa using hz
           exact hy
    | i + 2 => simp at hz⟩
  have e : (([x, y] : List Ls).flatMap fun z => z.2.2) = L := by rw [hL]; simp
  rw [e] at h
  exact h
set_option maxHeartbeats 8000000 in
set_option maxRecDepth 100000 in
/-- columns (63). -/
theorem columns_any (b : Nat) (p : Pl) (m : Pm) (hf : p.fin) (hel : p.ex.length ≤ 32) (w : World) (hE : Elv w b 0 p m) (ho : Own4 w p m) : Calls Tryz.prog 63 #[.pointer (some ⟨b, 0, none⟩)] w (OwnQ (colsOv p) w) := by
  obtain ⟨⟨f1, f2, f3, f4, f5, f6, f7, fc, fk, fa⟩, hfx, _⟩ := Pl.fin_open hf
  obtain ⟨R, hR⟩ : ∃ R, R = colsOv p := ⟨_, rfl⟩
  rw [← hR]
  have hb0 := below_alloc (Below.refl _ w) (p.box m)
  have HLD := hide hE.load
  have HE := hide (Elv.new w p m)
  have HB := hide hb0
  have HO := hide (ho.later hb0)
  have HFX := hide hfx
  have HR := hide hR
  rw [Pl.val_open] at HLD
  unfold Pl.box at HE HB HO
  clear hR hb0 hE ho hf hfx fc fk fa
  obtain ⟨wa, hwa⟩ : ∃ wa, wa = w.alloc (.cells #[.int .i64 p.op, .string p.tab, .slice m.aE p.ex.length m.cE, .slice m.aC p.cols.length m.cC, .slice m.aK p.keys.length m.cK, .slice m.aA p.aggs.length m.cA, .int .i64 p.fn, .int .i64 p.col, .int .i64 p.n, .int .i64 p.off, .slice m.aP p.args.length m.cP] 28) := ⟨_, rfl⟩
  rw [← hwa] at HE HB HO
  have HWA := hide hwa
  clear hwa
  obtain ⟨c0, -, c2, c3, c4, c5, c6, c7, -, -, -⟩ := unhide HE
  simp only [Nat.zero_add] at c2 c3 c4 c5 c6 c7
  go_enter Tryz.func63, Tryz.ntmps63
  go_upto_region 2 with (refine wpList_load_w ?_ 28 (.tmp 12) rfl _ (by simp [Act.eval]) _ (unhide HLD) ?_; · simp [Region.wanted, yielded])
  rw [← unhide HWA]
  clear HWA HLD
  have HBQ := HB
  by_cases o6 : p.op = 6
  · have e6 : (p.op == 6) = true := by simpa using o6
    have hRk : R = p.cols ++ p.aggs.map Prod.snd := by rw [unhide HR]; unfold colsOv; rw [o6]; rfl
    have HRK := hide hRk
    have HC := hide (clone_any p.cols m.aC m.cC wa (by omega) (unhide HO).c)
    clear o6 hRk HR c2 c4 c6 c7
    go_upto_region 5 with (go_at_call 82; refine (unhide HC).mono ?_; rintro r w1 ⟨a1, c1, rfl, hO1, hb1⟩)
    have HO1 := hide hO1
    have HB1 := hide hb1
    have e5 := clater c5 hb1
    clear hO1 hb1 HC c3 c5 c0
    go_wp2_with fail
    go_loopw [4, 24] (fun v i wr => ∃ (k N : Nat) (zs : List Int) (a3 : Option Addr) (c3 : Nat), k ≤ p.aggs.length ∧ N ≤ 2097152 ∧ i = .int .i64 (k : Int) ∧ v = .slice a3 N c3 ∧ Hid (zs.length = N) ∧ Hid (N = p.cols.length + k) ∧ Hid (zs = p.cols ++ (p.aggs.take k).map Prod.snd) ∧ Hid (OwnI wr wa.heap.size (.slice a3 N c3) zs) ∧ Hid (Below wa.heap.size wa wr)) (fun _ i _ => p.aggs.length - (intOf i).toNat)
    case atStart => exact ⟨0, p.cols.length, p.cols, a1, c1, Nat.zero_le _, by omega, rfl, rfl, rfl, rfl, (by show _ = _; simp), unhide HO1, unhide HB1⟩
    case round =>
      clear HO1 HB1 e5
      obtain ⟨k, N, zs, a3, c3y, hk, hN, rfl, rfl, HZL, HN, HZS, HOz, HBk⟩ := hrel
      by_cases hlt : k < p.aggs.length
      · have h9 : (k : Int) < (p.aggs.length : Int) := by omega
        obtain ⟨x, hx⟩ : ∃ x, p.aggs[k]? = some x := ⟨_, List.getElem?_eq_getElem hlt⟩
        obtain ⟨b', off, ea, d0, d1⟩ := ((unhide HO).a.later (unhide HBk)).get hx
        have HT := hide (take_snocI Prod.snd hx)
        obtain ⟨f, c⟩ := x
        simp only at d0 d1 HT
        rw [ea]
        have hba := below_alloc (Below.refl _ wr) (.cells #[.int .i64 f, .int .i64 c] 100)
        have HOa := hide ((unhide HOz).later hba)
        have HZS2 : Hid (zs ++ [c] = p.cols ++ (p.aggs.take (k + 1)).map Prod.snd) := by show _ = _; rw [unhide HT, unhide HZS, List.append_assoc]
        have HS := hide (own_single2 wr (.cells #[.int .i64 f, .int .i64 c] 100) wa.heap.size (unhide HBk).size c)
        have hbs := below_alloc (Below.refl _ (wr.alloc (.cells #[.int .i64 f, .int .i64 c] 100))) (.cells #[.int .i64 c] 3)
        have HO1 := hide ((unhide HOa).later hbs)
        have HB1 := hide (below_step (unhide HBk) (below_step hba hbs))
        clear HT HZS HOa hbs hba HBk ea hx HOz
        go_wp2_with (at_builtin; refine wpList_push_ints _ rfl (.tmp 28) (.tmp 31) rfl wa.heap.size wa.heap.size _ _ zs [c] rfl (unhide HO1) rfl (unhide HS) (by rw [unhide HZL]; simp; omega) (unhide HB1).size ?_; intro v' w' hO' hB')
        obtain ⟨a4, c4, rfl⟩ := hO'.slice
        have e : (zs ++ [c]).length = N + 1 := by rw [List.length_append, unhide HZL]; rfl
        rw [e] at hO' ⊢
        exact ⟨⟨k + 1, N + 1, zs ++ [c], a4, c4, by omega, by have := unhide HN; omega, by go_num, rfl, e, (by show _ = _; have := unhide HN; omega), unhide HZS2, hO', (unhide HB1).trans hB'⟩, by simp [intOf]; omega⟩
      · have h9 : ¬ (k : Int) < (p.aggs.length : Int) := by omega
        obtain rfl : k = p.aggs.length := by omega
        rw [List.take_length] at HZS
        clear hk hlt
        go_wp2
        go_ret
        rw [unhide HRK, ← unhide HZS]
        refine ⟨a3, c3y, by rw [unhide HZL]; rfl, ?_, below_step (unhide HBQ) (unhide HBk)⟩
        rw [unhide HZL]
        exact (unhide HOz).base_le (unhide HBQ).size
  by_cases o9 : p.op = 9
  · have e6 : (p.op == 6) = false := by simpa using o6
    have e9 : (p.op == 9) = true := by simpa using o9
    have hRk : R = p.keys.map Prod.fst := by rw [unhide HR]; unfold colsOv; rw [o9]; rfl
    have HC := hide (columnsOf_any p.keys m.aK m.cK wa f4 (unhide HO).k)
    rw [← hRk] at HC
    clear o6 o9 hRk HR c2 c3 c5 c6 c7
    go_wp2_with (go_at_call 84; refine (unhide HC).mono ?_; rintro r w1 ⟨a1, c1, rfl, hO1, hb1⟩)
    go_ret
    exact ⟨a1, c1, rfl, hO1.base_le (unhide HBQ).size, below_step (unhide HBQ) hb1⟩
  by_cases o10 : p.op = 10
  · have e6 : (p.op == 6) = false := by simpa using o6
    have e9 : (p.op == 9) = false := by simpa using o9
    have e10 : (p.op == 10) = true := by simpa using o10
    have hRk : R = (p.cols ++ p.keys.map Prod.fst) ++ [p.col] := by rw [unhide HR]; unfold colsOv; rw [o10]; rfl
    have HKC := hide (fun (W : World) (hW : Below wa.heap.size wa W) => columnsOf_any p.keys m.aK m.cK W f4 ((unhide HO).k.later hW))
    have hkcl : (p.keys.map Prod.fst).length ≤ 1048576 := by rw [List.length_map]; exact f4
    have HCI := hide (unhide HO).c
    have HC3 := hide c3
    have HC4 := hide c4
    have HC7 := hide c7
    generalize p.keys.map Prod.fst = kc at *
    obtain ⟨L6, hL6⟩ : ∃ L, L = p.cols ++ kc := ⟨_, rfl⟩
    rw [← hL6] at hRk
    have hl6 : L6.length ≤ 2097152 := by rw [hL6, List.length_append]; omega
    have HL6 := hide hL6
    have HRK := hide hRk
    clear o6 o9 o10 hRk HR c2 c3 c4 c5 c6 c7 hL6
    go_upto_region 14 with fail
    have HS0 := hide ((Below.refl wa.heap.size wa).drew)
    refine wp_region_noPanic ?_
    refine wp_region_G (S := fun w' : World => Below wa.heap.size wa w') (k := 11) (by kernel_rfl) ?_
    refine anyG_takel (i := 0) (v := (.pointer (some ⟨w.heap.size, 3, none⟩))) [1, 5, 6, 10, 11] rfl (by kernel_rfl) (by kernel_rfl) (by kernel_rfl) (by kernel_rfl) (fun _ _ _ h => h) (Or.inl ⟨by rfl, fun w' hSw => ?_⟩) (unhide HS0) ?_
    · go_simp
    try simp only [Act.put, List.setIfInBounds_toArray, List.set_cons_zero, List.set_cons_succ]
    refine anyG_takel (i := 1) (v := (.slice m.aC p.cols.length m.cC)) [5, 6, 10, 11] rfl (by kernel_rfl) (by kernel_rfl) (by kernel_rfl) (by kernel_rfl) (fun _ _ _ h => h) (Or.inl ⟨by rfl, fun w' hSw => ?_⟩) (unhide HS0) ?_
    · have e5 := clater (unhide HC3) hSw; go_simp
    try simp only [Act.put, List.setIfInBounds_toArray, List.set_cons_zero, List.set_cons_succ]
    refine anyG_takel (i := 2) (v := (.pointer (some ⟨w.heap.size, 4, none⟩))) [3, 4, 5, 6, 10, 11] rfl (by kernel_rfl) (by kernel_rfl) (by kernel_rfl) (by kernel_rfl) (fun _ _ _ h => h) (Or.inl ⟨by rfl, fun w' hSw => ?_⟩) (unhide HS0) ?_
    · go_simp
    try simp only [Act.put, List.setIfInBounds_toArray, List.set_cons_zero, List.set_cons_succ]
    refine anyG_takel (i := 3) (v := (.slice m.aK p.keys.length m.cK)) [4, 5, 6, 10, 11] rfl (by kernel_rfl) (by kernel_rfl) (by kernel_rfl) (by kernel_rfl) (fun _ _ _ h => h) (Or.inl ⟨by rfl, fun w' hSw => ?_⟩) (unhide HS0) ?_
    · have e5 := clater (unhide HC4) hSw; go_simp
    try simp only [Act.put, List.setIfInBounds_toArray, List.set_cons_zero, List.set_cons_succ]
    refine anyG_takel (i := 7) (v := (.pointer (some ⟨w.heap.size, 7, none⟩))) [8, 9, 10, 11] rfl (by kernel_rfl) (by kernel_rfl) (by kernel_rfl) (by kernel_rfl) (fun _ _ _ h => h) (Or.inl ⟨by rfl, fun w' hSw => ?_⟩) (unhide HS0) ?_
    · go_simp
    try simp only [Act.put, List.setIfInBounds_toArray, List.set_cons_zero, List.set_cons_succ]
    refine anyG_takel (i := 8) (v := (.int .i64 p.col)) [9, 10, 11] rfl (by kernel_rfl) (by kernel_rfl) (by kernel_rfl) (by kernel_rfl) (fun _ _ _ h => h) (Or.inl ⟨by rfl, fun w' hSw => ?_⟩) (unhide HS0) ?_
    · have e5 := clater (unhide HC7) hSw; go_simp
    try simp only [Act.put, List.setIfInBounds_toArray, List.set_cons_zero, List.set_cons_succ]
    obtain ⟨W0, hW0⟩ : ∃ W, W = wa.drew := ⟨_, rfl⟩
    rw [← hW0] at HS0
    change anyG _ _ _ _ _ _ _ _ _ wa.drew
    rw [← hW0]
    clear hW0
    refine anyG_many [4, 9] (by kernel_rfl) (by simp) ?_
    intro i hi
    simp only [List.mem_cons, List.not_mem_nil, or_false] at hi
    rcases hi with rfl | rfl
    · refine wpOp_lit rfl (by rfl) fun K' hK' => ?_
      go_simp
      refine (unhide HKC _ (unhide HS0)).mono ?_
      rintro r W2 ⟨a2, c2, rfl, hO2, hb2⟩
      go_simp
      have HO42 := hide hO2
      have HS2 := hide (below_step (unhide HS0) hb2)
      clear hO2 hb2
      refine unhide hK' _ _ ⟨fun _ => unhide HS2, ?_⟩
      clear hK' K'
      refine anyG_many [5, 9] (by kernel_rfl) (by simp) ?_
      intro i hi
      simp only [List.mem_cons, List.not_mem_nil, or_false] at hi
      rcases hi with rfl | rfl
      · refine wpOp_lit rfl (by rfl) fun K' hK' => ?_
        go_simp
        have hb4 := below_alloc (Below.refl _ W2) (.cells #[.slice m.aC p.cols.length m.cC, .slice a2 kc.length c2] 23)
        have HO44 := hide ((unhide HO42).later hb4)
        have HL4 : Hid (LL2 ((W2).alloc (.cells #[.slice m.aC p.cols.length m.cC, .slice a2 kc.length c2] 23)) W2.heap.size (m.aC, m.cC, p.cols) (a2, c2, kc)) := two_ls W2 (m.aC, m.cC, p.cols) (a2, c2, kc)
        have HS4 := hide (below_step (unhide HS2) hb4)
        obtain ⟨W4, hW4⟩ : ∃ W, W = (W2).alloc (.cells #[.slice m.aC p.cols.length m.cC, .slice a2 kc.length c2] 23) := ⟨_, rfl⟩
        obtain ⟨b4, hbn4⟩ : ∃ b, b = W2.heap.size := ⟨_, rfl⟩
        rw [← hbn4] at HL4
        rw [← hW4] at HS4 HL4 HO44 ⊢
        rw [← hbn4]
        clear hW4 hb4 hbn4
        refine unhide hK' _ _ ⟨fun _ => unhide HS4, ?_⟩
        clear hK' K'
        refine anyG_many [6, 9] (by kernel_rfl) (by simp) ?_
        intro i hi
        simp only [List.mem_cons, List.not_mem_nil, or_false] at hi
        rcases hi with rfl | rfl
        · refine wpOp_lit rfl (by rfl) fun K' hK' => ?_
          go_simp
          refine (concat_two (m.aC, m.cC, p.cols) (a2, c2, kc) b4 W4 (by simp only; omega) (by simp only; omega) (unhide HL4) ((unhide HCI).later (unhide HS4)) (unhide HO44).ints (L := L6) (unhide HL6)).mono ?_
          rintro r W6 ⟨a6, c6, rfl, hO6, hb6⟩
          go_simp
          have HO46 := hide ((unhide HO44).later hb6)
          have HL6 := hide ((unhide HL4).later hb6)
          have HO66 := hide hO6
          have HS6 := hide (below_step (unhide HS4) hb6)
          have HZ6 : Hid (wa.heap.size ≤ W4.heap.size) := (unhide HS4).size
          clear hO6 hb6
          refine unhide hK' _ _ ⟨fun _ => unhide HS6, ?_⟩
          clear hK' K'
          refine anyG_one (i := 9) (by kernel_rfl) ?_
          refine wpOp_lit rfl (by rfl) fun K' hK' => ?_
          go_simp
          have hb8 := below_alloc (Below.refl _ W6) (.cells #[.int .i64 p.col] 3)
          have HO48 := hide ((unhide HO46).later hb8)
          have HL8 := hide ((unhide HL6).later hb8)
          have HO68 := hide ((unhide HO66).later hb8)
          have HN8 := hide (own_single W6 wa.heap.size (unhide HS6).size p.col)
          have HS8 := hide (below_step (unhide HS6) hb8)
          obtain ⟨W8, hW8⟩ : ∃ W, W = (W6).alloc (.cells #[.int .i64 p.col] 3) := ⟨_, rfl⟩
          have hz8 : (W6).heap.size = W6.heap.size := rfl
          obtain ⟨b8, hbn8⟩ : ∃ b, b = W6.heap.size := ⟨_, rfl⟩
          rw [hz8, ← hbn8] at HN8
          rw [← hW8] at HS8 HN8 HO48 HL8 HO68 ⊢
          rw [← hbn8]
          clear hW8 hb8 hz8 hbn8
          refine unhide hK' _ _ ⟨fun _ => unhide HS8, ?_⟩
          clear hK' K'
          refine anyG_one (i := 10) (by kernel_rfl) ?_
          refine wpOp_lit rfl (by rfl) fun K' hK' => ?_
          refine op_push_far (.tmp 48) (.tmp 51) rfl wa.heap.size _ L6 [p.col] (some ⟨b8, 0, none⟩) 1 rfl ((unhide HO68).base_le (unhide HZ6)) rfl (unhide HN8).ints (by simp; omega) (unhide HS8).size ?_
          intro v10 W10 hO10 hb10
          have HS10 := hide ((unhide HS8).trans hb10)
          obtain ⟨a10, c10, rfl⟩ := hO10.slice
          rw [← unhide HRK] at hO10 ⊢
          try simp only [Act.put, List.setIfInBounds_toArray, List.set_cons_zero, List.set_cons_succ]
          refine unhide hK' _ _ ⟨fun _ => unhide HS10, ?_⟩
          clear hK' K'
          refine anyG_one (i := 11) (by kernel_rfl) ?_
          refine wpOp_lit rfl (by rfl) fun K' hK' => ?_
          go_simp
          refine unhide hK' _ _ ⟨fun hh => absurd hh (by decide), ?_⟩
          clear hK' K'
          refine anyG_done (by kernel_rfl) ?_ _
          refine NoPanic.normal ?_
          go_wp2
          go_ret
          exact ⟨a10, c10, rfl, hO10.base_le (unhide HBQ).size, below_step (unhide HBQ) (unhide HS10)⟩
        · refine wpOp_lit rfl (by rfl) fun K' hK' => ?_
          go_simp
          have hb11 := below_alloc (Below.refl _ W4) (.cells #[.int .i64 p.col] 3)
          have HO411 := hide ((unhide HO44).later hb11)
          have HL11 := hide ((unhide HL4).later hb11)
          have HN11 := hide (own_single W4 wa.heap.size (unhide HS4).size p.col)
          have HS11 := hide (below_step (unhide HS4) hb11)
          obtain ⟨W11, hW11⟩ : ∃ W, W = (W4).alloc (.cells #[.int .i64 p.col] 3) := ⟨_, rfl⟩
          have hz11 : (W4).heap.size = W4.heap.size := rfl
          obtain ⟨b11, hbn11⟩ : ∃ b, b = W4.heap.size := ⟨_, rfl⟩
          rw [hz11, ← hbn11] at HN11
          rw [← hW11] at HS11 HN11 HO411 HL11 ⊢
          rw [← hbn11]
          clear hW11 hb11 hz11 hbn11
          refine unhide hK' _ _ ⟨fun _ => unhide HS11, ?_⟩
          clear hK' K'
          refine anyG_one (i := 6) (by kernel_rfl) ?_
          refine wpOp_lit rfl (by rfl) fun K' hK' => ?_
          go_simp
          refine (concat_two (m.aC, m.cC, p.cols) (a2, c2, kc) b4 W11 (by simp only; omega) (by simp only; omega) (unhide HL11) ((unhide HCI).later (unhide HS11)) (unhide HO411).ints (L := L6) (unhide HL6)).mono ?_
          rintro r W13 ⟨a13, c13, rfl, hO13, hb13⟩
          go_simp
          have HO413 := hide ((unhide HO411).later hb13)
          have HL13 := hide ((unhide HL11).later hb13)
          have HN13 := hide ((unhide HN11).later hb13)
          have HO613 := hide hO13
          have HS13 := hide (below_step (unhide HS11) hb13)
          have HZ13 : Hid (wa.heap.size ≤ W11.heap.size) := (unhide HS11).size
          clear hO13 hb13
          refine unhide hK' _ _ ⟨fun _ => unhide HS13, ?_⟩
          clear hK' K'
          refine anyG_one (i := 10) (by kernel_rfl) ?_
          refine wpOp_lit rfl (by rfl) fun K' hK' => ?_
          refine op_push_far (.tmp 48) (.tmp 51) rfl wa.heap.size _ L6 [p.col] (some ⟨b11, 0, none⟩) 1 rfl ((unhide HO613).base_le (unhide HZ13)) rfl (unhide HN13).ints (by simp; omega) (unhide HS13).size ?_
          intro v15 W15 hO15 hb15
          have HS15 := hide ((unhide HS13).trans hb15)
          obtain ⟨a15, c15, rfl⟩ := hO15.slice
          rw [← unhide HRK] at hO15 ⊢
          try simp only [Act.put, List.setIfInBounds_toArray, List.set_cons_zero, List.set_cons_succ]
          refine unhide hK' _ _ ⟨fun _ => unhide HS15, ?_⟩
          clear hK' K'
          refine anyG_one (i := 11) (by kernel_rfl) ?_
          refine wpOp_lit rfl (by rfl) fun K' hK' => ?_
          go_simp
          refine unhide hK' _ _ ⟨fun hh => absurd hh (by decide), ?_⟩
          clear hK' K'
          refine anyG_done (by kernel_rfl) ?_ _
          refine NoPanic.normal ?_
          go_wp2
          go_ret
          exact ⟨a15, c15, rfl, hO15.base_le (unhide HBQ).size, below_step (unhide HBQ) (unhide HS15)⟩
      · refine wpOp_lit rfl (by rfl) fun K' hK' => ?_
        go_simp
        have hb16 := below_alloc (Below.refl _ W2) (.cells #[.int .i64 p.col] 3)
        have HO416 := hide ((unhide HO42).later hb16)
        have HN16 := hide (own_single W2 wa.heap.size (unhide HS2).size p.col)
        have HS16 := hide (below_step (unhide HS2) hb16)
        obtain ⟨W16, hW16⟩ : ∃ W, W = (W2).alloc (.cells #[.int .i64 p.col] 3) := ⟨_, rfl⟩
        have hz16 : (W2).heap.size = W2.heap.size := rfl
        obtain ⟨b16, hbn16⟩ : ∃ b, b = W2.heap.size := ⟨_, rfl⟩
        rw [hz16, ← hbn16] at HN16
        rw [← hW16] at HS16 HN16 HO416 ⊢
        rw [← hbn16]
        clear hW16 hb16 hz16 hbn16
        refine unhide hK' _ _ ⟨fun _ => unhide HS16, ?_⟩
        clear hK' K'
        refine anyG_one (i := 5) (by kernel_rfl) ?_
        refine wpOp_lit rfl (by rfl) fun K' hK' => ?_
        go_simp
        have hb18 := below_alloc (Below.refl _ W16) (.cells #[.slice m.aC p.cols.length m.cC, .slice a2 kc.length c2] 23)
        have HO418 := hide ((unhide HO416).later hb18)
        have HN18 := hide ((unhide HN16).later hb18)
        have HL18 : Hid (LL2 ((W16).alloc (.cells #[.slice m.aC p.cols.length m.cC, .slice a2 kc.length c2] 23)) W16.heap.size (m.aC, m.cC, p.cols) (a2, c2, kc)) := two_ls W16 (m.aC, m.cC, p.cols) (a2, c2, kc)
        have HS18 := hide (below_step (unhide HS16) hb18)
        obtain ⟨W18, hW18⟩ : ∃ W, W = (W16).alloc (.cells #[.slice m.aC p.cols.length m.cC, .slice a2 kc.length c2] 23) := ⟨_, rfl⟩
        obtain ⟨b18, hbn18⟩ : ∃ b, b = W16.heap.size := ⟨_, rfl⟩
        rw [← hbn18] at HL18
        rw [← hW18] at HS18 HL18 HO418 HN18 ⊢
        rw [← hbn18]
        clear hW18 hb18 hbn18
        refine unhide hK' _ _ ⟨fun _ => unhide HS18, ?_⟩
        clear hK' K'
        refine anyG_one (i := 6) (by kernel_rfl) ?_
        refine wpOp_lit rfl (by rfl) fun K' hK' => ?_
        go_simp
        refine (concat_two (m.aC, m.cC, p.cols) (a2, c2, kc) b18 W18 (by simp only; omega) (by simp only; omega) (unhide HL18) ((unhide HCI).later (unhide HS18)) (unhide HO418).ints (L := L6) (unhide HL6)).mono ?_
        rintro r W20 ⟨a20, c20, rfl, hO20, hb20⟩
        go_simp
        have HO420 := hide ((unhide HO418).later hb20)
        have HN20 := hide ((unhide HN18).later hb20)
        have HL20 := hide ((unhide HL18).later hb20)
        have HO620 := hide hO20
        have HS20 := hide (below_step (unhide HS18) hb20)
        have HZ20 : Hid (wa.heap.size ≤ W18.heap.size) := (unhide HS18).size
        clear hO20 hb20
        refine unhide hK' _ _ ⟨fun _ => unhide HS20, ?_⟩
        clear hK' K'
        refine anyG_one (i := 10) (by kernel_rfl) ?_
        refine wpOp_lit rfl (by rfl) fun K' hK' => ?_
        refine op_push_far (.tmp 48) (.tmp 51) rfl wa.heap.size _ L6 [p.col] (some ⟨b16, 0, none⟩) 1 rfl ((unhide HO620).base_le (unhide HZ20)) rfl (unhide HN20).ints (by simp; omega) (unhide HS20).size ?_
        intro v22 W22 hO22 hb22
        have HS22 := hide ((unhide HS20).trans hb22)
        obtain ⟨a22, c22, rfl⟩ := hO22.slice
        rw [← unhide HRK] at hO22 ⊢
        try simp only [Act.put, List.setIfInBounds_toArray, List.set_cons_zero, List.set_cons_succ]
        refine unhide hK' _ _ ⟨fun _ => unhide HS22, ?_⟩
        clear hK' K'
        refine anyG_one (i := 11) (by kernel_rfl) ?_
        refine wpOp_lit rfl (by rfl) fun K' hK' => ?_
        go_simp
        refine unhide hK' _ _ ⟨fun hh => absurd hh (by decide), ?_⟩
        clear hK' K'
        refine anyG_done (by kernel_rfl) ?_ _
        refine NoPanic.normal ?_
        go_wp2
        go_ret
        exact ⟨a22, c22, rfl, hO22.base_le (unhide HBQ).size, below_step (unhide HBQ) (unhide HS22)⟩
    · refine wpOp_lit rfl (by rfl) fun K' hK' => ?_
      go_simp
      have hb23 := below_alloc (Below.refl _ W0) (.cells #[.int .i64 p.col] 3)
      have HN23 := hide (own_single W0 wa.heap.size (unhide HS0).size p.col)
      have HS23 := hide (below_step (unhide HS0) hb23)
      obtain ⟨W23, hW23⟩ : ∃ W, W = (W0).alloc (.cells #[.int .i64 p.col] 3) := ⟨_, rfl⟩
      have hz23 : (W0).heap.size = W0.heap.size := rfl
      obtain ⟨b23, hbn23⟩ : ∃ b, b = W0.heap.size := ⟨_, rfl⟩
      rw [hz23, ← hbn23] at HN23
      rw [← hW23] at HS23 HN23  ⊢
      rw [← hbn23]
      clear hW23 hb23 hz23 hbn23
      refine unhide hK' _ _ ⟨fun _ => unhide HS23, ?_⟩
      clear hK' K'
      refine anyG_one (i := 4) (by kernel_rfl) ?_
      refine wpOp_lit rfl (by rfl) fun K' hK' => ?_
      go_simp
      refine (unhide HKC _ (unhide HS23)).mono ?_
      rintro r W25 ⟨a25, c25, rfl, hO25, hb25⟩
      go_simp
      have HN25 := hide ((unhide HN23).later hb25)
      have HO425 := hide hO25
      have HS25 := hide (below_step (unhide HS23) hb25)
      clear hO25 hb25
      refine unhide hK' _ _ ⟨fun _ => unhide HS25, ?_⟩
      clear hK' K'
      refine anyG_one (i := 5) (by kernel_rfl) ?_
      refine wpOp_lit rfl (by rfl) fun K' hK' => ?_
      go_simp
      have hb27 := below_alloc (Below.refl _ W25) (.cells #[.slice m.aC p.cols.length m.cC, .slice a25 kc.length c25] 23)
      have HN27 := hide ((unhide HN25).later hb27)
      have HO427 := hide ((unhide HO425).later hb27)
      have HL27 : Hid (LL2 ((W25).alloc (.cells #[.slice m.aC p.cols.length m.cC, .slice a25 kc.length c25] 23)) W25.heap.size (m.aC, m.cC, p.cols) (a25, c25, kc)) := two_ls W25 (m.aC, m.cC, p.cols) (a25, c25, kc)
      have HS27 := hide (below_step (unhide HS25) hb27)
      obtain ⟨W27, hW27⟩ : ∃ W, W = (W25).alloc (.cells #[.slice m.aC p.cols.length m.cC, .slice a25 kc.length c25] 23) := ⟨_, rfl⟩
      obtain ⟨b27, hbn27⟩ : ∃ b, b = W25.heap.size := ⟨_, rfl⟩
      rw [← hbn27] at HL27
      rw [← hW27] at HS27 HL27 HN27 HO427 ⊢
      rw [← hbn27]
      clear hW27 hb27 hbn27
      refine unhide hK' _ _ ⟨fun _ => unhide HS27, ?_⟩
      clear hK' K'
      refine anyG_one (i := 6) (by kernel_rfl) ?_
      refine wpOp_lit rfl (by rfl) fun K' hK' => ?_
      go_simp
      refine (concat_two (m.aC, m.cC, p.cols) (a25, c25, kc) b27 W27 (by simp only; omega) (by simp only; omega) (unhide HL27) ((unhide HCI).later (unhide HS27)) (unhide HO427).ints (L := L6) (unhide HL6)).mono ?_
      rintro r W29 ⟨a29, c29, rfl, hO29, hb29⟩
      go_simp
      have HN29 := hide ((unhide HN27).later hb29)
      have HO429 := hide ((unhide HO427).later hb29)
      have HL29 := hide ((unhide HL27).later hb29)
      have HO629 := hide hO29
      have HS29 := hide (below_step (unhide HS27) hb29)
      have HZ29 : Hid (wa.heap.size ≤ W27.heap.size) := (unhide HS27).size
      clear hO29 hb29
      refine unhide hK' _ _ ⟨fun _ => unhide HS29, ?_⟩
      clear hK' K'
      refine anyG_one (i := 10) (by kernel_rfl) ?_
      refine wpOp_lit rfl (by rfl) fun K' hK' => ?_
      refine op_push_far (.tmp 48) (.tmp 51) rfl wa.heap.size _ L6 [p.col] (some ⟨b23, 0, none⟩) 1 rfl ((unhide HO629).base_le (unhide HZ29)) rfl (unhide HN29).ints (by simp; omega) (unhide HS29).size ?_
      intro v31 W31 hO31 hb31
      have HS31 := hide ((unhide HS29).trans hb31)
      obtain ⟨a31, c31, rfl⟩ := hO31.slice
      rw [← unhide HRK] at hO31 ⊢
      try simp only [Act.put, List.setIfInBounds_toArray, List.set_cons_zero, List.set_cons_succ]
      refine unhide hK' _ _ ⟨fun _ => unhide HS31, ?_⟩
      clear hK' K'
      refine anyG_one (i := 11) (by kernel_rfl) ?_
      refine wpOp_lit rfl (by rfl) fun K' hK' => ?_
      go_simp
      refine unhide hK' _ _ ⟨fun hh => absurd hh (by decide), ?_⟩
      clear hK' K'
      refine anyG_done (by kernel_rfl) ?_ _
      refine NoPanic.normal ?_
      go_wp2
      go_ret
      exact ⟨a31, c31, rfl, hO31.base_le (unhide HBQ).size, below_step (unhide HBQ) (unhide HS31)⟩
  have e6 : (p.op == 6) = false := by simpa using o6
  have e9 : (p.op == 9) = false := by simpa using o9
  have e10 : (p.op == 10) = false := by simpa using o10
  have hRk : R = p.ex.flatMap colX := by rw [unhide HR]; unfold colsOv; rw [e6, e9, e10]; rfl
  have HRK := hide hRk
  clear o6 o9 o10 hRk HR c3 c4 c5 c6 c7
  go_wp2_with fail
  go_loopw [7, 56] (fun v i wr => ∃ (k : Nat) (zs : List Int), k ≤ p.ex.length ∧ i = .int .i64 (k : Int) ∧ zs.length ≤ 12800 ∧ Hid (zs = (p.ex.take k).flatMap colX) ∧ Hid (OwnI wr wa.heap.size v zs) ∧ Hid (Below wa.heap.size wa wr)) (fun _ i _ => p.ex.length - (intOf i).toNat)
  case atStart => exact ⟨0, [], Nat.zero_le _, rfl, by simp, (by show _ = _; simp), own_nil _ _, Below.refl _ _⟩
  case round =>
    obtain ⟨k, zs, hk, rfl, hzl, HZS, HOz, HBk⟩ := hrel
    obtain ⟨a3, c3, rfl⟩ := (unhide HOz).slice
    by_cases hlt : k < p.ex.length
    · have h9 : (k : Int) < (p.ex.length : Int) := by omega
      obtain ⟨x, hx⟩ : ∃ x, p.ex[k]? = some x := ⟨_, List.getElem?_eq_getElem hlt⟩
      obtain ⟨vb, vo, ea, hat⟩ := Ex.all_get (Ex.all_later _ (unhide HO).e (unhide HBk)) hx
      obtain ⟨a', c', ⟨d0, d1, d2, d3, d4, d5⟩, hal⟩ := Ex.at_open hat
      have hba := below_alloc (Below.refl _ wr) (.cells #[.int .i64 x.op, .int .i64 x.n, .int .i64 x.v.k, .int .i64 x.v.n, .string x.v.s, .slice a' x.args.length c'] 74)
      have HC := hide (cols_any x (Ex.fins_mem (unhide HFX) (List.mem_of_getElem? hx)) a' c' (wr.alloc (.cells #[.int .i64 x.op, .int .i64 x.n, .int .i64 x.v.k, .int .i64 x.v.n, .string x.v.s, .slice a' x.args.length c'] 74)) (Ex.all_later _ hal hba))
      have HBA := hide hba
      have HFL := hide (flat_snoc colX hx)
      have hcl : (colX x).length ≤ 400 := colX_le x
      have HZ2 : Hid (zs ++ colX x = (p.ex.take (k + 1)).flatMap colX) := by show _ = _; rw [unhide HFL, unhide HZS]
      have HL2 : Hid ((zs ++ colX x).length ≤ 12800) := by show _ ≤ _; rw [unhide HZ2]; have := flat_le (p.ex.take (k + 1)); rw [List.length_take] at this; omega
      have HCX : Hid (colX x = if builtE x then uniqI (colsE x) else []) := rfl
      rw [← unhide HCX, Ex.val_open] at HC
      generalize colX x = cx at *
      rw [ea]
      clear hat hal hba hx ea HFL HZS HCX
      go_wp2_with (first
        | (go_at_call 85; refine (unhide HC).mono ?_; rintro r w3 ⟨v3, rfl, hO3, hb3⟩; obtain ⟨a5, c5, rfl⟩ := hO3.slice; have hb4 := below_step (unhide HBA) hb3; have HO1 := hide ((unhide HOz).later hb4); have HO3 := hide hO3; have HB4 := hide (below_step (unhide HBk) hb4))
        | (at_builtin; refine wpList_push_far _ rfl (.tmp 60) (.tmp 62) rfl wa.heap.size _ zs cx _ c5 rfl (unhide HO1) rfl (unhide HO3).ints (by omega) (unhide HB4).size ?_; intro v' w' hO' hB'))
      exact ⟨⟨k + 1, zs ++ cx, by omega, by go_num, unhide HL2, unhide HZ2, hO', (unhide HB4).trans hB'⟩, by simp [intOf]; omega⟩
    · have h9 : ¬ (k : Int) < (p.ex.length : Int) := by omega
      obtain rfl : k = p.ex.length := by omega
      rw [List.take_length] at HZS
      clear hk hlt
      go_wp2
      go_ret
      rw [unhide HRK, ← unhide HZS]
      exact ⟨a3, c3, rfl, (unhide HOz).base_le (unhide HBQ).size, below_step (unhide HBQ) (unhide HBk)⟩
end Go.Proofs.YtcpndojkfngioaaGreat
set_option linter.unusedSimpArgs false
set_option linter.unusedVariables false
namespace Go.Proofs.YtcpndojkfngioaaGreat
open Go.RowKit Go.Sort

/-- append of one number: what was there before can still be read. -/
theorem wpList_push_keep {ops : Array Oper} {rest : List Oper} {o : Oper} {a : Act} {Q : Exit → Act → World → Prop} (w : World) (hgd : o.guard = none) (s x : Operand) (ho : o.op = .call { callee := .builtin .append, args := #[s, x], argTypes := #[23, 23] })
    (base : Nat) (a1 : Option Addr) (c1 : Nat) (L1 : List Int) (y : Int) (g cx : Nat) (hs : a.eval s = .slice a1 L1.length c1) (hown : OwnI w base (.slice a1 L1.length c1) L1) (hx : a.eval x = .slice (some ⟨g, 0, none⟩) 1 cx) (hc : w.cell? ⟨g, 0, none⟩ = some (.int .i64 y)) (hl : L1.length ≤ 4000000) (hbase : base ≤ w.heap.size)
    (h : ∀ v' w', OwnI w' base v' (L1 ++ [y]) → w.grownBy w' (Value.slice a1 L1.length c1).ownBlock → IntsAt w' a1 L1 → wpList Tryz.prog ops Q rest (a.put o.dst v') w') : wpList Tryz.prog ops Q (o :: rest) a w := by
  obtain ⟨i4, hi4, z40, z41, z42⟩ := info_parts info3
  have hnews : ∀ j u, [Value.int .i64 y][j]? = some u → w.cell? ((⟨g, 0, none⟩ : Addr).add j) = some u := by
    intro j u hj
    match j, hj with
    | 0, hj =>
      simp at hj
      subst hj
      exact hc
    | j + 1, hj => simp at hj
  have hone : ∀ u ∈ [Value.int .i64 y], u.oneCell' = true := fun u hu => by simp at hu; subst hu; rfl
  obtain ⟨v', w', hr, h2, h3, h4, h5⟩ := run_append_own_at (P := Tryz.prog) w base 23 o.type 3 i4 (.int .i64 0) 1 8 Tryz.underlying23 hi4 z40 z41 z42 rfl (by decide) (.slice a1 L1.length c1) L1.length (L1.map (.int .i64)) hown ⟨g, 0, none⟩ 1 cx [.int .i64 y] rfl hnews hone (by unfold maxLen; omega) (by omega) hbase
  have hkeep : IntsAt w' a1 L1 := by
    rcases hown.2 with ⟨e, h0⟩ | ⟨g1, cap, cur, e, hb, hg, hnc, hcm, hcs, htake⟩
    · exact .inl (List.eq_nil_of_length_eq_zero h0)
    · injection e with e1 e2 e3
      subst e1
      subst e3
      by_cases hroom : L1.length + 1 ≤ c1
      · have hr2 := run_append_room (P := Tryz.prog) w 23 o.type 3 i4 Tryz.underlying23 hi4 g1 L1.length c1 cur hg ⟨g, 0, none⟩ 1 cx [.int .i64 y] (by rw [z41]; rfl) hnews hone hroom (by rw [z41, hcs]; simp; omega)
        rw [hr] at hr2
        injection hr2 with hv hw
        subst hv
        refine .inr ⟨g1, 0, rfl, fun i x hx => ?_⟩
        have hc := World.ownsRow.cells h2 rfl i (.int .i64 x) (by
          have hi := (List.getElem?_eq_some_iff.1 hx).1
          rw [List.getElem?_append_left (by simpa using hi), List.getElem?_map, hx]; rfl)
        have ea : (⟨g1, 0, none⟩ : Addr).add i = ⟨g1, 0 + i, none⟩ := by
          by_cases h : i = 0 <;> simp [Addr.add, h]
        rw [ea] at hc
        exact hc
      · have holds : ∀ j u, (L1.map (Value.int .i64))[j]? = some u → w.cell? ((⟨g1, 0, none⟩ : Addr).add j) = some u := World.ownsRow.cells hown rfl
        have hr2 := run_append_grow (P := Tryz.prog) w 23 o.type 3 i4 (.int .i64 0) Tryz.underlying23 hi4 z40 ⟨g1, 0, none⟩ L1.length c1 (L1.map (.int .i64)) (by rw [z41]; simp) holds ⟨g, 0, none⟩ 1 cx [.int .i64 y] (by rw [z41]; rfl) hnews (by omega) (by omega) (growslice_fits (by omega) (by rw [z42]; omega))
        rw [hr] at hr2
        injection hr2 with hv hw
        subst hw
        exact (OwnI.ints hown).later (below_alloc (Below.refl _ w).drew _)
  refine wpList_plain hgd fun K hK => ?_
  unfold Oper.wp execOp
  simp only [ho, resolve, invoke, builtin, Sem.run_bind, Sem.run_pure, Result.andThen_ok, List.map_toArray, List.map_cons, List.map_nil, hs, hx, hr]
  refine hK _ _ (h v' w' ?_ h3 hkeep)
  unfold OwnI
  rw [List.length_append, List.map_append]
  exact h2
/-- The kinds of a plan over these columns, if all is well. -/
def kindsK (p : Pl) (t : Tb) (os : List Int) : List Int := if p.op == 1 then t.cols.map Prod.snd else if p.op == 3 then projK os p.ex else if p.op == 6 then grpK os p.cols p.aggs else if p.op == 10 then winK os p.fn p.col else if p.op == 12 then p.cols else os
theorem grown_of_below {w w' : World} (row : Option Nat) (hb : Below w.heap.size w w') : w.grownBy w' row := ⟨hb.os, hb.tape, hb.output, hb.size, fun k hk _ => hb.block k hk⟩
theorem grown_trans {w wm w' : World} {row : Option Nat} (hb : w.grownBy wm row) (hg : wm.grownBy w' row) : w.grownBy w' row := ⟨hg.os.trans hb.os, hg.tape.trans hb.tape, hg.output.trans hb.output, Nat.le_trans hb.size hg.size, fun k hk hn => (hg.block k (Nat.lt_of_lt_of_le hk hb.size) hn).trans (hb.block k hk hn)⟩
def KvQ (K os : List Int) (aO : Option Addr) (base : Nat) (row : Option Nat) (w : World) (r : Ending) (w' : World) : Prop := ∃ a c, r = .returned (.slice a K.length c) ∧ OwnI w' base (.slice a K.length c) K ∧ IntsAt w' aO os ∧ w.grownBy w' row
theorem KvQ.of {K os : List Int} {aO : Option Addr} {base : Nat} {row : Option Nat} {w wm w' : World} {r : Ending} (h : OwnQ K wm r w') (hb : Below w.heap.size w wm) (hk : IntsAt wm aO os) (hbase : base ≤ w.heap.size) : KvQ K os aO base row w r w' := by
  obtain ⟨a, c, h1, h2, h3⟩ := h
  exact ⟨a, c, h1, h2.base_le (Nat.le_trans hbase hb.size), hk.later h3, grown_of_below _ (below_step hb h3)⟩
set_option maxHeartbeats 8000000 in
set_option maxRecDepth 100000 in
/-- kindsOver (65). -/
theorem kindsOver_any (b : Nat) (x : Nv) (hf : x.q.fin) (hnd : Need x.q) (os : List Int) (hos : os.length ≤ 64) (aO : Option Addr) (cO base : Nat) (w : World) (hx : Sxt w b 0 x) (ho : Own4 w x.q x.m) (hT : ColsT w x.tm.aC x.t.cols) (htl : x.t.cols.length ≤ 1048576) (hO : OwnI w base (.slice aO os.length cO) os) (hbase : base ≤ w.heap.size) (hrng : x.q.op = 6 ∨ x.q.op = 10 → ∀ c ∈ colsOv x.q, c < (os.length : Int)) : Calls Tryz.prog 65 #[.pointer (some ⟨b, 0, none⟩), .slice aO os.length cO] w (KvQ (kindsK x.q x.t os) os aO base (Value.slice aO os.length cO).ownBlock w) := by
  obtain ⟨p, m, t, tm, kx, na, nl, nc⟩ := x
  simp only at hf hnd ho hT htl hrng
  obtain ⟨⟨f1, f2, f3, f4, f5, f6, f7, fc, fk, fa⟩, hfx, _⟩ := Pl.fin_open hf
  obtain ⟨R, hR⟩ : ∃ R, R = kindsK p t os := ⟨_, rfl⟩
  show Calls _ _ _ _ (KvQ (kindsK p t os) os aO base (Value.slice aO os.length cO).ownBlock w)
  rw [← hR]
  have hb0 := below_alloc (Below.refl _ w) (p.box m)
  have HLD := hide hx.e.load
  have HE := hide (Elv.new w p m)
  have HB := hide hb0
  have HO := hide (ho.later hb0)
  have HOO := hide (hO.later hb0)
  have HT := hide (hT.later hb0)
  have c12 := clater hx.t.c1 hb0
  simp only [Nat.reduceAdd] at c12
  have HFX := hide hfx
  have HR := hide hR
  rw [Pl.val_open] at HLD
  unfold Pl.box at HE HB HO HOO HT c12
  clear hR hb0 ho hf hfx fc fk fa hO hT hx
  obtain ⟨wa, hwa⟩ : ∃ wa, wa = w.alloc (.cells #[.int .i64 p.op, .string p.tab, .slice m.aE p.ex.length m.cE, .slice m.aC p.cols.length m.cC, .slice m.aK p.keys.length m.cK, .slice m.aA p.aggs.length m.cA, .int .i64 p.fn, .int .i64 p.col, .int .i64 p.n, .int .i64 p.off, .slice m.aP p.args.length m.cP] 28) := ⟨_, rfl⟩
  rw [← hwa] at HE HB HO HOO HT c12
  have HWA := hide hwa
  clear hwa
  obtain ⟨c0, -, c2, c3, c4, c5, c6, c7, -, -, -⟩ := unhide HE
  simp only [Nat.zero_add] at c2 c3 c4 c5 c6 c7
  have HOS := hide (unhide HOO).ints
  go_enter Tryz.func65, Tryz.ntmps65
  go_upto_region 2 with (refine wpList_load_w ?_ 28 (.tmp 8) rfl _ (by simp [Act.eval]) _ (unhide HLD) ?_; · simp [Region.wanted, yielded])
  rw [← unhide HWA]
  clear HWA HLD
  by_cases o1 : p.op = 1
  · have e1 : (p.op == 1) = true := by simpa using o1
    have hRk : R = t.cols.map Prod.snd := by rw [unhide HR]; unfold kindsK; rw [o1]; rfl
    have HC := hide (columnKinds_any t.cols tm.aC tm.cC wa htl (unhide HT))
    rw [← hRk] at HC
    clear HR hRk o1 c2 c3 c4 c5 c6 c7
    go_wp2_with (go_at_call 86; refine (unhide HC).mono ?_; intro r w1 hq; obtain ⟨a1, c1, rfl, hO1, hb1⟩ := hq)
    go_ret
    exact KvQ.of ⟨a1, c1, rfl, hO1, hb1⟩ (unhide HB) (unhide HOS) hbase
  by_cases o3 : p.op = 3
  · have e1 : (p.op == 1) = false := by simpa using o1
    have e3 : (p.op == 3) = true := by simpa using o3
    have hRk : R = projK os p.ex := by rw [unhide HR]; unfold kindsK; rw [o3]; rfl
    have HC := hide (exprKinds_any os (by omega) aO cO p.ex f2 (unhide HFX) m.aE m.cE wa (unhide HO).e (unhide HOS))
    rw [← hRk] at HC
    clear HR hRk o1 o3 c3 c4 c5 c6 c7
    go_wp2_with (go_at_call 87; refine (unhide HC).mono ?_; intro r w1 hq; obtain ⟨a1, c1, rfl, hO1, hb1⟩ := hq)
    go_ret
    exact KvQ.of ⟨a1, c1, rfl, hO1, hb1⟩ (unhide HB) (unhide HOS) hbase
  by_cases o6 : p.op = 6
  · obtain ⟨_, _, hcn, han⟩ := need6 o6 hnd
    have hcb : ∀ c ∈ p.cols, 0 ≤ c ∧ c < (os.length : Int) := fun c hc => ⟨hcn c hc, hrng (.inl o6) c (by unfold colsOv; rw [o6]; exact List.mem_append_left _ hc)⟩
    have hab : ∀ z ∈ p.aggs, 0 ≤ z.2 ∧ z.2 < (os.length : Int) := fun z hz => ⟨(han z hz).1, hrng (.inl o6) z.2 (by unfold colsOv; rw [o6]; exact List.mem_append_right _ (List.mem_map.2 ⟨z, hz, rfl⟩))⟩
    have e1 : (p.op == 1) = false := by simpa using o1
    have e3 : (p.op == 3) = false := by simpa using o3
    have e6 : (p.op == 6) = true := by simpa using o6
    have hRk : R = grpK os p.cols p.aggs := by rw [unhide HR]; unfold kindsK; rw [o6]; rfl
    have HC := hide (groupKinds_any os (by omega) aO cO p.cols p.aggs f3 f5 m.aC m.cC m.aA m.cA wa (unhide HO).c (unhide HO).a (unhide HOS) hcb hab)
    rw [← hRk] at HC
    clear HR hRk o1 o3 o6 c2 c4 c6 c7 hcn han hcb hab
    go_wp2_with (go_at_call 88; refine (unhide HC).mono ?_; intro r w1 hq; obtain ⟨a1, c1, rfl, hO1, hb1⟩ := hq)
    go_ret
    exact KvQ.of ⟨a1, c1, rfl, hO1, hb1⟩ (unhide HB) (unhide HOS) hbase
  by_cases o10 : p.op = 10
  · obtain ⟨_, hcn, _⟩ := need10 o10 hnd
    have hcl : p.col < (os.length : Int) := hrng (.inr o10) p.col (by unfold colsOv; rw [o10]; exact List.mem_append_right _ (List.mem_singleton.2 rfl))
    have e1 : (p.op == 1) = false := by simpa using o1
    have e3 : (p.op == 3) = false := by simpa using o3
    have e6 : (p.op == 6) = false := by simpa using o6
    have e10 : (p.op == 10) = true := by simpa using o10
    have hRk : R = winK os p.fn p.col := by rw [unhide HR]; unfold kindsK; rw [o10]; rfl
    by_cases h6 : p.fn = 6
    · obtain ⟨n, hn⟩ : ∃ n : Nat, p.col = (n : Int) := ⟨p.col.toNat, by omega⟩
      have hnl : n < os.length := by omega
      obtain ⟨y, hy⟩ : ∃ y, os[n]? = some y := ⟨_, List.getElem?_eq_getElem hnl⟩
      have HRK : Hid (R = os ++ [y]) := by show _ = _; rw [hRk, h6, hn]; unfold winK atK; rw [Int.toNat_natCast, hy]; rfl
      obtain ⟨b2, off2, ea2, d2⟩ := (unhide HOS).get hy
      have hnl2 : (n : Int) < (os.length : Int) := by omega
      rw [hn] at c7
      rw [h6] at c6
      rw [ea2] at HOO ⊢
      clear HR hRk o1 o3 o6 o10 c2 c3 c4 c5 c12 hcn hcl hn h6 hy HOS
      have HBS := hide (below_alloc (Below.refl _ wa) (.cells #[.int .i64 y] 3))
      have HO1 := hide ((unhide HOO).later (unhide HBS))
      have HCN : Hid ((wa.alloc (.cells #[.int .i64 y] 3)).cell? ⟨wa.heap.size, 0, none⟩ = some (.int .i64 y)) := (by show _ = _; simp [go_sem])
      go_wp2_with (at_builtin; refine wpList_push_keep _ rfl (.tmp 39) (.tmp 45) rfl base (some ⟨b2, off2, none⟩) cO os y wa.heap.size 1 rfl (unhide HO1) rfl (unhide HCN) (by omega) (Nat.le_trans hbase (below_step (unhide HB) (unhide HBS)).size) ?_; intro v' w' hO' hB' hK')
      go_ret
      obtain ⟨a1, c1, rfl⟩ := hO'.slice
      rw [← unhide HRK] at hO' ⊢
      exact ⟨a1, c1, rfl, hO', (by rw [ea2]; exact hK'), grown_trans (grown_of_below _ (below_step (unhide HB) (unhide HBS))) (by rw [ea2]; exact hB')⟩
    · have b6 : (p.fn == 6) = false := by simpa using h6
      have HRK : Hid (R = os ++ [1]) := by show _ = _; rw [hRk]; unfold winK; rw [b6]; rfl
      clear HR hRk o1 o3 o6 o10 c2 c3 c4 c5 c12 hcn hcl h6
      have HBS := hide (below_alloc (Below.refl _ wa) (.cells #[.int .i64 1] 3))
      have HO1 := hide ((unhide HOO).later (unhide HBS))
      have HCN : Hid ((wa.alloc (.cells #[.int .i64 1] 3)).cell? ⟨wa.heap.size, 0, none⟩ = some (.int .i64 1)) := (by show _ = _; simp [go_sem])
      go_wp2_with (at_builtin; refine wpList_push_keep _ rfl (.tmp 47) (.tmp 48) rfl base aO cO os 1 wa.heap.size 1 rfl (unhide HO1) rfl (unhide HCN) (by omega) (Nat.le_trans hbase (below_step (unhide HB) (unhide HBS)).size) ?_; intro v' w' hO' hB' hK')
      go_ret
      obtain ⟨a1, c1, rfl⟩ := hO'.slice
      rw [← unhide HRK] at hO' ⊢
      exact ⟨a1, c1, rfl, hO', hK', grown_trans (grown_of_below _ (below_step (unhide HB) (unhide HBS))) hB'⟩
  by_cases o12 : p.op = 12
  · have e1 : (p.op == 1) = false := by simpa using o1
    have e3 : (p.op == 3) = false := by simpa using o3
    have e6 : (p.op == 6) = false := by simpa using o6
    have e10 : (p.op == 10) = false := by simpa using o10
    have e12 : (p.op == 12) = true := by simpa using o12
    have hRk : R = p.cols := by rw [unhide HR]; unfold kindsK; rw [o12]; rfl
    have HC := hide (clone_any p.cols m.aC m.cC wa (by omega) (unhide HO).c)
    have HRK := hide hRk
    clear HR hRk o1 o3 o6 o10 o12 c2 c4 c5 c6 c7
    go_wp2_with (go_at_call 82; refine (unhide HC).mono ?_; intro r w1 hq; obtain ⟨a1, c1, rfl, hO1, hb1⟩ := hq)
    go_ret
    rw [unhide HRK]
    exact KvQ.of ⟨a1, c1, rfl, hO1, hb1⟩ (unhide HB) (unhide HOS) hbase
  have e1 : (p.op == 1) = false := by simpa using o1
  have e3 : (p.op == 3) = false := by simpa using o3
  have e6 : (p.op == 6) = false := by simpa using o6
  have e10 : (p.op == 10) = false := by simpa using o10
  have e12 : (p.op == 12) = false := by simpa using o12
  have hRk : R = os := by rw [unhide HR]; unfold kindsK; rw [e1, e3, e6, e10, e12]; rfl
  have HRK := hide hRk
  clear HR hRk o1 o3 o6 o10 o12 c2 c3 c4 c5 c6 c7 c12
  go_wp2
  go_ret
  rw [unhide HRK]
  exact ⟨aO, cO, rfl, unhide HOO, unhide HOS, grown_of_below _ (unhide HB)⟩
end Go.Proofs.YtcpndojkfngioaaGreat
set_option linter.unusedSimpArgs false
set_option linter.unusedVariables false
namespace Go.Proofs.YtcpndojkfngioaaGreat
open Go.RowKit Go.Sort

set_option maxHeartbeats 1000000 in
set_option maxRecDepth 100000 in
/-- fits$3 (94). -/
theorem unlikeN_any (os : List Int) (aO : Option Addr) (cO q : Nat) (y : Nv) (h1 : os.length ≤ 1000) (h2 : y.k.2.2.length ≤ 1000) (w : World) (hK : IntsAt w aO os) (hk : IntsAt w y.k.1 y.k.2.2) (hq : w.cell? ⟨q, 0, none⟩ = some (.slice aO os.length cO)) :
    Calls Tryz.prog 94 #[y.v, .pointer (some ⟨q, 0, none⟩)] w fun r w' => r = .returned (.bool (!decide (y.k.2.2 = os))) ∧ Below w.heap.size w w' := by
  have hb0 := below_alloc (Below.refl _ w) (y.box)
  have HC := hide (equal_any y.k.2.2 os y.k.1 y.k.2.1 aO cO (w.alloc y.box) (by omega) (by omega) (hk.later hb0) (hK.later hb0))
  have c0 := clater hq hb0
  have HB := hide hb0
  rw [Nv.open_]
  unfold Nv.box at HC HB c0
  generalize decide (y.k.2.2 = os) = dd at *
  clear hK hk hb0 hq
  go_enter Tryz.func94, Tryz.ntmps94
  go_wp2_with (go_at_call 95; refine (unhide HC).mono ?_; rintro r w1 ⟨rfl, hb1⟩)
  go_ret
  exact ⟨rfl, below_step (unhide HB) hb1⟩
theorem lstN {w : World} {a : Option Addr} {ys : List Nv} (h : NsAt w a ys) : LstN w a (ys.map Nv.v) := by
  rcases h with h | ⟨g, ha, h⟩
  · exact .inl (by rw [h]; rfl)
  · refine .inr ⟨g, 0, ha, fun i v hv W hW => ?_⟩
    rw [List.getElem?_map] at hv
    obtain ⟨y, hy, rfl⟩ := Option.map_eq_some_iff.1 hv
    rw [Nat.zero_add]
    exact ((h i y hy).1.later hW).load
theorem containsN_over (ys : List Nv) (os : List Int) (aO : Option Addr) (cO q : Nat) (hl : ys.length ≤ 140737488355328) (h1 : os.length ≤ 1000) (h2 : ∀ y ∈ ys, y.k.2.2.length ≤ 1000) (a : Option Addr) (c : Nat) (w : World) (ha : NsAt w a ys) (hK : IntsAt w aO os) (hq : w.cell? ⟨q, 0, none⟩ = some (.slice aO os.length cO)) :
    Calls Tryz.prog 93 #[.slice a ys.length c, .func (.func 94) #[] #[.pointer (some ⟨q, 0, none⟩)]] w fun r w' => r = .returned (.bool ((insOf ys).any fun k => !decide (k = os))) ∧ Below w.heap.size w w' := by
  have h := containsN (ys.map Nv.v) (ys.map fun y => !decide (y.k.2.2 = os)) (by simp) a c (.func (.func 94) #[] #[.pointer (some ⟨q, 0, none⟩)]) w (by simpa using hl) (lstN ha) ⟨94, _, rfl, fun args w => by kernel_rfl, fun i v bb W gv gb hW => by
    rw [List.getElem?_map] at gv gb
    obtain ⟨y, hy, rfl⟩ := Option.map_eq_some_iff.1 gv
    rw [hy] at gb
    injection gb with gb
    subst gb
    obtain ⟨g, _, _, hk⟩ := ha.get hy
    exact unlikeN_any os aO cO q y h1 (h2 y (List.mem_of_getElem? hy)) W (hK.later hW) (hk.later hW) (clater hq hW)⟩
  rw [List.length_map, List.any_map] at h
  unfold insOf
  rw [List.any_map]
  exact h
theorem containsE_over (l : List Ex) (os : List Int) (aO : Option Addr) (cO q : Nat) (hl : l.length ≤ 140737488355328) (h1 : os.length ≤ 1000) (hf : Ex.fins l) (a : Option Addr) (c : Nat) (w : World) (ha : Ex.all w a l) (hK : IntsAt w aO os) (hq : w.cell? ⟨q, 0, none⟩ = some (.slice aO os.length cO)) :
    Calls Tryz.prog 44 #[.slice a l.length c, .func (.func 90) #[] #[.pointer (some ⟨q, 0, none⟩)]] w fun r w' => r = .returned (.bool (l.any fun e => decide (¬ kErr os e = 0))) ∧ Below w.heap.size w w' := by
  obtain ⟨vs, hvl, hls, hv⟩ := exVals ha
  have h := containsE vs (l.map fun e => decide (¬ kErr os e = 0)) (by rw [List.length_map, hvl]) a c (.func (.func 90) #[] #[.pointer (some ⟨q, 0, none⟩)]) w (by omega) hls ⟨90, _, rfl, fun args w => by kernel_rfl, fun i v bb W gv gb hW => by
    rw [List.getElem?_map] at gb
    obtain ⟨x, hx, rfl⟩ := Option.map_eq_some_iff.1 gb
    obtain ⟨a', c', rfl, hal⟩ := hv i x v hx gv
    exact unfit_any os (by omega) aO cO q x (Ex.fins_mem hf (List.mem_of_getElem? hx)) a' c' W (Ex.all_later _ hal hW) (hK.later hW) (clater hq hW)⟩
  rw [hvl, List.any_map] at h
  exact h
theorem containsA_over (l : List (Int × Int)) (os : List Int) (aO : Option Addr) (cO q : Nat) (hl : l.length ≤ 140737488355328) (h1 : os.length ≤ 1000) (hr : ∀ x ∈ l, 0 ≤ x.2 ∧ x.2 < (os.length : Int)) (a : Option Addr) (c : Nat) (w : World) (ha : AggsAt w a l) (hK : IntsAt w aO os) (hq : w.cell? ⟨q, 0, none⟩ = some (.slice aO os.length cO)) :
    Calls Tryz.prog 91 #[.slice a l.length c, .func (.func 92) #[] #[.pointer (some ⟨q, 0, none⟩)]] w fun r w' => r = .returned (.bool (l.any (aggBad os))) ∧ Below w.heap.size w w' := by
  have h := containsA (l.map fun x => .agg #[.int .i64 x.1, .int .i64 x.2]) (l.map (aggBad os)) (by simp) a c (.func (.func 92) #[] #[.pointer (some ⟨q, 0, none⟩)]) w (by simpa using hl) (lstA ha) ⟨92, _, rfl, fun args w => by kernel_rfl, fun i v bb W hv hb hW => by
    rw [List.getElem?_map] at hv hb
    obtain ⟨x, hx, rfl⟩ := Option.map_eq_some_iff.1 hv
    rw [hx] at hb
    injection hb with hb
    subst hb
    exact aggBad_any os aO cO q x.1 x.2 (by omega) (fun _ => hr x (List.mem_of_getElem? hx)) W (hK.later hW) (clater hq hW)⟩
  rw [List.length_map, List.any_map] at h
  exact h
/-- Does what a plan says of columns of these kinds fit them? -/
def fitsP (p : Pl) (os : List Int) (ins : List (List Int)) : Bool :=
  if p.op == 2 || p.op == 4 || p.op == 5 then (match p.ex[0]? with
    | some e => kErr os e == 0 && kK os e != 2
    | none => true)
  else if p.op == 3 then !p.ex.any (fun e => decide (¬ kErr os e = 0)) else if p.op == 6 then !p.aggs.any (aggBad os) else if p.op == 10 then p.fn != 4 || atK os p.col != 2
  else if p.op == 8 || p.op == 11 then !ins.any (fun k => !decide (k = os)) else true
set_option maxHeartbeats 8000000 in
set_option maxRecDepth 100000 in
/-- fits (66). -/
theorem fits_any2 (b : Nat) (x : Nv) (ys : List Nv) (hf : x.q.fin) (hnd : Need x.q) (hnl : x.nl = ys.length) (hyl : ys.length ≤ 1048576) (hyk : ∀ y ∈ ys, y.k.2.2.length ≤ 1000) (os : List Int) (hos : os.length ≤ 64) (aO : Option Addr) (cO : Nat) (w : World) (hx : Sxt w b 0 x) (ho : Own4 w x.q x.m) (hys : NsAt w x.na ys) (hO : IntsAt w aO os) (hrng : x.q.op = 6 ∨ x.q.op = 10 → ∀ c ∈ colsOv x.q, c < (os.length : Int)) :
    Calls Tryz.prog 66 #[.pointer (some ⟨b, 0, none⟩), .slice aO os.length cO] w fun r w' => r = .returned (.bool (fitsP x.q os (insOf ys))) ∧ Below w.heap.size w w' := by
  obtain ⟨p, m, t, tm, kx, na, nl, nc⟩ := x
  simp only at hf hnd ho hys hrng hnl
  obtain ⟨⟨f1, f2, f3, f4, f5, f6, f7, fc, fk, fa⟩, hfx, _⟩ := Pl.fin_open hf
  obtain ⟨R, hR⟩ : ∃ R, R = fitsP p os (insOf ys) := ⟨_, rfl⟩
  show Calls _ _ _ _ fun r w' => r = .returned (.bool (fitsP p os (insOf ys))) ∧ _
  rw [← hR]
  have hbA := below_alloc (Below.refl _ w) (.cells #[.slice aO os.length cO] 23)
  have hbB := below_alloc (Below.refl _ (w.alloc (.cells #[.slice aO os.length cO] 23))) (p.box m)
  have hb0 := below_step hbA hbB
  have hsz : (w.alloc (.cells #[.slice aO os.length cO] 23)).heap.size = w.heap.size + 1 := by simp [go_sem]
  have HLD := hide (hx.e.later hbA).load
  have hEn := Elv.new (w.alloc (.cells #[.slice aO os.length cO] 23)) p m
  rw [hsz] at hEn
  have HE := hide hEn
  have HB := hide hb0
  have HO := hide (ho.later hb0)
  have HOS := hide (hO.later hb0)
  have HNS := hide (hys.later hb0)
  have c15 := clater hx.a hb0
  simp only [Nat.zero_add] at c15
  have cq : ((w.alloc (.cells #[.slice aO os.length cO] 23)).alloc (p.box m)).cell? ⟨w.heap.size, 0, none⟩ = some (.slice aO os.length cO) := clater (show (w.alloc (.cells #[.slice aO os.length cO] 23)).cell? ⟨w.heap.size, 0, none⟩ = _ by simp [go_sem]) hbB
  have HFX := hide hfx
  have HR := hide hR
  rw [Pl.val_open] at HLD
  unfold Pl.box at HE HB HO HOS HNS c15 cq
  clear hR hb0 ho hf hfx fc fk fa hO hys hx hbA hbB hEn
  obtain ⟨wa, hwa⟩ : ∃ wa, wa = (w.alloc (.cells #[.slice aO os.length cO] 23)).alloc (.cells #[.int .i64 p.op, .string p.tab, .slice m.aE p.ex.length m.cE, .slice m.aC p.cols.length m.cC, .slice m.aK p.keys.length m.cK, .slice m.aA p.aggs.length m.cA, .int .i64 p.fn, .int .i64 p.col, .int .i64 p.n, .int .i64 p.off, .slice m.aP p.args.length m.cP] 28) := ⟨_, rfl⟩
  rw [← hwa] at HE HB HO HOS HNS c15 cq
  have HWA := hide hwa
  clear hwa hsz
  obtain ⟨c0, -, c2, c3, c4, c5, c6, c7, -, -, -⟩ := unhide HE
  simp only [Nat.zero_add] at c2 c3 c4 c5 c6 c7
  have HCQ := hide cq
  go_enter Tryz.func66, Tryz.ntmps66
  go_upto_region 2 with (refine wpList_load_w ?_ 28 (.tmp 10) rfl _ (by simp [Act.eval]) _ (unhide HLD) ?_; · simp [Region.wanted, yielded])
  rw [← unhide HWA]
  clear HWA HLD
  rcases need_op hnd with o | o | o | o | o | o | o | o | o | o | o | o
  · have e2 : (p.op == 2) = false := by rw [o]; rfl
    have e4 : (p.op == 4) = false := by rw [o]; rfl
    have e5 : (p.op == 5) = false := by rw [o]; rfl
    have e3 : (p.op == 3) = false := by rw [o]; rfl
    have e6 : (p.op == 6) = false := by rw [o]; rfl
    have e10 : (p.op == 10) = false := by rw [o]; rfl
    have e8 : (p.op == 8) = false := by rw [o]; rfl
    have e11 : (p.op == 11) = false := by rw [o]; rfl
    have HRZ : Hid (R = true) := by show _ = _; rw [unhide HR]; unfold fitsP; rw [o]; rfl
    clear o HR hrng c2 c3 c4 c5 c6 c7 c15
    go_wp2
    go_ret
    exact ⟨by rw [unhide HRZ]; rfl, unhide HB⟩
  · have hle : p.ex.length = 1 := (need2 o hnd).2
    have e2 : (p.op == 2) = true := by rw [o]; rfl
    obtain ⟨e, he⟩ : ∃ e, p.ex[0]? = some e := ⟨_, List.getElem?_eq_getElem (by omega)⟩
    obtain ⟨vb, vo, ea, hat⟩ := Ex.all_get (unhide HO).e he
    obtain ⟨a', c', ⟨x0, x1, x2, x3, x4, x5⟩, hal⟩ := Ex.at_open hat
    simp only [Nat.zero_mul, Nat.add_zero] at x0 x1 x2 x3 x4 x5
    have hX0 : (0 : Int) < (p.ex.length : Int) := by omega
    rw [ea] at c2
    have hRk : R = (kErr os e == 0 && kK os e != 2) := by rw [unhide HR]; unfold fitsP; rw [o, he]; rfl
    have HRK := hide hRk
    have HC := hide (fun (W : World) (hW : Below wa.heap.size wa W) => kind_det os (by omega) aO cO e (Ex.fins_mem (unhide HFX) (List.mem_of_getElem? he)) a' c' W (Ex.all_later _ hal hW) ((unhide HOS).later hW))
    rw [Ex.val_open] at HC
    generalize kErr os e = ke at *
    generalize kK os e = kk at *
    have q0 := cell_regrown cq
    have qb := cell_regrown c2
    have y0 := cell_regrown x0
    have y1 := cell_regrown x1
    have y2 := cell_regrown x2
    have y3 := cell_regrown x3
    have y4 := cell_regrown x4
    have y5 := cell_regrown x5
    clear o hle c3 c4 c5 c6 c7 c15 HR hRk he hat hal hrng
    go_upto_region 6 with fail
    refine wp_region_quiet_below (by kernel_rfl) (by kernel_rfl) ?_
    repeat (go_big_quiet_step ((go_at_call 89; exact Calls.regrown_of (unhide HC _ (below_regrown _ _ _)))))
    refine wpQuiet_nil ?_
    intro w2 hw2
    have hB2 : Below wa.heap.size wa w2 := by obtain ⟨p, rfl⟩ := hw2; exact below_regrown _ _ _
    clear hw2
    by_cases hk0 : ke = 0
    · subst hk0
      have HRZ : Hid (R = (kk != 2)) := unhide HRK
      go_wp2
      go_ret
      exact ⟨by rw [unhide HRZ]; rfl, below_step (unhide HB) hB2⟩
    · have bk : (ke == 0) = false := by simpa using hk0
      have HRZ : Hid (R = false) := by show _ = _; rw [unhide HRK, bk]; rfl
      clear hk0
      go_wp2
      go_ret
      exact ⟨by rw [unhide HRZ]; rfl, below_step (unhide HB) hB2⟩
  · have e2 : (p.op == 2) = false := by rw [o]; rfl
    have e4 : (p.op == 4) = false := by rw [o]; rfl
    have e5 : (p.op == 5) = false := by rw [o]; rfl
    have e3 : (p.op == 3) = true := by rw [o]; rfl
    have HC := hide (containsE_over p.ex os aO cO w.heap.size (by omega) (by omega) (unhide HFX) m.aE m.cE wa (unhide HO).e (unhide HOS) (unhide HCQ))
    obtain ⟨rb, hrb⟩ : ∃ rb, rb = p.ex.any (fun e => decide (¬ kErr os e = 0)) := ⟨_, rfl⟩
    have HRZ : Hid (R = !rb) := by show _ = _; rw [unhide HR, hrb]; unfold fitsP; rw [o]; rfl
    rw [← hrb] at HC
    clear o HR hrb hrng c3 c4 c5 c6 c7 c15
    go_wp2_with (go_at_call 44; refine (unhide HC).mono ?_; rintro r w2 ⟨rfl, hb2⟩)
    go_ret
    exact ⟨by rw [unhide HRZ]; rfl, below_step (unhide HB) hb2⟩
  · have hle : p.ex.length = 1 := (need4 o hnd).2
    have e2 : (p.op == 2) = false := by rw [o]; rfl
    have e4 : (p.op == 4) = true := by rw [o]; rfl
    obtain ⟨e, he⟩ : ∃ e, p.ex[0]? = some e := ⟨_, List.getElem?_eq_getElem (by omega)⟩
    obtain ⟨vb, vo, ea, hat⟩ := Ex.all_get (unhide HO).e he
    obtain ⟨a', c', ⟨x0, x1, x2, x3, x4, x5⟩, hal⟩ := Ex.at_open hat
    simp only [Nat.zero_mul, Nat.add_zero] at x0 x1 x2 x3 x4 x5
    have hX0 : (0 : Int) < (p.ex.length : Int) := by omega
    rw [ea] at c2
    have hRk : R = (kErr os e == 0 && kK os e != 2) := by rw [unhide HR]; unfold fitsP; rw [o, he]; rfl
    have HRK := hide hRk
    have HC := hide (fun (W : World) (hW : Below wa.heap.size wa W) => kind_det os (by omega) aO cO e (Ex.fins_mem (unhide HFX) (List.mem_of_getElem? he)) a' c' W (Ex.all_later _ hal hW) ((unhide HOS).later hW))
    rw [Ex.val_open] at HC
    generalize kErr os e = ke at *
    generalize kK os e = kk at *
    have q0 := cell_regrown cq
    have qb := cell_regrown c2
    have y0 := cell_regrown x0
    have y1 := cell_regrown x1
    have y2 := cell_regrown x2
    have y3 := cell_regrown x3
    have y4 := cell_regrown x4
    have y5 := cell_regrown x5
    clear o hle c3 c4 c5 c6 c7 c15 HR hRk he hat hal hrng
    go_upto_region 6 with fail
    refine wp_region_quiet_below (by kernel_rfl) (by kernel_rfl) ?_
    repeat (go_big_quiet_step ((go_at_call 89; exact Calls.regrown_of (unhide HC _ (below_regrown _ _ _)))))
    refine wpQuiet_nil ?_
    intro w2 hw2
    have hB2 : Below wa.heap.size wa w2 := by obtain ⟨p, rfl⟩ := hw2; exact below_regrown _ _ _
    clear hw2
    by_cases hk0 : ke = 0
    · subst hk0
      have HRZ : Hid (R = (kk != 2)) := unhide HRK
      go_wp2
      go_ret
      exact ⟨by rw [unhide HRZ]; rfl, below_step (unhide HB) hB2⟩
    · have bk : (ke == 0) = false := by simpa using hk0
      have HRZ : Hid (R = false) := by show _ = _; rw [unhide HRK, bk]; rfl
      clear hk0
      go_wp2
      go_ret
      exact ⟨by rw [unhide HRZ]; rfl, below_step (unhide HB) hB2⟩
  · have hle : p.ex.length = 1 := (need5 o hnd).2
    have e2 : (p.op == 2) = false := by rw [o]; rfl
    have e4 : (p.op == 4) = false := by rw [o]; rfl
    have e5 : (p.op == 5) = true := by rw [o]; rfl
    obtain ⟨e, he⟩ : ∃ e, p.ex[0]? = some e := ⟨_, List.getElem?_eq_getElem (by omega)⟩
    obtain ⟨vb, vo, ea, hat⟩ := Ex.all_get (unhide HO).e he
    obtain ⟨a', c', ⟨x0, x1, x2, x3, x4, x5⟩, hal⟩ := Ex.at_open hat
    simp only [Nat.zero_mul, Nat.add_zero] at x0 x1 x2 x3 x4 x5
    have hX0 : (0 : Int) < (p.ex.length : Int) := by omega
    rw [ea] at c2
    have hRk : R = (kErr os e == 0 && kK os e != 2) := by rw [unhide HR]; unfold fitsP; rw [o, he]; rfl
    have HRK := hide hRk
    have HC := hide (fun (W : World) (hW : Below wa.heap.size wa W) => kind_det os (by omega) aO cO e (Ex.fins_mem (unhide HFX) (List.mem_of_getElem? he)) a' c' W (Ex.all_later _ hal hW) ((unhide HOS).later hW))
    rw [Ex.val_open] at HC
    generalize kErr os e = ke at *
    generalize kK os e = kk at *
    have q0 := cell_regrown cq
    have qb := cell_regrown c2
    have y0 := cell_regrown x0
    have y1 := cell_regrown x1
    have y2 := cell_regrown x2
    have y3 := cell_regrown x3
    have y4 := cell_regrown x4
    have y5 := cell_regrown x5
    clear o hle c3 c4 c5 c6 c7 c15 HR hRk he hat hal hrng
    go_upto_region 6 with fail
    refine wp_region_quiet_below (by kernel_rfl) (by kernel_rfl) ?_
    repeat (go_big_quiet_step ((go_at_call 89; exact Calls.regrown_of (unhide HC _ (below_regrown _ _ _)))))
    refine wpQuiet_nil ?_
    intro w2 hw2
    have hB2 : Below wa.heap.size wa w2 := by obtain ⟨p, rfl⟩ := hw2; exact below_regrown _ _ _
    clear hw2
    by_cases hk0 : ke = 0
    · subst hk0
      have HRZ : Hid (R = (kk != 2)) := unhide HRK
      go_wp2
      go_ret
      exact ⟨by rw [unhide HRZ]; rfl, below_step (unhide HB) hB2⟩
    · have bk : (ke == 0) = false := by simpa using hk0
      have HRZ : Hid (R = false) := by show _ = _; rw [unhide HRK, bk]; rfl
      clear hk0
      go_wp2
      go_ret
      exact ⟨by rw [unhide HRZ]; rfl, below_step (unhide HB) hB2⟩
  · obtain ⟨_, _, hcn, han⟩ := need6 o hnd
    have hab : ∀ z ∈ p.aggs, 0 ≤ z.2 ∧ z.2 < (os.length : Int) := fun z hz => ⟨(han z hz).1, hrng (.inl o) z.2 (by unfold colsOv; rw [o]; exact List.mem_append_right _ (List.mem_map.2 ⟨z, hz, rfl⟩))⟩
    have e2 : (p.op == 2) = false := by rw [o]; rfl
    have e4 : (p.op == 4) = false := by rw [o]; rfl
    have e5 : (p.op == 5) = false := by rw [o]; rfl
    have e3 : (p.op == 3) = false := by rw [o]; rfl
    have e6 : (p.op == 6) = true := by rw [o]; rfl
    have HC := hide (containsA_over p.aggs os aO cO w.heap.size (by omega) (by omega) hab m.aA m.cA wa (unhide HO).a (unhide HOS) (unhide HCQ))
    obtain ⟨rb, hrb⟩ : ∃ rb, rb = p.aggs.any (aggBad os) := ⟨_, rfl⟩
    have HRZ : Hid (R = !rb) := by show _ = _; rw [unhide HR, hrb]; unfold fitsP; rw [o]; rfl
    rw [← hrb] at HC
    clear o HR hrb hrng c2 c3 c4 c6 c7 c15 hcn han hab
    go_wp2_with (go_at_call 91; refine (unhide HC).mono ?_; rintro r w2 ⟨rfl, hb2⟩)
    go_ret
    exact ⟨by rw [unhide HRZ]; rfl, below_step (unhide HB) hb2⟩
  · have e2 : (p.op == 2) = false := by rw [o]; rfl
    have e4 : (p.op == 4) = false := by rw [o]; rfl
    have e5 : (p.op == 5) = false := by rw [o]; rfl
    have e3 : (p.op == 3) = false := by rw [o]; rfl
    have e6 : (p.op == 6) = false := by rw [o]; rfl
    have e10 : (p.op == 10) = false := by rw [o]; rfl
    have e8 : (p.op == 8) = false := by rw [o]; rfl
    have e11 : (p.op == 11) = false := by rw [o]; rfl
    have HRZ : Hid (R = true) := by show _ = _; rw [unhide HR]; unfold fitsP; rw [o]; rfl
    clear o HR hrng c2 c3 c4 c5 c6 c7 c15
    go_wp2
    go_ret
    exact ⟨by rw [unhide HRZ]; rfl, unhide HB⟩
  · rw [hnl] at c15
    have e2 : (p.op == 2) = false := by rw [o]; rfl
    have e4 : (p.op == 4) = false := by rw [o]; rfl
    have e5 : (p.op == 5) = false := by rw [o]; rfl
    have e3 : (p.op == 3) = false := by rw [o]; rfl
    have e6 : (p.op == 6) = false := by rw [o]; rfl
    have e10 : (p.op == 10) = false := by rw [o]; rfl
    have e8 : (p.op == 8) = true := by rw [o]; rfl
    have HC := hide (containsN_over ys os aO cO w.heap.size (by omega) (by omega) hyk na nc wa (unhide HNS) (unhide HOS) (unhide HCQ))
    obtain ⟨rb, hrb⟩ : ∃ rb, rb = (insOf ys).any (fun k => !decide (k = os)) := ⟨_, rfl⟩
    have HRZ : Hid (R = !rb) := by show _ = _; rw [unhide HR, hrb]; unfold fitsP; rw [o]; rfl
    rw [← hrb] at HC
    clear o HR hrb hrng c2 c3 c4 c5 c6 c7 hnl
    go_wp2_with (go_at_call 93; refine (unhide HC).mono ?_; rintro r w2 ⟨rfl, hb2⟩)
    go_ret
    exact ⟨by rw [unhide HRZ]; rfl, below_step (unhide HB) hb2⟩
  · have e2 : (p.op == 2) = false := by rw [o]; rfl
    have e4 : (p.op == 4) = false := by rw [o]; rfl
    have e5 : (p.op == 5) = false := by rw [o]; rfl
    have e3 : (p.op == 3) = false := by rw [o]; rfl
    have e6 : (p.op == 6) = false := by rw [o]; rfl
    have e10 : (p.op == 10) = false := by rw [o]; rfl
    have e8 : (p.op == 8) = false := by rw [o]; rfl
    have e11 : (p.op == 11) = false := by rw [o]; rfl
    have HRZ : Hid (R = true) := by show _ = _; rw [unhide HR]; unfold fitsP; rw [o]; rfl
    clear o HR hrng c2 c3 c4 c5 c6 c7 c15
    go_wp2
    go_ret
    exact ⟨by rw [unhide HRZ]; rfl, unhide HB⟩
  · obtain ⟨_, hcn, _⟩ := need10 o hnd
    have hcl : p.col < (os.length : Int) := hrng (.inr o) p.col (by unfold colsOv; rw [o]; exact List.mem_append_right _ (List.mem_singleton.2 rfl))
    have e2 : (p.op == 2) = false := by rw [o]; rfl
    have e4 : (p.op == 4) = false := by rw [o]; rfl
    have e5 : (p.op == 5) = false := by rw [o]; rfl
    have e3 : (p.op == 3) = false := by rw [o]; rfl
    have e6 : (p.op == 6) = false := by rw [o]; rfl
    have e10 : (p.op == 10) = true := by rw [o]; rfl
    have hRk : R = (p.fn != 4 || atK os p.col != 2) := by rw [unhide HR]; unfold fitsP; rw [o]; rfl
    by_cases h4 : p.fn = 4
    · obtain ⟨n, hn⟩ : ∃ n : Nat, p.col = (n : Int) := ⟨p.col.toNat, by omega⟩
      have hnl2 : n < os.length := by omega
      obtain ⟨y, hy⟩ : ∃ y, os[n]? = some y := ⟨_, List.getElem?_eq_getElem hnl2⟩
      have HRZ : Hid (R = (y != 2)) := by show _ = _; rw [hRk, h4, hn]; unfold atK; rw [Int.toNat_natCast, hy]; rfl
      obtain ⟨b2, off2, ea2, d2⟩ := (unhide HOS).get hy
      have hnl3 : (n : Int) < (os.length : Int) := by omega
      rw [hn] at c7
      rw [h4] at c6
      rw [ea2] at cq
      clear o HR hRk hrng hcn hcl hn h4 hy c2 c3 c4 c5 c15 HCQ ea2
      go_wp2
      go_ret
      exact ⟨by rw [unhide HRZ]; rfl, unhide HB⟩
    · have b4 : (p.fn != 4) = true := by simpa using h4
      have HRZ : Hid (R = true) := by show _ = _; rw [hRk, b4]; rfl
      clear o HR hRk hrng hcn hcl h4 c2 c3 c4 c5 c15
      go_wp2
      go_ret
      exact ⟨by rw [unhide HRZ]; rfl, unhide HB⟩
  · rw [hnl] at c15
    have e2 : (p.op == 2) = false := by rw [o]; rfl
    have e4 : (p.op == 4) = false := by rw [o]; rfl
    have e5 : (p.op == 5) = false := by rw [o]; rfl
    have e3 : (p.op == 3) = false := by rw [o]; rfl
    have e6 : (p.op == 6) = false := by rw [o]; rfl
    have e10 : (p.op == 10) = false := by rw [o]; rfl
    have e8 : (p.op == 8) = false := by rw [o]; rfl
    have e11 : (p.op == 11) = true := by rw [o]; rfl
    have HC := hide (containsN_over ys os aO cO w.heap.size (by omega) (by omega) hyk na nc wa (unhide HNS) (unhide HOS) (unhide HCQ))
    obtain ⟨rb, hrb⟩ : ∃ rb, rb = (insOf ys).any (fun k => !decide (k = os)) := ⟨_, rfl⟩
    have HRZ : Hid (R = !rb) := by show _ = _; rw [unhide HR, hrb]; unfold fitsP; rw [o]; rfl
    rw [← hrb] at HC
    clear o HR hrb hrng c2 c3 c4 c5 c6 c7 hnl
    go_wp2_with (go_at_call 93; refine (unhide HC).mono ?_; rintro r w2 ⟨rfl, hb2⟩)
    go_ret
    exact ⟨by rw [unhide HRZ]; rfl, below_step (unhide HB) hb2⟩
  · have e2 : (p.op == 2) = false := by rw [o]; rfl
    have e4 : (p.op == 4) = false := by rw [o]; rfl
    have e5 : (p.op == 5) = false := by rw [o]; rfl
    have e3 : (p.op == 3) = false := by rw [o]; rfl
    have e6 : (p.op == 6) = false := by rw [o]; rfl
    have e10 : (p.op == 10) = false := by rw [o]; rfl
    have e8 : (p.op == 8) = false := by rw [o]; rfl
    have e11 : (p.op == 11) = false := by rw [o]; rfl
    have HRZ : Hid (R = true) := by show _ = _; rw [unhide HR]; unfold fitsP; rw [o]; rfl
    clear o HR hrng c2 c3 c4 c5 c6 c7 c15
    go_wp2
    go_ret
    exact ⟨by rw [unhide HRZ]; rfl, unhide HB⟩
end Go.Proofs.YtcpndojkfngioaaGreat

import Derived.Test.YtmgnndbcbalafaaMdK
set_option linter.unusedSimpArgs false
set_option linter.unusedVariables false
namespace Go.Proofs.Ytmgnndbcbalafaa
open Go.RowKit Go.Sort

theorem Mid.insd {w w4 w5 : World} {b c tot sl lb cap k1 c5 : Nat} {a1 a5 : Option Addr} {Ls : List Value} {lv : Nat → List Int} {zs : List Int} (h : Mid w b c tot sl (.slice (some ⟨lb, 0, none⟩) Ls.length cap) Ls lv) (hb : Below w.heap.size w w4) (hs : Ls[0]? = some (.slice a1 (lv 0).length k1))
    (ho : w5.ownsRow 0 2 1 (.slice a5 zs.length c5) zs.length (ints zs)) (hg : w4.grownBy w5 (Value.slice a1 (lv 0).length k1).ownBlock) (hat : (Value.slice a5 zs.length c5).ownBlock = (Value.slice a1 (lv 0).length k1).ownBlock ∨ ∃ k, (Value.slice a5 zs.length c5).ownBlock = some k ∧ w4.heap.size ≤ k) :
    w5.cell? ⟨b, 3, none⟩ = some (.slice (some ⟨lb, 0, none⟩) Ls.length cap) ∧ w5.cell? ⟨lb, 0, none⟩ = some (.slice a1 (lv 0).length k1) ∧ w5.frozen? ⟨lb, 0, none⟩ = false ∧
    Hid (Now w (w5.setCell ⟨lb, 0, none⟩ (.slice a5 zs.length c5)) (foot b (.slice (some ⟨lb, 0, none⟩) Ls.length cap) Ls) b c tot sl (.slice (some ⟨lb, 0, none⟩) Ls.length cap) (Ls.set 0 (.slice a5 zs.length c5)) (up lv 0 zs)) := by
  have h4 := h.later hb
  have h1 := h4.level (w1 := w5) rfl hs ho hg hat
  have hb' := rowIs_grown h4.box hg (h4.boxL hs)
  have hl := own_keep h4.lst (w1 := w5) fun g hg' => hg.block g (h4.lst.lt g hg').2 (fun e => h4.lstL hs (by rw [hg', e]))
  exact ⟨hb'.cell (i := 3) (by omega), own_cell hl hs, own_frozen hl _, (Now.start h).step ⟨h1.1, (Ky.of_below hb).trans h1.2 fun i hi => .inl hi, fun k hk => (foot_level hs hat k hk).imp id fun q => Nat.le_trans hb.size q⟩⟩

set_option maxHeartbeats 1000000 in
set_option maxRecDepth 100000 in
/-- Add. -/
theorem add_any (w : World) (b c : Nat) (S : Value) (Ls : List Value) (xs : List Int) (x : Int) (hA : SkA w b c S Ls xs) (hc : c % 2 = 0) (hc2 : 2 ≤ c) (hc3 : c ≤ 1024) (hx : xs.length ≤ 90000) :
    Calls Try.prog 7 #[.pointer (some ⟨b, 0, none⟩), .int .i64 x] w fun e w' => e = .returned (.int .i64 0) ∧ ∃ S' Ls', SkA w' b c S' Ls' (xs ++ [x]) ∧ Ky (foot b S Ls) w w' ∧ ∀ k, foot b S' Ls' k → foot b S Ls k ∨ w.heap.size ≤ k := by
  obtain ⟨lv, h, sl, hM, hG, hS⟩ := hA
  obtain ⟨lb, cap, rfl⟩ := hM.slice
  obtain ⟨c0, c1, c2, c3, f0, f1, f2, f3⟩ := hM.facts
  have hpos := hM.pos
  obtain ⟨s, hs⟩ : ∃ s, Ls[0]? = some s := ⟨_, List.getElem?_eq_getElem (by omega)⟩
  obtain ⟨a1, k1, rfl, hnum, _, hnn⟩ := num_of_own2 (hM.own 0 s hs)
  have htot : (xs.length : Int) ≤ 90000 := by omega
  have ht40 : ¬ (1099511627776 : Int) ≤ (xs.length : Int) := by omega
  obtain ⟨W, hW⟩ : ∃ W, w.setCell ⟨b, 1, none⟩ (.int .i64 ((xs.length : Int) + 1)) = W := ⟨_, rfl⟩
  have hNW : Now w W (foot b (.slice (some ⟨lb, 0, none⟩) Ls.length cap) Ls) b c (xs.length + 1) sl (.slice (some ⟨lb, 0, none⟩) Ls.length cap) Ls lv := by
    rw [← hW]; exact (Now.start hM).tot (by omega)
  obtain ⟨g0, g1, g2, g3, e0, e1, e2, e3⟩ := hNW.1.facts
  have g4 := own_cell hNW.1.lst hs
  have h0 : (0 : Int) < (Ls.length : Int) := by omega
  have hLs : ¬ Ls = [] := by intro e; rw [e] at hpos; simp at hpos
  obtain ⟨zs, hzs⟩ : ∃ zs, lv 0 = zs := ⟨_, rfl⟩
  obtain ⟨zl, hzl⟩ : ∃ zl, zs.length = zl := ⟨_, rfl⟩
  rw [hzs, hzl] at g4
  have hzb : zs.length ≤ 90000 := by rw [← hzs]; have := hG.level 0; omega
  have hri : Ris zs := by rw [← hzs]; exact hG.ris 0
  obtain ⟨p, hp⟩ : ∃ p, cn x zs = p := ⟨_, rfl⟩
  have hpl : p ≤ zs.length := by rw [← hp]; exact cn_le _ _
  obtain ⟨ZS, hZS⟩ : ∃ ZS, zs.take p ++ x :: zs.drop p = ZS := ⟨_, rfl⟩
  have hZL : ZS.length = zl + 1 := by rw [← hZS]; simp; omega
  have HSS : Hid (∀ W', Below W.heap.size W W' → W'.cell? ⟨b, 3, none⟩ = some (.slice (some ⟨lb, 0, none⟩) Ls.length cap) ∧ W'.cell? ⟨lb, 0, none⟩ = some (.slice a1 zl k1)) := fun W' hb => ⟨cell_later hb g3, cell_later hb g4⟩
  have HNA : Hid (∀ W', Below W.heap.size W W' → Calls Try.prog 12 #[.slice a1 zl k1, .int .i64 x] W' fun e w' => e = .returned (.int .i64 (p : Int)) ∧ Below W'.heap.size W' w') := fun W' hb => by
    have hown := (hNW.1.later hb).own 0 _ hs
    obtain ⟨a1', k1', e', hnum', _⟩ := num_of_own2 hown
    cases e'
    have := notAbove_any zs x a1 k1 W' (by omega) hri (by rw [← hzs]; exact hnum')
    rw [hp, hzl] at this
    exact this
  have HIN : Hid (∀ w4 vb, Below W.heap.size W w4 → w4.heap[vb]? = some (.cells #[.int .i64 x] 2 (0, 0)) → W.heap.size ≤ vb → Calls Try.prog 11 #[.slice a1 zl k1, .int .i64 (p : Int), .slice (some ⟨vb, 0, none⟩) 1 1] w4 fun e w5 => ∃ a5 c5, e = .returned (.slice a5 (zl + 1) c5) ∧
      Hid (Now W (w5.setCell ⟨lb, 0, none⟩ (.slice a5 (zl + 1) c5)) (foot b (.slice (some ⟨lb, 0, none⟩) Ls.length cap) Ls) b c (xs.length + 1) sl (.slice (some ⟨lb, 0, none⟩) Ls.length cap) (Ls.set 0 (.slice a5 (zl + 1) c5)) (up lv 0 ZS)) ∧
      w5.cell? ⟨b, 3, none⟩ = some (.slice (some ⟨lb, 0, none⟩) Ls.length cap) ∧ w5.cell? ⟨lb, 0, none⟩ = some (.slice a1 zl k1) ∧ w5.frozen? ⟨lb, 0, none⟩ = false) := fun w4 vb hb hv hvb => by
    have hown := (hNW.1.later hb).own 0 _ hs
    rw [hzs, hzl] at hown
    have hlt := hown
    have := ins_any w4 (.slice a1 zl k1) zs p x vb (by rw [hzl]; exact hown) hpl (by omega) hv (fun e => by
      have h1 := (hNW.1.own 0 _ hs).lt vb (by rw [hzs, hzl]; exact e)
      omega)
    refine this.mono ?_
    rintro e w5 ⟨a5, c5, rfl, ho5, hg5, hat5⟩
    rw [hZS, hzl, ← hZL] at ho5
    rw [hzl, ← hZL] at hat5
    have hs' : Ls[0]? = some (.slice a1 (lv 0).length k1) := hs
    obtain ⟨q1, q2, q3, q4⟩ := Mid.insd hNW.1 hb hs' ho5 (by rw [hzs, hzl]; exact hg5) (by rw [hzs, hzl]; exact hat5)
    rw [hzs, hzl] at q2
    rw [hZL] at q4
    exact ⟨a5, c5, by rw [hzl], q4, q1, q2, q3⟩
  have HNW := hide hNW
  have HG := hide (show Good c Ls.length (up lv 0 ZS) h sl (xs ++ [x]) from hG.insert x (by rw [← hZS, ← hp]; exact ins_ris hri) (by rw [hzs, ← hZS]; exact ins_perm _ _ _))
  have SS := unhide HSS _ (Below.refl _ W).drew
  clear hM hG hS hs hnum hnn hNW hzb hri hp hpl hZS hZL hzs hzl f0 f2 f3 c0 c2 c3 g0 g1 g2 e0 e1 e2 e3
  go_enter Try.func7, Try.ntmps7
  go_upto_region 4 with fail
  go_cut [0] (fun s0 wc => s0 = .pointer (some ⟨b, 0, none⟩) ∧ ∃ a5 c5, Hid (Now W wc (foot b (.slice (some ⟨lb, 0, none⟩) Ls.length cap) Ls) b c (xs.length + 1) sl (.slice (some ⟨lb, 0, none⟩) Ls.length cap) (Ls.set 0 (.slice a5 (zl + 1) c5)) (up lv 0 ZS)))
  case first =>
        refine wp_region_noPanic ?_
        refine wp_region_G (S := fun w' : World => w'.cell? ⟨b, 3, none⟩ = some (.slice (some ⟨lb, 0, none⟩) Ls.length cap) ∧ w'.cell? ⟨lb, 0, none⟩ = some (.slice a1 zl k1)) (k := 22) (by kernel_rfl) ?_
        change anyG _ _ _ _ _ _ _ _ _ W.drew
        refine anyG_takel (i := 0) (v := (.pointer (some ⟨b, 0, none⟩))) [1, 2, 3, 21, 22] rfl (by kernel_rfl) (by kernel_rfl) (by kernel_rfl) (by kernel_rfl) (fun _ _ _ h => h) (Or.inl ⟨by rfl, fun w' hSw => ?_⟩) SS ?_
        · dsimp only at hSw; obtain ⟨hS1, hS2⟩ := hSw; go_simp
        try simp only [Act.put, List.setIfInBounds_toArray, List.set_cons_zero, List.set_cons_succ]
        refine anyG_takel (i := 1) (v := (.pointer (some ⟨b, 0, none⟩))) [2, 3, 21, 22] rfl (by kernel_rfl) (by kernel_rfl) (by kernel_rfl) (by kernel_rfl) (fun _ _ _ h => h) (Or.inl ⟨by rfl, fun w' hSw => ?_⟩) SS ?_
        · dsimp only at hSw; obtain ⟨hS1, hS2⟩ := hSw; go_simp
        try simp only [Act.put, List.setIfInBounds_toArray, List.set_cons_zero, List.set_cons_succ]
        refine anyG_takel (i := 2) (v := (.pointer (some ⟨b, 3, none⟩))) [3, 21, 22] rfl (by kernel_rfl) (by kernel_rfl) (by kernel_rfl) (by kernel_rfl) (fun _ _ _ h => h) (Or.inl ⟨by rfl, fun w' hSw => ?_⟩) SS ?_
        · dsimp only at hSw; obtain ⟨hS1, hS2⟩ := hSw; go_simp
        try simp only [Act.put, List.setIfInBounds_toArray, List.set_cons_zero, List.set_cons_succ]
        refine anyG_takel (i := 3) (v := (.slice (some ⟨lb, 0, none⟩) Ls.length cap)) [21, 22] rfl (by kernel_rfl) (by kernel_rfl) (by kernel_rfl) (by kernel_rfl) (fun _ _ _ h => h) (Or.inl ⟨by rfl, fun w' hSw => ?_⟩) SS ?_
        · dsimp only at hSw; obtain ⟨hS1, hS2⟩ := hSw; go_simp
        try simp only [Act.put, List.setIfInBounds_toArray, List.set_cons_zero, List.set_cons_succ]
        refine anyG_takel (i := 4) (v := (.pointer (some ⟨b, 0, none⟩))) [5, 6, 7, 8, 9, 20, 21, 22] rfl (by kernel_rfl) (by kernel_rfl) (by kernel_rfl) (by kernel_rfl) (fun _ _ _ h => h) (Or.inl ⟨by rfl, fun w' hSw => ?_⟩) SS ?_
        · dsimp only at hSw; obtain ⟨hS1, hS2⟩ := hSw; go_simp
        try simp only [Act.put, List.setIfInBounds_toArray, List.set_cons_zero, List.set_cons_succ]
        refine anyG_takel (i := 5) (v := (.pointer (some ⟨b, 0, none⟩))) [6, 7, 8, 9, 20, 21, 22] rfl (by kernel_rfl) (by kernel_rfl) (by kernel_rfl) (by kernel_rfl) (fun _ _ _ h => h) (Or.inl ⟨by rfl, fun w' hSw => ?_⟩) SS ?_
        · dsimp only at hSw; obtain ⟨hS1, hS2⟩ := hSw; go_simp
        try simp only [Act.put, List.setIfInBounds_toArray, List.set_cons_zero, List.set_cons_succ]
        refine anyG_takel (i := 6) (v := (.pointer (some ⟨b, 3, none⟩))) [7, 8, 9, 20, 21, 22] rfl (by kernel_rfl) (by kernel_rfl) (by kernel_rfl) (by kernel_rfl) (fun _ _ _ h => h) (Or.inl ⟨by rfl, fun w' hSw => ?_⟩) SS ?_
        · dsimp only at hSw; obtain ⟨hS1, hS2⟩ := hSw; go_simp
        try simp only [Act.put, List.setIfInBounds_toArray, List.set_cons_zero, List.set_cons_succ]
        refine anyG_takel (i := 7) (v := (.slice (some ⟨lb, 0, none⟩) Ls.length cap)) [8, 9, 20, 21, 22] rfl (by kernel_rfl) (by kernel_rfl) (by kernel_rfl) (by kernel_rfl) (fun _ _ _ h => h) (Or.inl ⟨by rfl, fun w' hSw => ?_⟩) SS ?_
        · dsimp only at hSw; obtain ⟨hS1, hS2⟩ := hSw; go_simp
        try simp only [Act.put, List.setIfInBounds_toArray, List.set_cons_zero, List.set_cons_succ]
        refine anyG_takel (i := 8) (v := (.pointer (some ⟨lb, 0, none⟩))) [9, 20, 21, 22] rfl (by kernel_rfl) (by kernel_rfl) (by kernel_rfl) (by kernel_rfl) (fun _ _ _ h => h) (Or.inl ⟨by rfl, fun w' hSw => ?_⟩) SS ?_
        · dsimp only at hSw; obtain ⟨hS1, hS2⟩ := hSw; go_simp
        try simp only [Act.put, List.setIfInBounds_toArray, List.set_cons_zero, List.set_cons_succ]
        refine anyG_takel (i := 9) (v := (.slice a1 zl k1)) [20, 21, 22] rfl (by kernel_rfl) (by kernel_rfl) (by kernel_rfl) (by kernel_rfl) (fun _ _ _ h => h) (Or.inl ⟨by rfl, fun w' hSw => ?_⟩) SS ?_
        · dsimp only at hSw; obtain ⟨hS1, hS2⟩ := hSw; go_simp
        try simp only [Act.put, List.setIfInBounds_toArray, List.set_cons_zero, List.set_cons_succ]
        refine anyG_takel (i := 10) (v := (.pointer (some ⟨b, 0, none⟩))) [11, 12, 13, 14, 15, 17, 20, 21, 22] rfl (by kernel_rfl) (by kernel_rfl) (by kernel_rfl) (by kernel_rfl) (fun _ _ _ h => h) (Or.inl ⟨by rfl, fun w' hSw => ?_⟩) SS ?_
        · dsimp only at hSw; obtain ⟨hS1, hS2⟩ := hSw; go_simp
        try simp only [Act.put, List.setIfInBounds_toArray, List.set_cons_zero, List.set_cons_succ]
        refine anyG_takel (i := 11) (v := (.pointer (some ⟨b, 0, none⟩))) [12, 13, 14, 15, 17, 20, 21, 22] rfl (by kernel_rfl) (by kernel_rfl) (by kernel_rfl) (by kernel_rfl) (fun _ _ _ h => h) (Or.inl ⟨by rfl, fun w' hSw => ?_⟩) SS ?_
        · dsimp only at hSw; obtain ⟨hS1, hS2⟩ := hSw; go_simp
        try simp only [Act.put, List.setIfInBounds_toArray, List.set_cons_zero, List.set_cons_succ]
        refine anyG_takel (i := 12) (v := (.pointer (some ⟨b, 3, none⟩))) [13, 14, 15, 17, 20, 21, 22] rfl (by kernel_rfl) (by kernel_rfl) (by kernel_rfl) (by kernel_rfl) (fun _ _ _ h => h) (Or.inl ⟨by rfl, fun w' hSw => ?_⟩) SS ?_
        · dsimp only at hSw; obtain ⟨hS1, hS2⟩ := hSw; go_simp
        try simp only [Act.put, List.setIfInBounds_toArray, List.set_cons_zero, List.set_cons_succ]
        refine anyG_takel (i := 13) (v := (.slice (some ⟨lb, 0, none⟩) Ls.length cap)) [14, 15, 17, 20, 21, 22] rfl (by kernel_rfl) (by kernel_rfl) (by kernel_rfl) (by kernel_rfl) (fun _ _ _ h => h) (Or.inl ⟨by rfl, fun w' hSw => ?_⟩) SS ?_
        · dsimp only at hSw; obtain ⟨hS1, hS2⟩ := hSw; go_simp
        try simp only [Act.put, List.setIfInBounds_toArray, List.set_cons_zero, List.set_cons_succ]
        refine anyG_takel (i := 14) (v := (.pointer (some ⟨lb, 0, none⟩))) [15, 17, 20, 21, 22] rfl (by kernel_rfl) (by kernel_rfl) (by kernel_rfl) (by kernel_rfl) (fun _ _ _ h => h) (Or.inl ⟨by rfl, fun w' hSw => ?_⟩) SS ?_
        · dsimp only at hSw; obtain ⟨hS1, hS2⟩ := hSw; go_simp
        try simp only [Act.put, List.setIfInBounds_toArray, List.set_cons_zero, List.set_cons_succ]
        refine anyG_takel (i := 15) (v := (.slice a1 zl k1)) [17, 20, 21, 22] rfl (by kernel_rfl) (by kernel_rfl) (by kernel_rfl) (by kernel_rfl) (fun _ _ _ h => h) (Or.inl ⟨by rfl, fun w' hSw => ?_⟩) SS ?_
        · dsimp only at hSw; obtain ⟨hS1, hS2⟩ := hSw; go_simp
        try simp only [Act.put, List.setIfInBounds_toArray, List.set_cons_zero, List.set_cons_succ]
        refine anyG_takel (i := 16) (v := (.int .i64 x)) [17, 20, 21, 22] rfl (by kernel_rfl) (by kernel_rfl) (by kernel_rfl) (by kernel_rfl) (fun _ _ _ h => h) (Or.inl ⟨by rfl, fun w' hSw => ?_⟩) SS ?_
        · dsimp only at hSw; obtain ⟨hS1, hS2⟩ := hSw; go_simp
        try simp only [Act.put, List.setIfInBounds_toArray, List.set_cons_zero, List.set_cons_succ]
        refine anyG_takel (i := 18) (v := (.int .i64 x)) [19, 20, 21, 22] rfl (by kernel_rfl) (by kernel_rfl) (by kernel_rfl) (by kernel_rfl) (fun _ _ _ h => h) (Or.inl ⟨by rfl, fun w' hSw => ?_⟩) SS ?_
        · dsimp only at hSw; obtain ⟨hS1, hS2⟩ := hSw; go_simp
        try simp only [Act.put, List.setIfInBounds_toArray, List.set_cons_zero, List.set_cons_succ]
        refine anyG_many [17, 19] (by kernel_rfl) (by simp) ?_
        intro i hi
        simp only [List.mem_cons, List.not_mem_nil, or_false] at hi
        rcases hi with rfl | rfl
        · refine wpOp_lit rfl (by rfl) fun K hK => ?_
          go_simp
          refine (unhide HNA W.drew (Below.refl _ _).drew).mono ?_
          rintro e w3 ⟨rfl, hb3⟩
          have HB3 := hide hb3
          have SS3 := unhide HSS _ (below_step (Below.refl _ _).drew hb3)
          clear hb3
          go_simp
          refine unhide hK _ _ ⟨fun _ => SS3, ?_⟩
          clear hK K
          refine anyG_one (i := 19) (by kernel_rfl) ?_
          refine wpOp_lit rfl (by rfl) fun K hK => ?_
          go_simp
          obtain ⟨vb, hvb⟩ : ∃ vb, w3.heap.size = vb := ⟨_, rfl⟩
          obtain ⟨w4, hw4⟩ : ∃ w4, w3.alloc (.cells #[.int .i64 x] 2) = w4 := ⟨_, rfl⟩
          have HB4 : Hid (Below W.heap.size W w4) := by have h := below_step (Below.refl _ W).drew (unhide HB3); rw [← hw4]; exact below_alloc h _
          have HV4 : Hid (w4.heap[vb]? = some (.cells #[.int .i64 x] 2 (0, 0))) := by show _ = _; rw [← hw4, ← hvb]; show (w3.heap.push _)[w3.heap.size]? = _; rw [Array.getElem?_push_size]
          have HVB : Hid (W.heap.size ≤ vb) := by have := (unhide HB3).size; rw [← hvb]; exact this
          have SS4 := unhide HSS _ (unhide HB4)
          rw [hw4, hvb]
          clear hvb hw4
          refine unhide hK _ _ ⟨fun _ => SS4, ?_⟩
          clear hK K SS3
          refine anyG_one (i := 20) (by kernel_rfl) ?_
          refine wpOp_lit rfl (by rfl) fun K hK => ?_
          go_simp
          refine (unhide HIN w4 vb (unhide HB4) (unhide HV4) (unhide HVB)).mono ?_
          rintro e w5 ⟨a5, c5, rfl, HN, q1, q2, q3⟩
          go_simp
          refine unhide hK _ _ ⟨fun _ => ⟨q1, q2⟩, ?_⟩
          clear hK K
          refine anyG_takel (i := 21) (v := (.pointer (some ⟨lb, 0, none⟩))) [22] rfl (by kernel_rfl) (by kernel_rfl) (by kernel_rfl) (by kernel_rfl) (fun _ _ _ h => h) (Or.inl ⟨by rfl, fun w' hSw => ?_⟩) ⟨q1, q2⟩ ?_
          · dsimp only at hSw; obtain ⟨hS1, hS2⟩ := hSw; go_simp
          try simp only [Act.put, List.setIfInBounds_toArray, List.set_cons_zero, List.set_cons_succ]
          refine anyG_one (i := 22) (by kernel_rfl) ?_
          refine wpOp_lit rfl (by rfl) fun K hK => ?_
          go_simp
          refine unhide hK _ _ ⟨fun hh => absurd hh (by decide), ?_⟩
          clear hK K
          refine anyG_done (by kernel_rfl) ?_ _
          refine NoPanic.normal ?_
          go_wp2
          go_meet
          exact ⟨rfl, a5, c5, HN⟩
        · refine wpOp_lit rfl (by rfl) fun K hK => ?_
          go_simp
          obtain ⟨vb, hvb⟩ : ∃ vb, W.heap.size = vb := ⟨_, rfl⟩
          obtain ⟨w3, hw3⟩ : ∃ w3, (W.alloc (.cells #[.int .i64 x] 2)).drew = w3 := ⟨_, rfl⟩
          have HB3 : Hid (Below W.heap.size W w3) := by rw [← hw3]; exact (below_alloc (Below.refl _ W) _).drew
          have HV3 : Hid (w3.heap[vb]? = some (.cells #[.int .i64 x] 2 (0, 0))) := by show _ = _; rw [← hw3, ← hvb]; show (W.heap.push _)[W.heap.size]? = _; rw [Array.getElem?_push_size]
          have HVB : Hid (W.heap.size ≤ vb) := by rw [← hvb]; exact Nat.le_refl _
          have SS3 := unhide HSS _ (unhide HB3)
          try rw [hw3]
          try rw [hvb]
          clear hvb hw3
          refine unhide hK _ _ ⟨fun _ => SS3, ?_⟩
          clear hK K
          refine anyG_one (i := 17) (by kernel_rfl) ?_
          refine wpOp_lit rfl (by rfl) fun K hK => ?_
          go_simp
          refine (unhide HNA w3 (unhide HB3)).mono ?_
          rintro e w4 ⟨rfl, hb4⟩
          have HB4 := hide (below_step (unhide HB3) hb4)
          have HV4 : Hid (w4.heap[vb]? = some (.cells #[.int .i64 x] 2 (0, 0))) := (hb4.block vb (Array.getElem?_eq_some_iff.1 (unhide HV3)).1).trans (unhide HV3)
          have SS4 := unhide HSS _ (unhide HB4)
          clear hb4
          go_simp
          refine unhide hK _ _ ⟨fun _ => SS4, ?_⟩
          clear hK K SS3
          refine anyG_one (i := 20) (by kernel_rfl) ?_
          refine wpOp_lit rfl (by rfl) fun K hK => ?_
          go_simp
          refine (unhide HIN w4 vb (unhide HB4) (unhide HV4) (unhide HVB)).mono ?_
          rintro e w5 ⟨a5, c5, rfl, HN, q1, q2, q3⟩
          go_simp
          refine unhide hK _ _ ⟨fun _ => ⟨q1, q2⟩, ?_⟩
          clear hK K
          refine anyG_takel (i := 21) (v := (.pointer (some ⟨lb, 0, none⟩))) [22] rfl (by kernel_rfl) (by kernel_rfl) (by kernel_rfl) (by kernel_rfl) (fun _ _ _ h => h) (Or.inl ⟨by rfl, fun w' hSw => ?_⟩) ⟨q1, q2⟩ ?_
          · dsimp only at hSw; obtain ⟨hS1, hS2⟩ := hSw; go_simp
          try simp only [Act.put, List.setIfInBounds_toArray, List.set_cons_zero, List.set_cons_succ]
          refine anyG_one (i := 22) (by kernel_rfl) ?_
          refine wpOp_lit rfl (by rfl) fun K hK => ?_
          go_simp
          refine unhide hK _ _ ⟨fun hh => absurd hh (by decide), ?_⟩
          clear hK K
          refine anyG_done (by kernel_rfl) ?_ _
          refine NoPanic.normal ?_
          go_wp2
          go_meet
          exact ⟨rfl, a5, c5, HN⟩
  case rest =>
    obtain ⟨rfl, a5, c5, HT⟩ := hcut
    have HTH : Hid (Calls Try.prog 10 #[.pointer (some ⟨b, 0, none⟩)] wc fun e w' => e = .returned (.tuple #[]) ∧ ∃ S' Ls', SkA w' b c S' Ls' (xs ++ [x]) ∧ Ky (foot b (.slice (some ⟨lb, 0, none⟩) Ls.length cap) Ls) w w' ∧ ∀ k, foot b S' Ls' k → foot b (.slice (some ⟨lb, 0, none⟩) Ls.length cap) Ls k ∨ w.heap.size ≤ k) := by
      have hT := (unhide HNW).step (unhide HT)
      have hl : (xs ++ [x]).length = xs.length + 1 := by simp
      refine (thin_any wc b c sl _ _ (up lv 0 ZS) h (xs ++ [x]) (by rw [hl]; exact hT.1) (by rw [List.length_set]; exact unhide HG) hc hc2 hc3 (by omega)).mono ?_
      rintro e w' ⟨rfl, S', Ls', hK⟩
      obtain ⟨k1, k2, k3⟩ := hK.all (by omega)
      refine ⟨rfl, S', Ls', k1, hT.2.1.trans k2 hT.2.2, fun k hk => ?_⟩
      rcases k3 k hk with q | q
      · exact hT.2.2 k q
      · exact .inr (Nat.le_trans hT.2.1.size q)
    go_wp2_with (go_at_call 10; refine (unhide HTH).mono ?_; rintro e w2 ⟨rfl, HR⟩; replace HR := hide HR)
    go_ret
    exact ⟨rfl, unhide HR⟩
end Go.Proofs.Ytmgnndbcbalafaa

import Derived.Test.YthbfomcmjjnikaaGreatRyV
set_option linter.unusedSimpArgs false
set_option linter.unusedVariables false
namespace Go.Proofs.YthbfomcmjjnikaaGreat
open Go.RowKit Go.Sort

theorem low_min : ∀ (ys : List Val) (m : Val), m.k ≠ 0 → (∀ y ∈ ys, y.k ≠ 0) → ys.foldl lowS m = minFrom m ys
  | [], m, _, _ => rfl
  | y :: ys, m, hm, h => by
    have hy := h y (List.mem_cons_self ..)
    have e : lowS m y = if ordV y m < 0 then y else m := by
      unfold lowS
      have : (m.k == 0) = false := by simpa using hm
      rw [this]
      by_cases hh : ordV y m < 0 <;> simp [hh]
    show ys.foldl lowS (lowS m y) = minFrom (if ordV y m < 0 then y else m) ys
    rw [e]
    refine low_min ys _ ?_ (fun z hz => h z (by simp [hz]))
    split
    · exact hy
    · exact hm
theorem high_spec : ∀ (ys : List Val) (m : Val), ys.foldl highS m ∈ m :: ys ∧ ∀ y ∈ m :: ys, ordV y (ys.foldl highS m) ≤ 0
  | [], m => ⟨by simp, fun y hy => by simp at hy; subst hy; rw [List.foldl_nil, ord_self]; omega⟩
  | z :: ys, m => by
    have e : (z :: ys).foldl highS m = ys.foldl highS (highS m z) := rfl
    rw [e]
    obtain ⟨h1, h2⟩ := high_spec ys (highS m z)
    have hle := h2 _ (List.mem_cons_self ..)
    have hc : (0 < ordV z m ∧ highS m z = z) ∨ (¬ 0 < ordV z m ∧ highS m z = m) := by
      unfold highS
      by_cases h : 0 < ordV z m
      · exact .inl ⟨h, by simp [h]⟩
      · exact .inr ⟨h, by simp [h]⟩
    rcases hc with ⟨hz, e2⟩ | ⟨hz, e2⟩
    · rw [e2] at h1 h2 hle ⊢
      have hmz : ordV m z ≤ 0 := by have := ord_anti m z; omega
      refine ⟨by simp only [List.mem_cons] at h1 ⊢; rcases h1 with h | h <;> simp [h], fun y hy => ?_⟩
      rcases List.mem_cons.1 hy with rfl | hy
      · exact ord_le hmz hle
      · rcases List.mem_cons.1 hy with rfl | hy
        · exact hle
        · exact h2 y (by simp [hy])
    · rw [e2] at h1 h2 hle ⊢
      refine ⟨by simp only [List.mem_cons] at h1 ⊢; rcases h1 with h | h <;> simp [h], fun y hy => ?_⟩
      rcases List.mem_cons.1 hy with rfl | hy
      · exact hle
      · rcases List.mem_cons.1 hy with rfl | hy
        · exact ord_le (by omega) hle
        · exact h2 y (by simp [hy])
theorem low_first (y : Val) : lowS .null y = y := by simp [lowS, Val.null]
theorem high_first {y : Val} (hc : cleanV y = y) (hk : y.k ≠ 0) : highS .null y = y := by
  have : 0 < ordV y .null := by
    rcases clean_shape hc with rfl | ⟨n, rfl⟩ | ⟨s, rfl⟩
    · exact absurd rfl hk
    · show 0 < orI (cmpI 1 0) _ _
      rw [show cmpI 1 0 = 1 from rfl]; unfold orI; simp
    · show 0 < orI (cmpI 2 0) _ _
      rw [show cmpI 2 0 = 1 from rfl]; unfold orI; simp
  simp [highS, this]
theorem ord_one {x y : Val} (hx : cleanV x = x) (hy : cleanV y = y) (h1 : ordV x y ≤ 0) (h2 : ordV y x ≤ 0) : x = y := by
  have h3 := ord_anti x y
  have := ord_eq (x := x) (y := y) (by omega)
  rw [hx, hy] at this
  exact this
theorem null_count : ∀ (xs : List Val), (xs.filter (fun x => x.k == 0)).length + (standL xs).length = xs.length
  | [] => rfl
  | x :: xs => by
    have ih := null_count xs
    unfold standL at *
    have hb : (x.k != 0) = !(x.k == 0) := rfl
    rw [List.filter_cons, List.filter_cons, hb]
    cases h : (x.k == 0)
    · simp only [Bool.false_eq_true, if_false, Bool.not_false, if_true, List.length_cons]; omega
    · simp only [Bool.not_true, Bool.false_eq_true, if_false, if_true, List.length_cons]; omega
/-- The ends of what stands sorted are what the program finds. -/
theorem span_same {xs S : List Val} (hc : ∀ x ∈ xs, cleanV x = x) (hp : S.Perm (standL xs)) (hr : Rises S) :
    (S = [] → (spanT xs xs.length).1 = .null ∧ (spanT xs xs.length).2.1 = .null) ∧ (∀ (h : 0 < S.length), (spanT xs xs.length).1 = atL S 0 ∧ (spanT xs xs.length).2.1 = atL S (S.length - 1)) ∧ (spanT xs xs.length).2.2 = xs.length - (standL xs).length := by
  unfold spanT
  rw [List.take_length]
  have hs : ∀ y ∈ standL xs, cleanV y = y ∧ y.k ≠ 0 := fun y hy => by
    obtain ⟨h1, h2⟩ := List.mem_filter.1 hy
    exact ⟨hc y h1, by simpa using h2⟩
  refine ⟨fun e => ?_, fun h => ?_, ?_⟩
  · subst e
    have : standL xs = [] := List.Perm.nil_eq hp |>.symm
    rw [this]; exact ⟨rfl, rfl⟩
  · have h0 := atL_some h
    have hl := atL_some (L := S) (k := S.length - 1) (by omega)
    cases hst : standL xs with
    | nil => rw [hst] at hp; have := hp.length_eq; simp at this; rw [this] at h; simp at h
    | cons y ys =>
      rw [hst] at hp hs
      have e1 : (y :: ys).foldl lowS .null = minFrom y ys := by
        show ys.foldl lowS (lowS .null y) = _
        rw [low_first]
        exact low_min ys y (hs y (by simp)).2 (fun z hz => (hs z (by simp [hz])).2)
      have e2 : (y :: ys).foldl highS .null = ys.foldl highS y := by
        show ys.foldl highS (highS .null y) = _
        rw [high_first (hs y (by simp)).1 (hs y (by simp)).2]
      obtain ⟨m1, m2⟩ := min_spec ys y
      obtain ⟨g1, g2⟩ := high_spec ys y
      have c0 := List.mem_of_getElem? h0
      have cl := List.mem_of_getElem? hl
      have key : ∀ z ∈ y :: ys, ∃ i, S[i]? = some z := fun z hz => List.mem_iff_getElem?.1 (hp.mem_iff.2 hz)
      rw [e1, e2]
      refine ⟨ord_one (hs _ m1).1 (hs _ (hp.mem_iff.1 c0)).1 (m2 _ (hp.mem_iff.1 c0)) ?_, ord_one (hs _ g1).1 (hs _ (hp.mem_iff.1 cl)).1 ?_ (g2 _ (hp.mem_iff.1 cl))⟩
      · obtain ⟨i, hi⟩ := key _ m1
        exact hr.at (Nat.zero_le _) h0 hi
      · obtain ⟨i, hi⟩ := key _ g1
        have := (List.getElem?_eq_some_iff.1 hi).1
        exact hr.at (by omega) hi hl
  · have := null_count xs
    simp only
    omega
theorem unl_ends {S : List Val} (hc : ∀ x ∈ S, cleanV x = x) : (S = [] → unlT S S.length = []) ∧ (0 < S.length → 0 < (unlT S S.length).length ∧ (unlT S S.length)[0]? = some (atL S 0) ∧ (unlT S S.length)[(unlT S S.length).length - 1]? = some (atL S (S.length - 1))) := by
  refine ⟨fun e => by subst e; rfl, fun h => ?_⟩
  rw [unl_compL hc]
  unfold compL
  have h1 := comp_head S h (S.length - 1) (by omega)
  have h2 := comp_last S (S.length - 1) (by omega)
  refine ⟨(List.getElem?_eq_some_iff.1 h1).1, h1, ?_⟩
  rw [List.getLast?_eq_getElem?] at h2
  exact h2
end Go.Proofs.YthbfomcmjjnikaaGreat
set_option linter.unusedSimpArgs false
set_option linter.unusedVariables false
namespace Go.Proofs.YthbfomcmjjnikaaGreat
open Go.RowKit Go.Sort

set_option maxHeartbeats 2000000 in
set_option maxRecDepth 100000 in
theorem rspan_any (X : Vc) (p : Sl) (w : World) (hs : small X) (hp : VecAt w X p) {xs : List Val} (hx : valsV X = xs) (hc : ∀ x ∈ xs, cleanV x = x) (hl : xs.length ≤ 4096) :
    Calls Tryz.prog 35 #[vecV X p] w fun e w' => e = .returned (.tuple #[(spanT xs xs.length).1.v, (spanT xs xs.length).2.1.v, .int .i64 ((spanT xs xs.length).2.2 : Nat)]) ∧ Below w.heap.size w w' := by
  have HV : Hid (∀ W, Below w.heap.size w W → Calls Tryz.prog 63 #[.agg #[.int .i64 X.k, .slice p.a1 X.nl.length p.c1, .slice p.a2 X.ns.length p.c2, .slice p.a3 X.ss.length p.c3]] W fun e w' => ∃ v, e = .returned v ∧ OwnV w' W.heap.size v xs ∧ Below W.heap.size W w') := fun W hW => by rw [← hx]; exact rvalues_any X p W hs (hp.later hW)
  obtain ⟨L, G, N, hR⟩ : ∃ L G N, spanT xs xs.length = (L, G, N) := ⟨_, _, _, rfl⟩
  have HSP := hide (fun S (hp : S.Perm (standL xs)) (hr : Rises S) => span_same hc hp hr)
  rw [hR] at HSP ⊢
  have hsl : (standL xs).length ≤ xs.length := List.length_filter_le _ _
  have HC : Hid (∀ S : List Val, S.Perm (standL xs) → ∀ x ∈ S, cleanV x = x) := fun S hp x hx => hc x (List.mem_filter.1 (hp.mem_iff.1 hx)).1
  have HST := hide (fun W a c (ha : RowAt W a xs) => stand_any a c xs W (by omega) ha)
  have HUN := hide (fun W b v (ha : OwnV W b v (standL xs)) => unlike_any b (standL xs) v W (by omega) ha)
  rw [vecV_open]
  clear hx hs hp hR hc
  generalize hys : standL xs = ys at *
  clear hys
  go_enter Tryz.func35, Tryz.ntmps35
  go_upto_region 3 with (first
    | (go_at_call 63; refine (unhide HV _ (below_alloc (below_alloc (below_alloc (Below.refl _ _) _) _) _)).mono ?_; rintro e w1 ⟨v1, rfl, ho1, hb1⟩; obtain ⟨a1, c1, rfl, _, _, hr1⟩ := ownV_slice ho1)
    | (go_at_call 65; refine (unhide HST _ _ _ hr1).mono ?_; rintro e w2 ⟨v2, rfl, ho2, hb2⟩)
    | (go_at_call 64; refine (unhide HUN _ _ _ ho2).mono ?_; rintro e w3 ⟨S, v3, rfl, HS, ho3, hb3⟩; obtain ⟨a3, cc3, rfl, _, _, hr3⟩ := ownV_slice ho3))
  obtain ⟨hSp, hSr⟩ := unhide HS
  obtain ⟨s1, s2, s3⟩ := unhide HSP S hSp hSr
  obtain ⟨u1, u2⟩ := unl_ends (unhide HC S hSp)
  have hb13 := below_step (below_step hb1 hb2) hb3
  have hBw := below_one (below_one (below_one hb13))
  obtain ⟨⟨b0, b1, b2⟩, q0, q1, q2⟩ := zero37_facts (B := w.heap.size + 1 + 1) (w := (w.alloc (.cells #[.int .i64 X.k, .slice p.a1 X.nl.length p.c1, .slice p.a2 X.ns.length p.c2, .slice p.a3 X.ss.length p.c3] 49)).alloc zero37) (by simp) rfl hb13
  obtain ⟨⟨d0, d1, d2⟩, r0, r1, r2⟩ := zero37_facts (B := w.heap.size + 1) (w := w.alloc (.cells #[.int .i64 X.k, .slice p.a1 X.nl.length p.c1, .slice p.a2 X.ns.length p.c2, .slice p.a3 X.ss.length p.c3] 49)) (by simp) rfl (below_one hb13)
  have HR1 := hide (hr1.later (below_step hb2 hb3))
  have hub : ∀ ad, a3 = some ad → w.heap.size + 1 + 1 + 1 ≤ ad.block := fun ad e => by
    subst e
    have h1 := (World.ownsRow.lt ho3 ad.block rfl).1
    have h2 := hb1.size
    have h3 := hb2.size
    simp at h2; omega
  have HR3 := hide hr3
  have HBW := hide hBw
  have HBF := hide hb13
  have hyl := hSp.length_eq
  have hzw : w.heap.size + 1 + 1 + 1 ≤ w3.heap.size := by have := hb13.size; simp at this; omega
  generalize hU : unlT S S.length = U at *
  clear hb1 hb2 hb3 hb13 hBw hr1 hr3 ho1 ho2 ho3 HV HUN HSP HS
  by_cases hS : S = []
  · obtain ⟨e1, e2⟩ := s1 hS
    have eU := u1 hS
    have eN : N = xs.length := by rw [hS] at hyl; simp at hyl; omega
    have HE : Hid (L = .null ∧ G = .null ∧ N = xs.length) := ⟨e1, e2, eN⟩
    subst eU
    clear s1 s2 s3 u1 u2 e1 e2 eN hU hS hyl hSp hSr
    obtain ⟨NV, hNV⟩ : ∃ NV, Hid (NV = Val.null) := ⟨_, rfl⟩
    have HNO : Hid (∀ W, Calls Tryz.prog 61 #[] W fun e w' => e = .returned NV.v ∧ Below W.heap.size W w') := fun W => by rw [unhide hNV]; exact none_any W
    have HZ : Hid (∀ W', Below w3.heap.size w3 W' → ((W'.cell? ⟨w.heap.size + 1 + 1, 0, none⟩ = some (.int .i64 0) ∧ W'.cell? ⟨w.heap.size + 1 + 1, 1, none⟩ = some (.int .i64 0) ∧ W'.cell? ⟨w.heap.size + 1 + 1, 2, none⟩ = some (.string ⟨#[]⟩)) ∧ (W'.frozen? ⟨w.heap.size + 1 + 1, 0, none⟩ = false ∧ W'.frozen? ⟨w.heap.size + 1 + 1, 1, none⟩ = false ∧ W'.frozen? ⟨w.heap.size + 1 + 1, 2, none⟩ = false)) ∧
        ((W'.cell? ⟨w.heap.size + 1, 0, none⟩ = some (.int .i64 0) ∧ W'.cell? ⟨w.heap.size + 1, 1, none⟩ = some (.int .i64 0) ∧ W'.cell? ⟨w.heap.size + 1, 2, none⟩ = some (.string ⟨#[]⟩)) ∧ (W'.frozen? ⟨w.heap.size + 1, 0, none⟩ = false ∧ W'.frozen? ⟨w.heap.size + 1, 1, none⟩ = false ∧ W'.frozen? ⟨w.heap.size + 1, 2, none⟩ = false))) := fun W' hW' =>
      ⟨zero37_facts (B := w.heap.size + 1 + 1) (w := (w.alloc (.cells #[.int .i64 X.k, .slice p.a1 X.nl.length p.c1, .slice p.a2 X.ns.length p.c2, .slice p.a3 X.ss.length p.c3] 49)).alloc zero37) (by simp) rfl (below_step (unhide HBF) hW'), zero37_facts (B := w.heap.size + 1) (w := w.alloc (.cells #[.int .i64 X.k, .slice p.a1 X.nl.length p.c1, .slice p.a2 X.ns.length p.c2, .slice p.a3 X.ss.length p.c3] 49)) (by simp) rfl (below_one (below_step (unhide HBF) hW'))⟩
    go_wp2_with (first
      | (go_at_call 61; refine (unhide HNO _).mono ?_; first | (rintro e w5 ⟨rfl, hb5⟩; have hB5 := below_step hb4 hb5; rw [Val.open_]; obtain ⟨⟨⟨b0, b1, b2⟩, q0, q1, q2⟩, ⟨d0, d1, d2⟩, r0, r1, r2⟩ := unhide HZ _ hB5) | (rintro e w4 ⟨rfl, hb4⟩; rw [Val.open_])))
    refine bodyPost_ret (v := .tuple #[NV.v, NV.v, .int .i64 (xs.length : Int)]) (by simp [results, Tryz.results35, go_sem, Val.v, *]) rfl ⟨?_, ?_⟩
    · obtain ⟨e1, e2, e3⟩ := unhide HE
      rw [e1, e2, e3, unhide hNV]
    · exact put3 (put3 (below_step (unhide HBW) hB5) (by omega) _ _ _) (by omega) _ _ _
  · have hS0 : 0 < S.length := by
      cases S with
      | nil => exact absurd rfl hS
      | cons a b => simp
    obtain ⟨e1, e2⟩ := s2 hS0
    obtain ⟨v1, v2', v3'⟩ := u2 hS0
    have hys2 : ys.length ≤ xs.length := hsl
    have HE : Hid (L = atL S 0 ∧ G = atL S (S.length - 1) ∧ N = xs.length - ys.length) := ⟨e1, e2, s3⟩
    obtain ⟨A, hA⟩ : ∃ A, A = atL S 0 := ⟨_, rfl⟩
    obtain ⟨Z, hZ⟩ : ∃ Z, Z = atL S (S.length - 1) := ⟨_, rfl⟩
    rw [← hA] at v2' HE
    rw [← hZ] at v3' HE
    obtain ⟨n, hn⟩ : ∃ n, U.length = n + 1 := ⟨U.length - 1, by omega⟩
    rw [hn, Nat.add_sub_cancel] at v3'
    have hun : n + 1 ≤ 1048577 := by have := unlT_len S S.length; rw [hU, hn] at this; omega
    obtain ⟨ub, uo, rfl, c0, c1', c2⟩ := (unhide HR3).lo v2'
    obtain ⟨ub', uo', eu, f0, f1, f2⟩ := (unhide HR3).lo v3'
    have hub2 : w.heap.size + 1 + 1 + 1 ≤ ub := hub _ rfl
    have hne1 : ub ≠ w.heap.size + 1 := by omega
    have hne2 : ub ≠ w.heap.size + 1 + 1 := by omega
    injection eu with eu
    injection eu with eu1 eu2
    subst eu1 eu2
    rw [Nat.zero_mul, Nat.add_zero] at c0 c1' c2
    rw [hn]
    have hn1 : ((n : Int) + 1 == 0) = false := by simp; omega
    have HV0 := hide v2'
    have HVN := hide v3'
    clear s1 s2 s3 u1 u2 e1 e2 v1 v2' v3' hU hS hyl hSp hSr hS0 hA hZ hn
    have HST2 := hide (unhide HST w3.drew a1 c1 ((unhide HR1).later ((Below.refl _ w3).drew)))
    have hq1 : (n : Int) < (n : Int) + 1 := by omega
    have hq2 : ¬ (n : Int) < 0 := by omega
    have hq3 : (n : Int) + 1 - 1 = n := by omega
    have hq4 : n < n + 1 := by omega
    have hni : (n : Int) ≤ 1048576 := by omega
    go_upto_region 5 with fail
    go_cut [4] (fun s4 wx => s4 = .int .i64 ((xs.length : Int) - (ys.length : Int)) ∧ (wx.cell? ⟨w.heap.size + 1, 0, none⟩ = some (.int .i64 A.k) ∧ wx.cell? ⟨w.heap.size + 1, 1, none⟩ = some (.int .i64 A.n) ∧ wx.cell? ⟨w.heap.size + 1, 2, none⟩ = some (.string A.s)) ∧ (wx.cell? ⟨w.heap.size + 1 + 1, 0, none⟩ = some (.int .i64 Z.k) ∧ wx.cell? ⟨w.heap.size + 1 + 1, 1, none⟩ = some (.int .i64 Z.n) ∧ wx.cell? ⟨w.heap.size + 1 + 1, 2, none⟩ = some (.string Z.s)) ∧ Below w.heap.size w wx)
    case first =>
      have hS0 : (fun w' : World => w'.cell? ⟨ub, uo, none⟩ = some (.int .i64 A.k) ∧ w'.cell? ⟨ub, uo + 1, none⟩ = some (.int .i64 A.n) ∧ w'.cell? ⟨ub, uo + 2, none⟩ = some (.string A.s) ∧ w'.cell? ⟨ub, uo + n * 3, none⟩ = some (.int .i64 Z.k) ∧ w'.cell? ⟨ub, uo + n * 3 + 1, none⟩ = some (.int .i64 Z.n) ∧ w'.cell? ⟨ub, uo + n * 3 + 2, none⟩ = some (.string Z.s)) w3.drew := ⟨c0, c1', c2, f0, f1, f2⟩
      refine wp_region_noPanic ?_
      refine wp_region_G (S := fun w' : World => w'.cell? ⟨ub, uo, none⟩ = some (.int .i64 A.k) ∧ w'.cell? ⟨ub, uo + 1, none⟩ = some (.int .i64 A.n) ∧ w'.cell? ⟨ub, uo + 2, none⟩ = some (.string A.s) ∧ w'.cell? ⟨ub, uo + n * 3, none⟩ = some (.int .i64 Z.k) ∧ w'.cell? ⟨ub, uo + n * 3 + 1, none⟩ = some (.int .i64 Z.n) ∧ w'.cell? ⟨ub, uo + n * 3 + 2, none⟩ = some (.string Z.s)) (k := 17) (by kernel_rfl) ?_
      refine anyG_takel (i := 0) (v := (.slice (some ⟨ub, uo, none⟩) (n + 1) cc3)) [1, 2, 15, 16, 17] rfl (by kernel_rfl) (by kernel_rfl) (by kernel_rfl) (by kernel_rfl) (fun _ _ _ h => h) (Or.inl ⟨by rfl, fun w' hSw => ?_⟩) hS0 ?_
      · dsimp only at hSw; obtain ⟨q0, q1, q2, q3, q4, q5⟩ := hSw; go_simp; first | done | exact wr_i64 (by omega) (by omega)
      try simp only [Act.put, List.setIfInBounds_toArray, List.set_cons_zero, List.set_cons_succ]
      refine anyG_takel (i := 1) (v := (.pointer (some ⟨ub, uo, none⟩))) [2, 15, 16, 17] rfl (by kernel_rfl) (by kernel_rfl) (by kernel_rfl) (by kernel_rfl) (fun _ _ _ h => h) (Or.inl ⟨by rfl, fun w' hSw => ?_⟩) hS0 ?_
      · dsimp only at hSw; obtain ⟨q0, q1, q2, q3, q4, q5⟩ := hSw; go_simp; first | done | exact wr_i64 (by omega) (by omega)
      try simp only [Act.put, List.setIfInBounds_toArray, List.set_cons_zero, List.set_cons_succ]
      refine anyG_takel (i := 2) (v := (.agg #[.int .i64 A.k, .int .i64 A.n, .string A.s])) [15, 16, 17] rfl (by kernel_rfl) (by kernel_rfl) (by kernel_rfl) (by kernel_rfl) (fun _ _ _ h => h) (Or.inl ⟨by rfl, fun w' hSw => ?_⟩) hS0 ?_
      · dsimp only at hSw; obtain ⟨q0, q1, q2, q3, q4, q5⟩ := hSw; go_simp; first | done | exact wr_i64 (by omega) (by omega)
      try simp only [Act.put, List.setIfInBounds_toArray, List.set_cons_zero, List.set_cons_succ]
      refine anyG_takel (i := 3) (v := (.slice (some ⟨ub, uo, none⟩) (n + 1) cc3)) [7, 8, 16, 17] rfl (by kernel_rfl) (by kernel_rfl) (by kernel_rfl) (by kernel_rfl) (fun _ _ _ h => h) (Or.inl ⟨by rfl, fun w' hSw => ?_⟩) hS0 ?_
      · dsimp only at hSw; obtain ⟨q0, q1, q2, q3, q4, q5⟩ := hSw; go_simp; first | done | exact wr_i64 (by omega) (by omega)
      try simp only [Act.put, List.setIfInBounds_toArray, List.set_cons_zero, List.set_cons_succ]
      refine anyG_takel (i := 4) (v := (.slice (some ⟨ub, uo, none⟩) (n + 1) cc3)) [5, 6, 7, 8, 16, 17] rfl (by kernel_rfl) (by kernel_rfl) (by kernel_rfl) (by kernel_rfl) (fun _ _ _ h => h) (Or.inl ⟨by rfl, fun w' hSw => ?_⟩) hS0 ?_
      · dsimp only at hSw; obtain ⟨q0, q1, q2, q3, q4, q5⟩ := hSw; go_simp; first | done | exact wr_i64 (by omega) (by omega)
      try simp only [Act.put, List.setIfInBounds_toArray, List.set_cons_zero, List.set_cons_succ]
      refine anyG_takel (i := 5) (v := (.int .i64 ((n + 1 : Nat) : Int))) [6, 7, 8, 16, 17] rfl (by kernel_rfl) (by kernel_rfl) (by kernel_rfl) (by kernel_rfl) (fun _ _ _ h => h) (Or.inl ⟨by rfl, fun w' hSw => ?_⟩) hS0 ?_
      · dsimp only at hSw; obtain ⟨q0, q1, q2, q3, q4, q5⟩ := hSw; go_simp; first | done | exact wr_i64 (by omega) (by omega)
      try simp only [Act.put, List.setIfInBounds_toArray, List.set_cons_zero, List.set_cons_succ]
      refine anyG_takel (i := 6) (v := (.int .i64 (n : Int))) [7, 8, 16, 17] rfl (by kernel_rfl) (by kernel_rfl) (by kernel_rfl) (by kernel_rfl) (fun _ _ _ h => h) (Or.inl ⟨by rfl, fun w' hSw => ?_⟩) hS0 ?_
      · dsimp only at hSw; obtain ⟨q0, q1, q2, q3, q4, q5⟩ := hSw; go_simp; first | done | exact wr_i64 (by omega) (by omega)
      try simp only [Act.put, List.setIfInBounds_toArray, List.set_cons_zero, List.set_cons_succ]
      refine anyG_takel (i := 7) (v := (.pointer (some ⟨ub, uo + n * 3, none⟩))) [8, 16, 17] rfl (by kernel_rfl) (by kernel_rfl) (by kernel_rfl) (by kernel_rfl) (fun _ _ _ h => h) (Or.inl ⟨by rfl, fun w' hSw => ?_⟩) hS0 ?_
      · dsimp only at hSw; obtain ⟨q0, q1, q2, q3, q4, q5⟩ := hSw; go_simp; first | done | exact wr_i64 (by omega) (by omega)
      try simp only [Act.put, List.setIfInBounds_toArray, List.set_cons_zero, List.set_cons_succ]
      refine anyG_takel (i := 8) (v := (.agg #[.int .i64 Z.k, .int .i64 Z.n, .string Z.s])) [16, 17] rfl (by kernel_rfl) (by kernel_rfl) (by kernel_rfl) (by kernel_rfl) (fun _ _ _ h => h) (Or.inl ⟨by rfl, fun w' hSw => ?_⟩) hS0 ?_
      · dsimp only at hSw; obtain ⟨q0, q1, q2, q3, q4, q5⟩ := hSw; go_simp; first | done | exact wr_i64 (by omega) (by omega)
      try simp only [Act.put, List.setIfInBounds_toArray, List.set_cons_zero, List.set_cons_succ]
      refine anyG_takel (i := 9) (v := (.slice a1 xs.length c1)) [10, 14, 17] rfl (by kernel_rfl) (by kernel_rfl) (by kernel_rfl) (by kernel_rfl) (fun _ _ _ h => h) (Or.inl ⟨by rfl, fun w' hSw => ?_⟩) hS0 ?_
      · dsimp only at hSw; obtain ⟨q0, q1, q2, q3, q4, q5⟩ := hSw; go_simp; first | done | exact wr_i64 (by omega) (by omega)
      try simp only [Act.put, List.setIfInBounds_toArray, List.set_cons_zero, List.set_cons_succ]
      refine anyG_takel (i := 10) (v := (.int .i64 (xs.length : Int))) [14, 17] rfl (by kernel_rfl) (by kernel_rfl) (by kernel_rfl) (by kernel_rfl) (fun _ _ _ h => h) (Or.inl ⟨by rfl, fun w' hSw => ?_⟩) hS0 ?_
      · dsimp only at hSw; obtain ⟨q0, q1, q2, q3, q4, q5⟩ := hSw; go_simp; first | done | exact wr_i64 (by omega) (by omega)
      try simp only [Act.put, List.setIfInBounds_toArray, List.set_cons_zero, List.set_cons_succ]
      refine anyG_takel (i := 11) (v := (.slice a1 xs.length c1)) [12, 13, 14, 15, 16, 17] rfl (by kernel_rfl) (by kernel_rfl) (by kernel_rfl) (by kernel_rfl) (fun _ _ _ h => h) (Or.inl ⟨by rfl, fun w' hSw => ?_⟩) hS0 ?_
      · dsimp only at hSw; obtain ⟨q0, q1, q2, q3, q4, q5⟩ := hSw; go_simp; first | done | exact wr_i64 (by omega) (by omega)
      try simp only [Act.put, List.setIfInBounds_toArray, List.set_cons_zero, List.set_cons_succ]
      clear hS0
      refine anyG_one (i := 12) (by kernel_rfl) ?_
      refine wpOp_lit rfl (by rfl) fun K hK => ?_
      go_simp
      refine (unhide HST2).mono ?_
      rintro e w5 ⟨v5, rfl, ho5, hb5⟩
      obtain ⟨a5, c5, rfl, _, _, _⟩ := ownV_slice ho5
      have hB5 := below_step ((Below.refl _ w3).drew) hb5
      have hS5 : (fun w' : World => w'.cell? ⟨ub, uo, none⟩ = some (.int .i64 A.k) ∧ w'.cell? ⟨ub, uo + 1, none⟩ = some (.int .i64 A.n) ∧ w'.cell? ⟨ub, uo + 2, none⟩ = some (.string A.s) ∧ w'.cell? ⟨ub, uo + n * 3, none⟩ = some (.int .i64 Z.k) ∧ w'.cell? ⟨ub, uo + n * 3 + 1, none⟩ = some (.int .i64 Z.n) ∧ w'.cell? ⟨ub, uo + n * 3 + 2, none⟩ = some (.string Z.s)) w5 := ⟨cell_later hB5 c0, cell_later hB5 c1', cell_later hB5 c2, cell_later hB5 f0, cell_later hB5 f1, cell_later hB5 f2⟩
      have hz5 : (w.heap.size + 1 + 1 + 1 : Nat) ≤ w5.heap.size := by have := hB5.size; omega
      obtain ⟨⟨b0, b1, b2⟩, q0, q1, q2⟩ := zero37_facts (B := w.heap.size + 1 + 1) (w := (w.alloc (.cells #[.int .i64 X.k, .slice p.a1 X.nl.length p.c1, .slice p.a2 X.ns.length p.c2, .slice p.a3 X.ss.length p.c3] 49)).alloc zero37) (by simp) rfl (below_step (unhide HBF) hB5)
      obtain ⟨⟨d0, d1, d2⟩, r0, r1, r2⟩ := zero37_facts (B := w.heap.size + 1) (w := w.alloc (.cells #[.int .i64 X.k, .slice p.a1 X.nl.length p.c1, .slice p.a2 X.ns.length p.c2, .slice p.a3 X.ss.length p.c3] 49)) (by simp) rfl (below_one (below_step (unhide HBF) hB5))
      have HBE := hide (below_step (unhide HBW) hB5)
      go_simp
      refine unhide hK _ _ ⟨fun _ => hS5, ?_⟩
      clear hK K ho5 hb5 hB5
      try simp only [Act.put, List.setIfInBounds_toArray, List.set_cons_zero, List.set_cons_succ]
      refine anyG_takel (i := 13) (v := (.int .i64 (ys.length : Int))) [14, 17] rfl (by kernel_rfl) (by kernel_rfl) (by kernel_rfl) (by kernel_rfl) (fun _ _ _ h => h) (Or.inl ⟨by rfl, fun w' hSw => ?_⟩) hS5 ?_
      · go_simp
      try simp only [Act.put, List.setIfInBounds_toArray, List.set_cons_zero, List.set_cons_succ]
      refine anyG_takel (i := 14) (v := (.int .i64 ((xs.length : Int) - (ys.length : Int)))) [17] rfl (by kernel_rfl) (by kernel_rfl) (by kernel_rfl) (by kernel_rfl) (fun _ _ _ h => h) (Or.inl ⟨by rfl, fun w' hSw => ?_⟩) hS5 ?_
      · go_simp; first | done | exact wr_i64 (by omega) (by omega)
      try simp only [Act.put, List.setIfInBounds_toArray, List.set_cons_zero, List.set_cons_succ]
      refine anyG_one (i := 15) (by kernel_rfl) ?_
      refine wpOp_lit rfl (by rfl) fun K hK => ?_
      go_simp
      have hS6 : (fun w' : World => w'.cell? ⟨ub, uo, none⟩ = some (.int .i64 A.k) ∧ w'.cell? ⟨ub, uo + 1, none⟩ = some (.int .i64 A.n) ∧ w'.cell? ⟨ub, uo + 2, none⟩ = some (.string A.s) ∧ w'.cell? ⟨ub, uo + n * 3, none⟩ = some (.int .i64 Z.k) ∧ w'.cell? ⟨ub, uo + n * 3 + 1, none⟩ = some (.int .i64 Z.n) ∧ w'.cell? ⟨ub, uo + n * 3 + 2, none⟩ = some (.string Z.s)) (((w5.setCell ⟨w.heap.size + 1, 0, none⟩ (.int .i64 A.k)).setCell ⟨w.heap.size + 1, 1, none⟩ (.int .i64 A.n)).setCell ⟨w.heap.size + 1, 2, none⟩ (.string A.s)) := by
        obtain ⟨z0, z1, z2, z3, z4, z5⟩ := hS5
        exact ⟨by simp [go_sem, hne1, z0], by simp [go_sem, hne1, z1], by simp [go_sem, hne1, z2], by simp [go_sem, hne1, z3], by simp [go_sem, hne1, z4], by simp [go_sem, hne1, z5]⟩
      refine unhide hK _ _ ⟨fun _ => hS6, ?_⟩
      clear hK K
      refine anyG_one (i := 16) (by kernel_rfl) ?_
      refine wpOp_lit rfl (by rfl) fun K hK => ?_
      go_simp
      have hS7 : (fun w' : World => w'.cell? ⟨ub, uo, none⟩ = some (.int .i64 A.k) ∧ w'.cell? ⟨ub, uo + 1, none⟩ = some (.int .i64 A.n) ∧ w'.cell? ⟨ub, uo + 2, none⟩ = some (.string A.s) ∧ w'.cell? ⟨ub, uo + n * 3, none⟩ = some (.int .i64 Z.k) ∧ w'.cell? ⟨ub, uo + n * 3 + 1, none⟩ = some (.int .i64 Z.n) ∧ w'.cell? ⟨ub, uo + n * 3 + 2, none⟩ = some (.string Z.s)) ((((((w5.setCell ⟨w.heap.size + 1, 0, none⟩ (.int .i64 A.k)).setCell ⟨w.heap.size + 1, 1, none⟩ (.int .i64 A.n)).setCell ⟨w.heap.size + 1, 2, none⟩ (.string A.s)).setCell ⟨w.heap.size + 1 + 1, 0, none⟩ (.int .i64 Z.k)).setCell ⟨w.heap.size + 1 + 1, 1, none⟩ (.int .i64 Z.n)).setCell ⟨w.heap.size + 1 + 1, 2, none⟩ (.string Z.s)) := by
        obtain ⟨z0, z1, z2, z3, z4, z5⟩ := hS5
        exact ⟨by simp [go_sem, hne1, hne2, z0], by simp [go_sem, hne1, hne2, z1], by simp [go_sem, hne1, hne2, z2], by simp [go_sem, hne1, hne2, z3], by simp [go_sem, hne1, hne2, z4], by simp [go_sem, hne1, hne2, z5]⟩
      refine unhide hK _ _ ⟨fun _ => hS7, ?_⟩
      clear hK K
      refine anyG_one (i := 17) (by kernel_rfl) ?_
      refine wpOp_lit rfl (by rfl) fun K hK => ?_
      go_simp
      refine unhide hK _ _ ⟨fun hh => absurd hh (by decide), ?_⟩
      clear hK K
      refine anyG_done (by kernel_rfl) ?_ _
      refine NoPanic.normal ?_
      clear hS5 hS6 hS7
      go_wp2
      go_meet
      refine ⟨rfl, ⟨by simp [go_sem, *], by simp [go_sem, *], by simp [go_sem, *]⟩, ⟨by simp [go_sem, *], by simp [go_sem, *], by simp [go_sem, *]⟩, ?_⟩
      exact put3 (put3 (unhide HBE) (by omega) _ _ _) (by omega) _ _ _
    case rest =>
      obtain ⟨rfl, ⟨x0, x1, x2⟩, ⟨y0, y1, y2⟩, hbe⟩ := hcut
      have HBE := hide hbe
      clear hbe
      go_wp2
      refine bodyPost_ret (v := .tuple #[A.v, Z.v, .int .i64 ((xs.length : Int) - (ys.length : Int))]) (by simp [results, Tryz.results35, go_sem, Val.v, *]) rfl ⟨?_, unhide HBE⟩
      obtain ⟨e1, e2, e3⟩ := unhide HE
      have e4 : ((xs.length - ys.length : Nat) : Int) = (xs.length : Int) - (ys.length : Int) := by omega
      rw [e1, e2, e3, e4]
end Go.Proofs.YthbfomcmjjnikaaGreat

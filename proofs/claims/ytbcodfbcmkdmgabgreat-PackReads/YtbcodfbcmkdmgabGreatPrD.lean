import Derived.Test.YtbcodfbcmkdmgabGreatPrA
import Derived.Test.YtbcodfbcmkdmgabGreatPrB
import Derived.Test.YtbcodfbcmkdmgabGreatPrC
set_option linter.unusedSimpArgs false
set_option linter.unusedVariables false
namespace Go.Proofs.YtbcodfbcmkdmgabGreat
open Go.RowKit Go.Sort

set_option maxHeartbeats 2000000 in
set_option maxRecDepth 100000 in
theorem law_out2 {s : ByteArray} {i op : Int} {y : Val} {X : Vc} {SC g2 : Int} {L G : Val} {N : Nat} {ns : List Nat} (w : World) (h : Asked s i op y X 0 SC 1 g2 .null ns L G N) (hi : ¬ i < 0) (hj : ((valsV X).length : Int) ≤ i) (hg1 : 0 ≤ g2) (hg2 : g2 ≤ 10) (hS1 : 0 ≤ SC) (hS2 : SC ≤ 255) (hi0 : ∀ W, (Instr.index 9 (.string s) (.int .i64 0)).run Tryz.prog W = .ok (.int .u8 SC) W) :
    Calls Tryz.prog 4 #[.string s, .int .i64 i, .int .i64 op, y.v] w fun e w' => e = .returned (.bool true) ∧ Below w.heap.size w w' := by
  obtain ⟨h10, h11, h13, h14, h16, h18, h19, h21, h22, h15, h12, hnl, hvl⟩ := h
  unfold UnIs at h11
  obtain ⟨NV, hNV⟩ : ∃ NV, Hid (NV = Val.null) := ⟨_, rfl⟩
  have H17 : Hid (∀ W, Calls Tryz.prog 17 #[] W fun e w' => e = .returned NV.v ∧ Below W.heap.size W w') := fun W => by rw [unhide hNV]; exact none_any W
  have hSw : IntKind.i64.wrap SC = SC := wr_i64 (by omega) (by omega)
  rw [← unhide hNV] at h16
  have HX := hide (box3_alloc w y)
  simp only [vecV_open] at h10 h11 h22 h15 h12
  rw [y.open_] at h18 h19 ⊢
  have H20 : Hid (∀ W a b c d, LisAt W a (ns.map fun n : Nat => Value.int .i64 (n : Int)) → LisAt W b (ns.map fun n : Nat => Value.int .i64 (n : Int)) → Calls Tryz.prog 20 #[.slice a ns.length c, .slice b ns.length d] W fun e w' => e = .returned (.bool true) ∧ Below W.heap.size W w') := fun W a b c d ha hb => by
    have := samenums_same a b c d (ns.map fun n : Nat => (n : Int)) W (by rw [List.length_map]; unfold maxLen; omega) (by rw [List.map_map]; exact ha) (by rw [List.map_map]; exact hb)
    rw [List.length_map] at this
    exact this
  have H10 := hide h10
  have H11 := hide h11
  have H12 := hide h12
  have H13 := hide h13
  have H14 := hide h14
  have H15 := hide h15
  have H16 := hide h16
  have H18 := hide h18
  have H19 := hide h19
  have H21 := hide h21
  have H22 := hide h22
  clear h10 h11 h12 h13 h14 h15 h16 h18 h19 h21 h22
  go_enter Tryz.func4, Tryz.ntmps4
  go_upto_region 3 with (first
    | (go_at_call 10; refine (unhide H10 _).mono ?_; rintro e w1 ⟨p, rfl, hv1, hb1⟩)
    | (go_at_call 11; refine (unhide H11 _).mono ?_; rintro e w2 ⟨q, rfl, hv2, hf2, hb2⟩))
  have hB1 := below_step (below_alloc (Below.refl _ w1) (.cells #[.int .i64 X.k, .slice p.a1 X.nl.length p.c1, .slice p.a2 X.ns.length p.c2, .slice p.a3 X.ss.length p.c3] 26)) hb2
  have hB2 := below_alloc hB1 (.cells #[.int .i64 X.k, .slice q.a1 X.nl.length q.c1, .slice q.a2 X.ns.length q.c2, .slice q.a3 X.ss.length q.c3] 26)
  have hBX : Box4 w2 w1.heap.size X p := by
    have : Box4 (w1.alloc (.cells #[.int .i64 X.k, .slice p.a1 X.nl.length p.c1, .slice p.a2 X.ns.length p.c2, .slice p.a3 X.ss.length p.c3] 26)) w1.heap.size X p := ⟨by simp [go_sem], by simp [go_sem], by simp [go_sem], by simp [go_sem]⟩
    exact this.later hb2
  have hBX2 := hBX.later (below_alloc (Below.refl _ w2) (.cells #[.int .i64 X.k, .slice q.a1 X.nl.length q.c1, .slice q.a2 X.ns.length q.c2, .slice q.a3 X.ss.length q.c3] 26))
  have hBQ : Box4 (w2.alloc (.cells #[.int .i64 X.k, .slice q.a1 X.nl.length q.c1, .slice q.a2 X.ns.length q.c2, .slice q.a3 X.ss.length q.c3] 26)) w2.heap.size X q := ⟨by simp [go_sem], by simp [go_sem], by simp [go_sem], by simp [go_sem]⟩
  have hvp := hv1.later hB2
  have hvq := hv2.later (below_alloc (Below.refl _ w2) (.cells #[.int .i64 X.k, .slice q.a1 X.nl.length q.c1, .slice q.a2 X.ns.length q.c2, .slice q.a3 X.ss.length q.c3] 26))
  have hxy := rowIs_later (rowIs_later (unhide HX) hb1) hB2
  have hBw := below_step (below_one hb1) hB2
  obtain ⟨wa, hwa⟩ : ∃ wa, wa = w2.alloc (.cells #[.int .i64 X.k, .slice q.a1 X.nl.length q.c1, .slice q.a2 X.ns.length q.c2, .slice q.a3 X.ss.length q.c3] 26) := ⟨_, rfl⟩
  rw [← hwa] at hBX2 hBQ hvp hvq hxy hBw ⊢
  have HBX := hide hBX2
  have HBQ := hide hBQ
  have HVP := hide hvp
  have HVQ := hide hvq
  have HXY := hide hxy
  have HBW := hide hBw
  clear hB1 hB2 hBX hBX2 hBQ hvp hvq hxy hBw hwa hv1 hv2 hf2 hb1 hb2 HX
  go_cut [53] (fun s53 wx => s53 = .bool false ∧ Below wa.heap.size wa wx)
  case first =>
    obtain ⟨x0, x1, x2, x3⟩ := unhide HBX
    obtain ⟨y0, y1, y2, y3⟩ := unhide HBQ
    go_region_with (first
      | (go_at_call 7; refine (num_any _ _ (by first | decide | omega)).mono ?_; rintro e wn ⟨rfl, rfl⟩)
      | (go_at_call 12; refine (unhide H12 _ _ _ ((unhide HVP).later ((Below.refl _ wa).drew)) ((unhide HVQ).later ((Below.refl _ wa).drew))).mono ?_; rintro e w4 ⟨rfl, hb4⟩; have hB4 := below_step ((Below.refl _ wa).drew) hb4; obtain ⟨y0, y1, y2, y3⟩ := (unhide HBQ).later hB4)
      | (go_at_call 13; refine (unhide H13 _).mono ?_; rintro e w5 ⟨rfl, hb5⟩; have hB5 := below_step hB4 hb5; obtain ⟨y0, y1, y2, y3⟩ := (unhide HBQ).later hB5))
    all_goals
      go_wp2
      go_meet
      exact ⟨rfl, hB5⟩
  case rest =>
    obtain ⟨rfl, hb3⟩ := hcut
    rename World => w3
    obtain ⟨y0, y1, y2, y3⟩ := (unhide HBQ).later hb3
    go_upto_region 19 with (first
      | (go_at_call 14; refine (unhide H14 _).mono ?_; rintro e w4 ⟨rfl, hb4⟩; have hB4 := below_step hb3 hb4; obtain ⟨y0, y1, y2, y3⟩ := (unhide HBQ).later hB4)
      | (go_at_call 15; refine (unhide H15 _ _ ((unhide HVQ).later hB4)).mono ?_; rintro e w5 ⟨v5, rfl, ho5, hb5⟩; obtain ⟨a5, c5, rfl, _, _, hr5⟩ := ownV_slice ho5; have hB5 := below_step hB4 hb5)
      | (go_at_call 16; refine (unhide H16 _).mono ?_; rintro e w6 ⟨rfl, hb6⟩; have hB6 := below_step hB5 hb6; rw [Val.open_])
      | (go_at_call 17; refine (unhide H17 _).mono ?_; rintro e w7 ⟨rfl, hb7⟩; have hB7 := below_step (below_alloc hB6 (.cells #[.int .i64 NV.k, .int .i64 NV.n, .string NV.s] 37)) hb7; rw [Val.open_]; obtain ⟨n0, n1, n2, _, _, _⟩ := box3_facts (World.rowIs.alloc (rowIs_later (box3_alloc w6 NV) hb7) (.cells #[.int .i64 NV.k, .int .i64 NV.n, .string NV.s] 37)))
      | (go_at_call 7; refine (num_any _ _ (by first | decide | omega)).mono ?_; rintro e wn ⟨rfl, rfl⟩))
    have hB8 := below_alloc hB7 (.cells #[.int .i64 NV.k, .int .i64 NV.n, .string NV.s] 37)
    obtain ⟨w8, hw8⟩ : ∃ w8, w8 = w7.alloc (.cells #[.int .i64 NV.k, .int .i64 NV.n, .string NV.s] 37) := ⟨_, rfl⟩
    rw [← hw8] at hB8 ⊢
    obtain ⟨o0, o1, o2, _, _, _⟩ := box3_facts (rowIs_later (unhide HXY) hB8)
    have HB8 := hide hB8
    clear hw8 hB8 hB7 hb7 hB6 hb6 hB5 hb5 hB4 hb4 hb3 ho5 hr5 n0 n1 n2 y0 y1 y2 y3
    go_upto_region 23 with (first
      | (go_at_call 18; refine (unhide H18 _).mono ?_; rintro e w9 ⟨v9, rfl, ho9, hb9⟩; obtain ⟨a9, c9, rfl, hl9, _⟩ := lis_of_own ho9; have hB9 := below_step (unhide HB8) hb9; obtain ⟨o0, o1, o2, _, _, _⟩ := box3_facts (rowIs_later (unhide HXY) hB9))
      | (go_at_call 19; refine (unhide H19 _).mono ?_; rintro e w10 ⟨v10, rfl, ho10, hb10⟩; obtain ⟨a10, c10, rfl, hl10, _⟩ := lis_of_own ho10; have hB10 := below_step hB9 hb10)
      | (go_at_call 20; refine (unhide H20 _ _ _ _ _ (hl9.later hb10) hl10).mono ?_; rintro e w11 ⟨rfl, hb11⟩; have hB11 := below_step hB10 hb11; obtain ⟨y0, y1, y2, y3⟩ := (unhide HBQ).later hB11)
      | (go_at_call 7; refine (num_any _ _ (by first | decide | omega)).mono ?_; rintro e wn ⟨rfl, rfl⟩))
    have HB11 := hide hB11
    clear ho9 hb9 hl9 hB9 o0 o1 o2 ho10 hb10 hl10 hB10 hb11 hB11
    go_upto_region 25 with (first
      | (go_at_call 21; refine (unhide H21 _).mono ?_; rintro e w12 ⟨rfl, hb12⟩; simp only [Val.open_]; have hB12 := below_alloc (below_alloc (below_step (unhide HB11) hb12) (.cells #[.int .i64 L.k, .int .i64 L.n, .string L.s] 37)) (.cells #[.int .i64 G.k, .int .i64 G.n, .string G.s] 37); obtain ⟨y0, y1, y2, y3⟩ := (unhide HBQ).later hB12)
      | (go_at_call 22; refine (unhide H22 _ _ ((unhide HVQ).later hB12)).mono ?_; rintro e w13 ⟨rfl, hb13⟩; simp only [Val.open_]))
    have hz12 : w12.heap.size + 1 + 1 ≤ w13.heap.size := by have := hb13.size; simp at this; omega
    have hzw : w.heap.size ≤ w12.heap.size := by
      have h1 := (unhide HBW).size
      have h2 := hB12.size
      have h3 := (unhide HB11).size
      have h4 := hb12.size
      omega
    have T20 := World.rowIs.alloc (World.rowIs.alloc (rowIs_later (World.rowIs.alloc (box3_alloc w12 L) (.cells #[.int .i64 G.k, .int .i64 G.n, .string G.s] 37)) hb13) (.cells #[.int .i64 L.k, .int .i64 L.n, .string L.s] 37)) (.cells #[.int .i64 G.k, .int .i64 G.n, .string G.s] 37)
    have T21 := World.rowIs.alloc (World.rowIs.alloc (rowIs_later (box3_alloc (w12.alloc (.cells #[.int .i64 L.k, .int .i64 L.n, .string L.s] 37)) G) hb13) (.cells #[.int .i64 L.k, .int .i64 L.n, .string L.s] 37)) (.cells #[.int .i64 G.k, .int .i64 G.n, .string G.s] 37)
    have T23 := World.rowIs.alloc (box3_alloc w13 L) (.cells #[.int .i64 G.k, .int .i64 G.n, .string G.s] 37)
    have T24 := box3_alloc (w13.alloc (.cells #[.int .i64 L.k, .int .i64 L.n, .string L.s] 37)) G
    rw [alloc_sz] at T21 T24
    have hBD := below_alloc (below_alloc (below_step (below_step (unhide HBW) hB12) hb13) (.cells #[.int .i64 L.k, .int .i64 L.n, .string L.s] 37)) (.cells #[.int .i64 G.k, .int .i64 G.n, .string G.s] 37)
    obtain ⟨WD, hWD⟩ : ∃ WD, WD = (w13.alloc (.cells #[.int .i64 L.k, .int .i64 L.n, .string L.s] 37)).alloc (.cells #[.int .i64 G.k, .int .i64 G.n, .string G.s] 37) := ⟨_, rfl⟩
    rw [← hWD] at T20 T21 T23 T24 hBD ⊢
    have HT20 := hide T20
    have HT21 := hide T21
    have HT23 := hide T23
    have HT24 := hide T24
    have HBD := hide hBD
    have hn1 : w12.heap.size ≠ w13.heap.size := by omega
    have hn2 : w12.heap.size ≠ w13.heap.size + 1 := by omega
    have hn3 : w12.heap.size + 1 ≠ w13.heap.size := by omega
    have hn4 : w12.heap.size + 1 ≠ w13.heap.size + 1 := by omega
    clear hb12 hB12 hb13 T20 T21 T23 T24 hBD hWD y0 y1 y2 y3
    obtain ⟨r0, r1, r2, _, _, _⟩ := box3_facts (unhide HT20)
    obtain ⟨s0, s1, s2, _, _, _⟩ := box3_facts (unhide HT21)
    obtain ⟨t0, t1, t2, t3, t4, t5⟩ := box3_facts (unhide HT23)
    obtain ⟨u0, u1, u2, u3', u4', u5'⟩ := box3_facts (unhide HT24)
    go_wp2_with (go_at_call 7; refine (num_any _ _ (by first | decide | omega)).mono ?_; rintro e wn ⟨rfl, rfl⟩)
    go_ret
    exact ⟨rfl, unhide HBD⟩
end Go.Proofs.YtbcodfbcmkdmgabGreat
set_option linter.unusedSimpArgs false
set_option linter.unusedVariables false
namespace Go.Proofs.YtbcodfbcmkdmgabGreat
open Go.RowKit Go.Sort

theorem un_q {s : ByteArray} (hl : s.size ≤ 140737488355328) (W : World) : Calls Tryz.prog 11 #[.string s] W fun e w' => UnQ W w' s.data.toList e := by
  have := unpack_any (l := s.data.toList) (w := W) (by rw [Array.length_toList]; exact hl)
  rw [bs_of] at this
  exact this
theorem un_no {s : ByteArray} (hl : s.size ≤ 140737488355328) (hc : columnD s.data.toList = none) : UnIs s .zero 2 := fun W => by
  refine (un_q hl W).mono ?_
  rintro e w' ⟨X, p, f, rfl, hv, hf, hu, hb⟩
  rcases unhide hu with ⟨_, ⟨sch, h⟩, _⟩ | ⟨rfl, rfl, _⟩
  · rw [hc] at h; cases h
  · exact ⟨p, rfl, hv, hf, hb⟩
theorem un_yes {s : ByteArray} (hl : s.size ≤ 140737488355328) {sch : Nat} {kind : Int} {xs : List Val} (hc : columnD s.data.toList = some (sch, kind, xs)) {X : Vc} (hX : fromV kind xs = (X, 0)) : UnIs s X 0 := fun W => by
  refine (un_q hl W).mono ?_
  rintro e w' ⟨X', p, f, rfl, hv, hf, hu, hb⟩
  rcases unhide hu with ⟨rfl, ⟨sch', h⟩, h2, _⟩ | ⟨_, _, h⟩
  · rw [hc] at h
    injection h with h
    injection h with _ h
    injection h with h3 h4
    rw [← h3, ← h4, hX] at h2
    injection h2 with h2 _
    subst h2
    exact ⟨p, rfl, hv, hf, hb⟩
  · rw [hc] at h; cases h
theorem zero_fit : fit Vc.zero := ⟨Nat.zero_le _, Nat.zero_le _, Nat.zero_le _⟩
theorem zero_small : small Vc.zero := ⟨Nat.zero_le _, Nat.zero_le _, Nat.zero_le _⟩
theorem own_none (w : World) (b : Nat) : OwnN w b (.slice none 0 0) [] := ⟨rfl, .inl ⟨rfl, rfl⟩⟩
theorem asked_no {s : ByteArray} (hl : s.size ≤ 140737488355328) (hc : columnD s.data.toList = none) (i op : Int) (y : Val) : Asked s i op y .zero 2 0 2 2 .null [] .null .null 0 := by
  have hs := shut_of hl hc
  have hu := un_no hl hc
  have hv : valsV Vc.zero = [] := rfl
  refine ⟨fun W => ?_, hu, fun W => plen_no hs W, fun W => scheme_no hs W, fun W => pat_no hs i W, fun W => ?_, fun W => ?_, fun W => span_no hs W, fun W p hp => ?_, fun W p hp => rvalues_any _ p W zero_small hp, fun W p q hp hq => samevec_same _ p q W zero_fit hp hq, Nat.zero_le _, Nat.zero_le _⟩
  · exact (pread_no hs W).mono fun e w' ⟨he, hb⟩ => ⟨⟨none, 0, none, 0, none, 0⟩, he, VecAt.zero _, hb⟩
  · exact (find_no hs op y W).mono fun e w' ⟨he, hb⟩ => ⟨_, he, own_none _ _, hb⟩
  · exact (rfind_no hu (by decide) op y W).mono fun e w' ⟨he, hb⟩ => ⟨_, he, own_none _ _, hb⟩
  · exact rspan_any _ p W zero_small hp hv (fun x hx => by cases hx) (Nat.zero_le _)
theorem asked_yes {s : ByteArray} (hl : s.size ≤ 140737488355328) {sch : Nat} {kind : Int} {xs : List Val} (hc : columnD s.data.toList = some (sch, kind, xs)) (i op : Int) (y : Val) (gA : Int) (Y : Val)
    (ha : ∀ W, Calls Tryz.prog 16 #[.string s, .int .i64 i] W fun e w' => e = .returned (.tuple #[Y.v, .int .i64 gA]) ∧ Below W.heap.size W w') :
    ∃ X g2 ns L G N, Asked s i op y X 0 (sch : Int) gA g2 Y ns L G N ∧ 0 ≤ g2 ∧ g2 ≤ 10 ∧ valsV X = xs := by
  obtain ⟨hX, hall⟩ := read_col hc
  obtain ⟨b, hk, hlen, _⟩ := columnD_forth hc
  obtain ⟨g1, g2, g3, g4, g5, g6, g7, g8⟩ := from_ok hX
  have ec : xs.map cleanV = xs := by
    conv => rhs; rw [← List.map_id xs]
    exact List.map_congr_left fun y hy => (hall y hy).1
  rw [ec] at g3
  have ho := opens_of hl hc
  have hu := un_yes hl hc hX
  generalize laidV kind xs = X at *
  have hsm : small X := ⟨by omega, by omega, by omega⟩
  have hft : fit X := ⟨by unfold maxLen; omega, by unfold maxLen; omega, by unfold maxLen; omega⟩
  have hlenC : ∀ W, Calls Tryz.prog 13 #[.string s] W fun e w' => e = .returned (.int .i64 (X.nl.length : Int)) ∧ Below W.heap.size W w' := fun W => by rw [g5]; exact plen_any ho W
  have hrd : ∀ W, Calls Tryz.prog 10 #[.string s] W fun e w' => ∃ p, e = .returned (.tuple #[vecV X p, .int .i64 0]) ∧ VecAt w' X p ∧ Below W.heap.size W w' := fun W => (pread_any ho hlen hX W).mono fun e w' ⟨p, h1, h2, _, h4⟩ => ⟨p, h1, h2, h4⟩
  have hsp : ∀ W p, VecAt W X p → Calls Tryz.prog 22 #[vecV X p] W fun e w' => e = .returned (.tuple #[(spanT xs xs.length).1.v, (spanT xs xs.length).2.1.v, .int .i64 ((spanT xs xs.length).2.2 : Nat)]) ∧ Below W.heap.size W w' := fun W p hp => rspan_any X p W hsm hp g3 (fun x hx => (hall x hx).1) hlen
  have hvl : (valsV X).length ≤ 4096 := by rw [g3]; exact hlen
  by_cases hop : 12 ≤ op ∧ op ≤ 17
  · have hfl := fT_len (hitF op y xs) xs.length
    exact ⟨X, 0, fT (hitF op y xs) xs.length, _, _, _, ⟨hrd, hu, hlenC, fun W => scheme_any ho W, ha, fun W => find_any ho hlen op hop.1 hop.2 y W, fun W => rfind_any hu hsm g3 hlen op hop.1 hop.2 y W, fun W => span_any ho hlen W, hsp, fun W p hp => rvalues_any X p W hsm hp, fun W p q hp hq => samevec_same X p q W hft hp hq, by omega, hvl⟩, by decide, by decide, g3⟩
  · have hop2 : op < 12 ∨ 17 < op := by omega
    exact ⟨X, 1, [], _, _, _, ⟨hrd, hu, hlenC, fun W => scheme_any ho W, ha, fun W => (find_arg ho hop2 y W).mono fun e w' ⟨he, hb⟩ => ⟨_, he, own_none _ _, hb⟩, fun W => (rfind_arg hu hop2 y W).mono fun e w' ⟨he, hb⟩ => ⟨_, he, own_none _ _, hb⟩, fun W => span_any ho hlen W, hsp, fun W p hp => rvalues_any X p W hsm hp, fun W p q hp hq => samevec_same X p q W hft hp hq, Nat.zero_le _, hvl⟩, by decide, by decide, g3⟩
theorem law_pr (s : ByteArray) (hl : s.size ≤ 140737488355328) (i op : Int) (y : Val) (w : World) :
    Calls Tryz.prog 4 #[.string s, .int .i64 i, .int .i64 op, y.v] w fun e w' => e = .returned (.bool true) ∧ Below w.heap.size w w' := by
  cases hc : columnD s.data.toList with
  | none => exact law_no w (asked_no hl hc i op y)
  | some p =>
    obtain ⟨sch, kind, xs⟩ := p
    have ho := opens_of hl hc
    obtain ⟨b, hk, hlen, h1, h4, _⟩ := columnD_forth hc
    obtain ⟨c0, c1, n0, n1, n2, n3, z, tl, e, e2, _⟩ := column_head hc
    have hi0 : ∀ W, (Instr.index 9 (.string s) (.int .i64 0)).run Tryz.prog W = .ok (.int .u8 (sch : Int)) W := fun W => by
      have := idx_at s.data.toList 0 c0 (by rw [e]; rfl) W
      rw [bs_of] at this
      rw [e2]
      exact this
    by_cases hi : i < 0
    · obtain ⟨X, g2, ns, L, G, N, ha, h5, h6, h7⟩ := asked_yes hl hc i op y 1 .null (fun W => pat_arg ho hlen (.inl hi) W)
      exact law_out1 w ha hi h5 h6 (by omega) (by omega) hi0
    · by_cases hj : (xs.length : Int) ≤ i
      · obtain ⟨X, g2, ns, L, G, N, ha, h5, h6, h7⟩ := asked_yes hl hc i op y 1 .null (fun W => pat_arg ho hlen (.inr hj) W)
        exact law_out2 w ha hi (by rw [h7]; exact hj) h5 h6 (by omega) (by omega) hi0
      · obtain ⟨k, rfl⟩ : ∃ k : Nat, i = (k : Int) := ⟨i.toNat, by omega⟩
        obtain ⟨Y, hY⟩ : ∃ Y, xs[k]? = some Y := ⟨_, List.getElem?_eq_getElem (by omega)⟩
        obtain ⟨X, g2, ns, L, G, N, ha, h5, h6, h7⟩ := asked_yes hl hc (k : Int) op y 0 Y (fun W => pat_any ho hlen hY W)
        exact law_in w ha (by rw [h7]; exact hY) h5 h6 (by omega) (by omega) hi0
end Go.Proofs.YtbcodfbcmkdmgabGreat

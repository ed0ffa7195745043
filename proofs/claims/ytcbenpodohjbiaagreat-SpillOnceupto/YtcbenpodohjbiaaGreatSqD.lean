import Derived.Test.YtcbenpodohjbiaaGreatSqB
set_option linter.unusedSimpArgs false
set_option linter.unusedVariables false
set_option maxRecDepth 100000
namespace Go.Proofs.YtcbenpodohjbiaaGreat
open Go.RowKit Go.Sort

theorem Mx.set {w : World} {g y B : Nat} {vH : Value} (h : Mx w g y B vH) (x : Value) : Mx (w.setCell ⟨g, 2, none⟩ x) g y B x := by
  obtain ⟨q1, q2, q3, q4, q5⟩ := h
  refine ⟨q1.set _ _ _, fun i => by rw [World.frozen?_setCell]; exact q2 i, ?_, ?_, ?_⟩ <;> simp [go_sem, q3, q4, q5]

set_option maxHeartbeats 4000000 in
/-- step (67), where the run has no more rows. -/
theorem step_end {F : Nat → Prop} {w : World} {b y m mg B : Nat} {ks : List (Int × Bool)} {Y : Yv} {op : Option Nat} {L : List Hd} {n : Nat} (h : Mw w b y m mg B ks Y op L F) (hLn : L.length = n + 1) (hn : n + 1 ≤ 1048576) (hp : Hp ks 0 L) (hop : op ≠ some (hAt L 0).i) (hth : Y.there[(hAt L 0).i]? = some true) (hrs : Y.runs[(hAt L 0).i]? = some []) (hrl : Y.runs.length ≤ 1048576) (hrd : Y.rd = false) (hit : Y.hit = false) :
    Calls Tryz.prog 67 #[.pointer (some ⟨mg, 0, none⟩)] w fun e w' => e = .returned (.int .i64 0) ∧ ∃ L', L'.Perm L.tail ∧ Hp ks 0 L' ∧ Mo w w' b y m mg B ks (Y.tick.drop (hAt L 0).i) op L' F := by
  obtain ⟨h1, h2, F0, vH, h3, h4, h5, h6, h7, h8, h9⟩ := h
  obtain ⟨g, cH, rfl, hcap⟩ := h8.some (by omega)
  obtain ⟨_, d1, _, _, _⟩ := h8.at (j := 0) (by omega)
  have hbd : Below w.heap.size w w.drew := (Below.refl _ _).drew
  have HC := hide (ynext_end (h6.later hbd) hop hth hrs hrl hrd hit)
  have c0 := h7.c0
  have c2 := h7.c2
  simp only [Nat.zero_mul, Nat.zero_add] at d1
  rw [hLn] at c2 hcap
  have j0 : (0 : Int) < ((n + 1 : Nat) : Int) := by omega
  have tg : Tg 120 w g := own_tg h8.1 rfl
  have ngF : ¬ F0 g := (h5 g rfl).2
  have nmg : ¬ mg = g := fun e => by subst e; exact h7.tg.ne tg (by decide) rfl
  have ngm : ¬ g = mg := fun e => nmg e.symm
  have H3 := hide h3
  have H5 := hide h5
  have H7 := hide h7
  have H8 := hide h8
  have H9 := hide h9
  have HP := hide hp
  have HTH := hide hth
  obtain ⟨i0, hi0⟩ : ∃ i0, (hAt L 0).i = i0 := ⟨_, rfl⟩
  have HI0 := hide hi0
  rw [hi0] at HC d1 HTH ⊢
  have HLN := hide hLn
  clear h3 h5 h6 h7 h8 h9 hit hrd hop hth hrs hp hi0 hLn
  go_enter Tryz.func67, Tryz.ntmps67
  go_upto_region 1 with fail
  go_cut [3, 4, 5] (fun s3 s4 s5 wx => s3 = .slice none 0 0 ∧ s4 = .bool false ∧ s5 = .int .i64 0 ∧ Hid (Yo w.drew wx b y m Y.tick op F0))
  case first =>
    go_region_with (first | (go_at_call 99; refine (unhide HC).mono ?_; rintro _ w1 ⟨rfl, hY1⟩))
    all_goals (go_wp2; go_meet; exact ⟨rfl, rfl, rfl, hY1⟩)
  case rest =>
    obtain ⟨rfl, rfl, rfl, HR⟩ := hcut
    rename World => w1
    obtain ⟨F1, a1, a2, a3, a4⟩ := unhide HR
    have k1 : Ky F0 w w1 := (Ky.of_below hbd).trans a4 (Nw.refl _ _)
    have n1 : Nw F0 F1 w := fun k hk => (a1 k hk).imp id (fun q => by have := hbd.size; omega)
    have hM1 := (unhide H7).ky k1 h4
    have hH1 := (unhide H8).ky k1 (fun g' e => (unhide H5 g' e).2)
    rw [unhide HLN] at hH1 hM1
    have m2 := hM1.c2
    have m0 := hM1.c0
    obtain ⟨e0, e1, f0, f1, _⟩ := hH1.at (j := 0) (by omega)
    rw [unhide HI0] at e1
    simp only [Nat.zero_mul, Nat.zero_add] at e0 e1 f0 f1
    obtain ⟨e2, e3, f2, f3, hrn⟩ := hH1.at (j := n) (by omega)
    have hdr : Below w1.heap.size w1 w1.drew := (Below.refl _ _).drew
    have hw2 := hH1.put (j := 0) (x := hAt L n) (by omega) hrn
    simp only [Nat.zero_mul, Nat.zero_add] at hw2
    obtain ⟨xn, hxn⟩ : ∃ x, hAt L n = x := ⟨_, rfl⟩
    rw [hxn] at e2 e3 hrn hw2
    have HXN := hide hxn
    obtain ⟨un, rn, iN⟩ := xn
    obtain ⟨an, kn, en, _, _⟩ := hrn
    simp only at en e2 e3 hw2
    subst en
    generalize rn.length = ln at *
    have HW := hide hw2
    have HM1 := hide hM1
    have HK1 := hide k1
    have HN1 := hide n1
    have HA3 := hide a3
    have jn : (n : Int) < ((n + 1 : Nat) : Int) := by omega
    have ewn : IntKind.i64.wrap (((n + 1 : Nat) : Int) - 1) = (n : Int) := by rw [IntWalk.i64_in _ (by omega)]; omega
    clear hw2 hM1 hH1 k1 n1 a1 a2 a3 a4 hxn
    go_upto_region 8 with fail
    go_region
    obtain ⟨W4, hW4⟩ : ∃ W, ((w1.setCell ⟨g, 0, none⟩ (.slice an ln kn)).setCell ⟨g, 1, none⟩ (.int .i64 (iN : Nat))).drew.drew = W := ⟨_, rfl⟩
    have k4 : Ky (fun k => k = g) w1 W4 := by rw [← hW4]; exact (unhide HW).2.drew.drew
    have o4 : OwnH W4 (.slice (some ⟨g, 0, none⟩) (n + 1) cH) (L.set 0 ⟨.slice an ln kn, rn, iN⟩) := by rw [← hW4]; exact (unhide HW).1.later ((Below.refl _ _).drew.drew)
    have M4 := (unhide HM1).ky k4 nmg
    have q42 := M4.c2
    have q4f := M4.fr 2
    have q40 := M4.c0
    have hsl := slice_to115 g (n + 1) cH n
    have hnc : n ≤ cH := by omega
    have hsl' := fun W => hsl W hnc
    have HM4 := hide M4
    have HO4 := hide o4
    have HK4 := hide k4
    clear M4 o4 k4 hsl
    go_upto_region 9 with fail
    go_region
    go_upto_region 10 with fail
    try rw [hW4]
    have HM5 := hide ((unhide HM4).set (.slice (some ⟨g, 0, none⟩) n cH))
    have k5 : Ky (fun k => k = mg) W4 (W4.setCell ⟨mg, 2, none⟩ (.slice (some ⟨g, 0, none⟩) n cH)) := (Ky.refl (fun k => k = mg) W4).set (F := fun k => k = mg) rfl (unhide HM4).tg (by decide) _ _
    have o5 := ((unhide HO4).take (k := n) (by omega)).ky k5 (fun g' e => by injection e with e; subst e; exact ngm)
    have HS := hide (settle_any (i := 0) (ks := ks) (unhide HM5) o5 ((((unhide H9).ky (unhide HK1)).ky (unhide HK4)).ky k5) (by rw [List.length_take]; omega) (by omega) ((unhide HP).top _).less)
    have HK5 := hide k5
    obtain ⟨W5, hW5⟩ : ∃ W, W4.setCell ⟨mg, 2, none⟩ (.slice (some ⟨g, 0, none⟩) n cH) = W := ⟨_, rfl⟩
    have tg1 : Tg 120 w1 g := (unhide HK1).tg tg ngF
    have nF1 : ∀ k, k < w.heap.size → ¬ F0 k → ¬ F1 k := fun k hk hf e => by
      rcases unhide HN1 k e with q | q
      · exact hf q
      · omega
    have ngF1 : ¬ F1 g := nF1 g tg.lt ngF
    have nmF1 : ¬ F1 mg := nF1 mg (unhide H7).tg.lt h4
    have ty1 := (unhide HA3).tgy
    have nyg : ¬ y = g := fun e => by subst e; exact ty1.ne tg1 (by decide) rfl
    have nym : ¬ y = mg := fun e => by subst e; exact ty1.ne (unhide HM1).tg (by decide) rfl
    rw [hW5] at HS HM5 HK5
    have HYW : Hid (∀ w6, Ky (fun k => (Value.slice (some ⟨g, 0, none⟩) n cH).ownBlock = some k) W5 w6 → Ky (fun k => k = g ∨ k = mg) w1 w6 ∧ Yw w6 b y m Y.tick op F1) := fun w6 k6 => by
      have kk : Ky (fun k => k = g ∨ k = mg) w1 w6 := (((unhide HK4).mono fun k e => .inl e).trans ((unhide HK5).mono fun k e => .inr e) (Nw.refl _ _)).trans (k6.mono fun k e => by injection e with e; exact .inl e.symm) (Nw.refl _ _)
      refine ⟨kk, (unhide HA3).ky kk (fun k e => ?_) (fun e => ?_)⟩
      · rcases e with e | e
        · subst e; exact ngF1
        · subst e; exact nmF1
      · rcases e with e | e
        · exact nyg e
        · exact nym e
    clear o5 k5
    go_wp2_with (first
      | (go_at_call 100; (try rw [hW5]); refine (unhide HS).mono ?_; rintro _ w6 ⟨rfl, L', p1, p2, p3, p4⟩; have r0 := ((unhide HM5).ky p4 (fun e => by injection e with e; exact ngm e)).c0; obtain ⟨kk6, hy6⟩ := unhide HYW w6 p4; have HD := hide (ydrop_any (i := i0) hy6 (unhide HTH) hrl); have HP1 := hide p1; have HP2 := hide p2; have HP3 := hide p3; have HP4 := hide p4; have HKK := hide kk6; clear p1 p2 p3 p4 kk6 hy6)
      | (go_at_call 37; refine (unhide HD).mono ?_; rintro _ w7 ⟨rfl, hY7⟩))
    go_ret
    obtain ⟨F2, b1, b2, b3, b4⟩ := hY7
    have s1 := (unhide HK1).size
    have s6 := (unhide HKK).size
    have nF2 : ∀ k, k < w6.heap.size → ¬ F1 k → ¬ F2 k := fun k hk hf e => by
      rcases b1 k e with q | q
      · exact hf q
      · omega
    have hM6 := (unhide HM5).ky (unhide HP4) (fun e => by injection e with e; exact ngm e)
    have tg6 : g < w6.heap.size := by have := tg1.lt; omega
    have hlen' : L'.length = n := by rw [(unhide HP1).length_eq, List.length_take, List.length_set, unhide HLN]; omega
    refine ⟨rfl, L', (unhide HP1).trans ?_, unhide HP2, fun k => F k ∨ F2 k, fun k hk => ?_, fun k hk => .inl hk, ⟨fun e => ?_, .inl h2, F2, .slice (some ⟨g, 0, none⟩) n cH, fun k hk => .inr hk, nF2 mg hM6.tg.lt nmF1, fun g' e => ?_, b3, hM6.ky b4 nmF1, (unhide HP3).ky b4 (fun g' e => by injection e with e; subst e; exact ngF1), (((unhide H9).ky (unhide HK1)).ky (unhide HKK)).ky b4⟩, ?_⟩
    · rw [← unhide HXN]
      exact last_first (unhide HLN)
    · rcases hk with hk | hk
      · exact .inl hk
      · rcases b1 k hk with q | q
        · exact (unhide HN1 k q).imp (unhide H3 k) id
        · exact .inr (by omega)
    · rcases e with e | e
      · exact h1 e
      · exact b3.1 e
    · injection e with e
      subst e
      exact ⟨.inl (unhide H5 g rfl).1, nF2 g tg6 ngF1⟩
    · have f1 : Ky F w w6 := ((unhide HK1).mono (unhide H3)).trans ((unhide HKK).mono (G := F) fun k e => by rcases e with e | e; subst e; exact (unhide H5 k rfl).1; subst e; exact h2) (Nw.refl _ _)
      exact f1.trans b4 (fun k e => (unhide HN1 k e).imp (unhide H3 k) id)
end Go.Proofs.YtcbenpodohjbiaaGreat

import Derived.Test.YtcbenpodohjbiaaGreatSqB
set_option linter.unusedSimpArgs false
set_option linter.unusedVariables false
set_option maxRecDepth 100000
namespace Go.Proofs.YtcbenpodohjbiaaGreat
open Go.RowKit Go.Sort

set_option maxHeartbeats 4000000 in
/-- step (67), where the run has a row. -/
theorem step_row {F : Nat → Prop} {w : World} {b y m mg B : Nat} {ks : List (Int × Bool)} {Y : Yv} {op : Option Nat} {L : List Hd} {r : List Val} {rs : List (List Val)} (h : Mw w b y m mg B ks Y op L F) (hL : 0 < L.length) (hn : L.length ≤ 1048576) (hp : Hp ks 0 L) (hop : op ≠ some (hAt L 0).i) (hth : Y.there[(hAt L 0).i]? = some true) (hrs : Y.runs[(hAt L 0).i]? = some (r :: rs)) (hrl : Y.runs.length ≤ 1048576) (g0 : 0 ≤ Y.held) (g1 : Y.held ≤ 1048576) (hrd : Y.rd = false) (hit : Y.hit = false) :
    Calls Tryz.prog 67 #[.pointer (some ⟨mg, 0, none⟩)] w fun e w' => e = .returned (.int .i64 0) ∧ ∃ L' u, L'.Perm (⟨u, cleanR r, (hAt L 0).i⟩ :: L.tail) ∧ Hp ks 0 L' ∧ Mo w w' b y m mg B ks ((Y.tick.read (hAt L 0).i rs).hold 1) op L' F := by
  obtain ⟨h1, h2, F0, vH, h3, h4, h5, h6, h7, h8, h9⟩ := h
  obtain ⟨g, cH, rfl, hcap⟩ := h8.some hL
  obtain ⟨_, d1, _, _, _⟩ := h8.at (j := 0) hL
  have hbd : Below w.heap.size w w.drew := (Below.refl _ _).drew
  have HC := hide (ynext_row (h6.later hbd) hop hth hrs hrl g0 g1 hrd hit)
  have c0 := h7.c0
  have c2 := h7.c2
  simp only [Nat.zero_mul, Nat.zero_add] at d1
  have j0 : (0 : Int) < (L.length : Int) := by omega
  have tg : Tg 120 w g := own_tg h8.1 rfl
  have ngF : ¬ F0 g := (h5 g rfl).2
  have nmg : ¬ mg = g := fun e => by subst e; exact h7.tg.ne tg (by decide) rfl
  have H3 := hide h3
  have H5 := hide h5
  have H6 := hide h6
  have H7 := hide h7
  have H8 := hide h8
  have H9 := hide h9
  have HP := hide hp
  obtain ⟨i0, hi0⟩ : ∃ i0, (hAt L 0).i = i0 := ⟨_, rfl⟩
  have HI0 := hide hi0
  rw [hi0] at HC d1 ⊢
  obtain ⟨N, hN⟩ : ∃ N, L.length = N := ⟨_, rfl⟩
  have HN := hide hN
  rw [hN] at c2 j0
  clear h3 h5 h6 h7 h8 h9 hit hrd hop hth hrs hp hi0 hN
  go_enter Tryz.func67, Tryz.ntmps67
  go_upto_region 1 with fail
  go_cut [3, 4, 5] (fun s3 s4 s5 wx => ∃ av cv, s3 = .slice av (cleanR r).length cv ∧ s4 = .bool true ∧ s5 = .int .i64 0 ∧ Hid ((RowC wx av (cleanR r) ∧ (cleanR r).length ≤ 1048576) ∧ Yo w.drew wx b y m ((Y.tick.read i0 rs).hold 1) op F0))
  case first =>
    go_region_with (first | (go_at_call 99; refine (unhide HC).mono ?_; rintro _ w1 ⟨v1, rfl, ⟨av, cv, rfl, hvc, hvl⟩, hY1⟩))
    all_goals (go_wp2; go_meet; exact ⟨av, cv, rfl, rfl, rfl, ⟨hvc, hvl⟩, hY1⟩)
  case rest =>
    obtain ⟨av, cv, rfl, rfl, rfl, HR⟩ := hcut
    rename World => w1
    obtain ⟨⟨hvc, hvl⟩, F1, a1, a2, a3, a4⟩ := unhide HR
    have k1 : Ky F0 w w1 := (Ky.of_below hbd).trans a4 (Nw.refl _ _)
    have n1 : Nw F0 F1 w := fun k hk => (a1 k hk).imp id (fun q => by have := hbd.size; omega)
    have hM1 := (unhide H7).ky k1 h4
    have hH1 := (unhide H8).ky k1 (fun g' e => (unhide H5 g' e).2)
    have m2 := hM1.c2
    rw [unhide HN] at m2 hH1 hM1
    have hL' : 0 < N := by have := unhide HN; omega
    obtain ⟨e0, e1, f0, f1, _⟩ := hH1.at (j := 0) hL'
    simp only [Nat.zero_mul, Nat.zero_add] at e0 e1 f0 f1
    have hw2 := hH1.row (j := 0) (u := .slice av (cleanR r).length cv) (r := cleanR r) hL' ⟨av, cv, rfl, hvc, hvl⟩
    simp only [Nat.zero_mul] at hw2
    have hS := settle_any (i := 0) (ks := ks) (hM1.ky hw2.2 nmg) hw2.1 (((unhide H9).ky k1).ky hw2.2) (by rw [List.length_set]; exact hn) (by omega) ((unhide HP).top _)
    have HS := hide hS
    have HW2 := hide hw2.2
    have HM1 := hide hM1
    have HK1 := hide k1
    have HN1 := hide n1
    have HA3 := hide a3
    clear hS hw2 hM1 hH1 k1 n1 a1 a2 a3 a4 hvc hvl
    go_wp2_with (first | (go_at_call 100; refine (unhide HS).mono ?_; rintro _ w3 ⟨rfl, L', p1, p2, p3, p4⟩))
    go_ret
    have tg1 : Tg 120 w1 g := (unhide HK1).tg tg ngF
    have nF1 : ∀ k, k < w.heap.size → ¬ F0 k → ¬ F1 k := fun k hk hf e => by
      rcases unhide HN1 k e with q | q
      · exact hf q
      · omega
    have ngF1 : ¬ F1 g := nF1 g tg.lt ngF
    have ty1 := (unhide HA3).tgy
    have nyg : ¬ y = g := fun e => by subst e; exact ty1.ne tg1 (by decide) rfl
    have k13 : Ky (fun k => k = g) w1 w3 := (unhide HW2).trans (p4.mono fun k e => by injection e with e; exact e.symm) (Nw.refl _ _)
    have eN : (Value.slice (some ⟨g, 0, none⟩) N cH) = .slice (some ⟨g, 0, none⟩) L.length cH := by rw [unhide HN]
    refine ⟨rfl, L', .slice av (cleanR r).length cv, ?_, p2, fun k => F k ∨ F1 k, fun k hk => ?_, fun k hk => .inl hk, ⟨fun e => ?_, .inl h2, F1, .slice (some ⟨g, 0, none⟩) N cH, fun k hk => .inr hk, nF1 mg (unhide H7).tg.lt h4, fun g' e => ?_, (unhide HA3).ky k13 (fun k e => by subst e; exact ngF1) nyg, (unhide HM1).ky k13 nmg, p3, ((unhide H9).ky (unhide HK1)).ky k13⟩, ?_⟩
    · refine p1.trans ?_
      rw [← unhide HI0]
      cases L with
      | nil => simp at hL
      | cons x t => rw [List.set_cons_zero, List.tail_cons]
    · rcases hk with hk | hk
      · exact .inl hk
      · exact (unhide HN1 k hk).imp (unhide H3 k) id
    · rcases e with e | e
      · exact h1 e
      · exact (unhide HA3).1 e
    · injection e with e
      subst e
      exact ⟨.inl (unhide H5 g rfl).1, ngF1⟩
    · exact ((unhide HK1).mono (unhide H3)).trans (k13.mono (G := F) fun k e => by subst e; exact (unhide H5 k rfl).1) (Nw.refl _ _)
end Go.Proofs.YtcbenpodohjbiaaGreat

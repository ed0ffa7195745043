import Derived.Test.YtjnggnhgambmkaaGreatMmJ
import Derived.Test.YtjnggnhgambmkaaGreatRxE
import Derived.Test.YtjnggnhgambmkaaGreatVecO
set_option linter.unusedSimpArgs false
set_option linter.unusedVariables false
set_option maxRecDepth 100000
namespace Go.Proofs.YtjnggnhgambmkaaGreat
open Go.RowKit Go.Sort

set_option maxHeartbeats 40000000 in
theorem law_vm (w : World) (kind : Int) (a : Option Addr) (c : Nat) (xs : List Val) (aP : Option Addr) (cP : Nat) (pl : List Int) (hx : RowAt w a xs) (hpl : LisAt w aP (pl.map (.int .i64))) (hna : a = none → c = 0) (hnp : aP = none → cP = 0) (hl : xs.length ≤ 1048576) (hp : pl.length ≤ 1048576) (hr : ∀ x ∈ xs, -9223372036854775808 ≤ x.n ∧ x.n ≤ 9223372036854775807) :
    Calls Tryz.prog 3 #[.int .i64 kind, .slice a xs.length c, .slice aP pl.length cP] w fun e w' => e = .returned (.bool true) ∧ Below w.heap.size w w' := by
  have HX := hide hx
  have HPL := hide hpl
  have HR := hide hr
  have HN : Hid ((a = none → c = 0) ∧ (aP = none → cP = 0)) := ⟨hna, hnp⟩
  clear hx hpl hr hna hnp
  have K4 := hide (copied_any (unhide HX) (unhide HN).1 (by omega))
  have HC1 : Hid (∀ W, Below w.heap.size w W → ∃ T w', (Builtin.append_ #[23, 23] 23 #[.slice (some ⟨W.heap.size, 0, none⟩) 0 0, .slice aP pl.length cP]).run Tryz.prog (W.alloc (.cells #[] 3)) = .ok T w' ∧ w'.ownsRow W.heap.size 3 1 T pl.length (pl.map (.int .i64)) ∧ Below W.heap.size W w') := fun W hb => by
    have hc := lis_cells ((unhide HPL).later hb)
    rw [List.length_map] at hc
    exact copy_okI W pl.length cP aP (pl.map (.int .i64)) 23 (by simp) hc (fun u hu => by obtain ⟨y, _, rfl⟩ := List.mem_map.1 hu; rfl) (unhide HN).2 (by omega)
  go_enter Tryz.func3, Tryz.ntmps3
  go_upto_region 2 with (first
    | (go_at_call 4; refine (unhide K4).mono ?_; rintro _ w1 ⟨vin, rfl, ho1, hb1⟩; obtain ⟨vat, w2, hrun, ho2, hb2⟩ := unhide HC1 w1 hb1; obtain ⟨ain, cin, hin⟩ := own_slice ho1; subst hin; obtain ⟨aat, cat, hat⟩ := own_slice ho2; subst hat; have HO1 := hide ho1; have HO2 := hide ho2; have HB1 := hide hb1; have HB2 := hide hb2; replace hrun := hide hrun; clear ho1 ho2 hb1 hb2)
    | (at_builtin; refine wpList_app_run rfl (.tmp 32) (.tmp 33) 23 rfl _ _ rfl rfl (unhide hrun) ?_))
  clear hrun K4 HC1
  have HS : Hid (StO w w2 [Vw.lis w1.heap.size w2.heap.size aat (pl.map (.int .i64)), Vw.own w.heap.size w1.heap.size 38 3 (.slice ain xs.length cin) xs.length (xs.flatMap c3)]) :=
    ((StO.nil w).make (unhide HB1) (Vw.own w.heap.size w1.heap.size 38 3 (.slice ain xs.length cin) xs.length (xs.flatMap c3)) rfl (Nat.le_refl _) (own_view (unhide HO1))).make (unhide HB2) (Vw.lis w1.heap.size w2.heap.size aat (pl.map (.int .i64))) rfl (Nat.le_refl _) ⟨own_lis (unhide HO2), fun ad e => World.ownsRow.lt (unhide HO2) ad.block (by rw [e]; rfl)⟩
  clear HO1 HO2 HB1 HB2
  obtain ⟨e1, he1⟩ : ∃ e1, w1.heap.size = e1 := ⟨_, rfl⟩
  obtain ⟨e2, he2⟩ : ∃ e2, w2.heap.size = e2 := ⟨_, rfl⟩
  obtain ⟨e0, he0⟩ : ∃ e0, w.heap.size = e0 := ⟨_, rfl⟩
  rw [he1, he2, he0] at HS
  have HE0 := hide he0
  have HE2 := hide he2
  clear he0 he1 he2
  obtain ⟨ain', cin', hee, hrow⟩ := ownV_row (zs := xs) ((unhide HS).get 1 rfl).1
  injection hee with e1' _ e3'
  subst e1' e3'
  have K5 := hide (from_any ain cin kind xs w2 (by omega) hrow)
  obtain ⟨Xe, hXe⟩ : ∃ Xe, fromV kind xs = Xe := ⟨_, rfl⟩
  rw [hXe] at K5
  obtain ⟨X, fe⟩ := Xe
  have HXE := hide hXe
  clear hrow hXe
  simp only at K5
  go_upto_region 3 with (go_at_call 5; refine (unhide K5).mono ?_; rintro _ w3 ⟨pv, rfl, hv3, ho3, hb3⟩; rw [vecV_open]; replace hv3 := hide hv3; replace ho3 := hide ho3; replace hb3 := hide hb3)
  obtain ⟨W4, hW4⟩ : ∃ W4, w3.alloc (.cells #[.int .i64 X.k, .slice pv.a1 X.nl.length pv.c1, .slice pv.a2 X.ns.length pv.c2, .slice pv.a3 X.ss.length pv.c3] 29) = W4 := ⟨_, rfl⟩
  replace HS := hide ((unhide HS).vecbox (unhide hb3) (unhide hv3) (unhide ho3) hW4)
  have HNV := hide (unhide ho3).nil
  obtain ⟨bv, hbv⟩ : ∃ bv, w3.heap.size = bv := ⟨_, rfl⟩
  rw [unhide HE2, hbv] at HS
  rw [hbv, hW4]
  clear hW4 hb3 ho3 hv3 K5 hbv HE2
  by_cases hfe : fe = 0
  rotate_left
  · have hfe' : ((fe : Int) != 0) = true := by simpa using hfe
    have K5 := hide (from_any none 0 1 [] W4 (by simp) (.inl rfl))
    have HG6 : ∀ pz, Hid (∀ W, Calls Tryz.prog 6 #[vecV (fromV 1 []).1 pz] W fun e w' => e = .returned (.bool true) ∧ Below W.heap.size W w') := fun pz W => good_any (fromV 1 []).1 pz W ⟨by decide, by decide, by decide⟩ ⟨.inl rfl, .inl rfl, .inl rfl⟩
    go_wp2_with (first
      | (go_at_call 5; refine (unhide K5).mono ?_; rintro _ w5 ⟨pz, rfl, hv5, ho5, hb5⟩; rw [vecV_open]; have hS5 := (unhide HS).below hb5; obtain ⟨c0, c1, c2, c3, f0, f1, f2, f3⟩ := box_facts (hS5.get 0 rfl); replace hS5 := hide (hS5.put (Y := (fromV 1 []).1) (q := pz)); replace hv5 := hide hv5; replace ho5 := hide ho5; replace hb5 := hide hb5)
      | (go_at_call 6; refine (unhide (HG6 pz) _).mono ?_; rintro _ w6 ⟨rfl, hb6⟩; replace hb6 := hide hb6))
    refine bodyPost_ret (v := .bool true) (by simp [results, Tryz.results3, go_sem]) rfl ?_
    exact ⟨rfl, ((unhide hS5).below (unhide hb6)).bel⟩
  subst hfe
  obtain ⟨hg, hk, hvl, hff, hnl, hns, hss, hrr⟩ := from_ok (unhide HXE)
  have HGO := hide hg
  obtain ⟨ys, hys⟩ : ∃ ys, valsV X = ys := ⟨_, rfl⟩
  have HYS := hide hys
  have HVN : Hid (ys.length = xs.length) := by show _ = _; rw [← hys, hvl, List.length_map]
  clear hys
  have l1 : X.nl.length ≤ 1048576 := by omega
  have l2 : X.ns.length ≤ 1048576 := by omega
  have l3 : X.ss.length ≤ 1048576 := by omega
  have HSM : Hid (small X) := ⟨by omega, by omega, by omega⟩
  have HFI : Hid (fit X) := ⟨by unfold maxLen; omega, by unfold maxLen; omega, by unfold maxLen; omega⟩
  clear hg hk hvl hff hrr hnl hns hss
  have HL : Hid (X.nl.length ≤ 1048576 ∧ X.ns.length ≤ 1048576 ∧ X.ss.length ≤ 1048576 ∧ xs.length ≤ 1048576 ∧ pl.length ≤ 1048576) := ⟨l1, l2, l3, hl, hp⟩
  clear l1 l2 l3 hl hp
  have K7 : Hid (∀ W p, VecAt W X p → ((p.a1 = none → p.c1 = 0) ∧ (p.a2 = none → p.c2 = 0) ∧ (p.a3 = none → p.c3 = 0)) → Calls Tryz.prog 7 #[vecV X p] W fun e w' => ∃ q, e = .returned (vecV X q) ∧ Own3 w' W.heap.size X q ∧ Below W.heap.size W w') := fun W p hv hn => by
    obtain ⟨l1, l2, l3, _⟩ := unhide HL
    exact copiedvec_any W X p hv hn (by omega) (by omega) (by omega)
  -- region 6: was
  obtain ⟨c0, c1, c2, c3⟩ := (unhide HS).bx4 (i := 0) rfl
  have K := hide (unhide K7 W4 pv ((unhide HS).get 1 rfl).1 (unhide HNV))
  go_upto_region 7 with (go_at_call 7; refine (unhide K).mono ?_; rintro _ w5 ⟨pw, rfl, ho5, hb5⟩; rw [vecV_open]; replace ho5 := hide ho5; replace hb5 := hide hb5)
  obtain ⟨W6, hW6⟩ : ∃ W6, w5.alloc (.cells #[.int .i64 X.k, .slice pw.a1 X.nl.length pw.c1, .slice pw.a2 X.ns.length pw.c2, .slice pw.a3 X.ss.length pw.c3] 29) = W6 := ⟨_, rfl⟩
  replace HS := hide ((unhide HS).vecbox (unhide hb5) (unhide ho5).at (unhide ho5) hW6)
  obtain ⟨bw, hbw⟩ : ∃ bw, w5.heap.size = bw := ⟨_, rfl⟩
  obtain ⟨e4, he4⟩ : ∃ e4, W4.heap.size = e4 := ⟨_, rfl⟩
  rw [hbw, he4] at HS
  rw [hbw, hW6]
  clear hW6 hb5 ho5 K hbw he4 c0 c1 c2 c3
  -- region 7: in is as values
  obtain ⟨ain', cin', hee, hrow⟩ := ownV_row (zs := xs) ((unhide HS).get 5 rfl).1
  injection hee with e1' _ e3'
  subst e1' e3'
  have K := hide (samerow_same ain a cin c xs W6 (unhide HL).2.2.2.1 hrow ((unhide HX).later (by have := (unhide HS).bel; exact this)))
  clear hrow
  go_upto_region 9 with (go_at_call 8; refine (unhide K).mono ?_; rintro _ w7 ⟨rfl, hb7⟩; replace hb7 := hide hb7)
  replace HS := hide ((unhide HS).below (unhide hb7))
  clear hb7 K
  -- region 9: in is spoilt
  have HM := hide mark_any
  go_upto_region 10 with (first
    | (go_at_call 10; refine (unhide HM _).mono ?_; rintro _ w8 ⟨rfl, hb8⟩; replace HS := hide ((unhide HS).below hb8); have K := hide (spoiltV ((unhide HS).get 5 rfl).1 (by have := (unhide HL).2.2.2.1; omega) ⟨2, 0, ⟨#[115, 112, 111, 105, 108, 116]⟩⟩); clear hb8)
    | (go_at_call 9; refine (unhide K).mono ?_; rintro _ w9 ⟨rfl, hg9⟩; replace HS := hide ((unhide HS).spoil1 5 rfl hg9); clear hg9 K))
  simp only [List.eraseIdx] at HS
  -- region 10: a, b
  have KV : Hid (∀ W, VecAt W X pv → Calls Tryz.prog 11 #[vecV X pv] W fun e w' => ∃ v, e = .returned v ∧ OwnV w' W.heap.size v ys ∧ Below W.heap.size W w') := fun W h => by rw [← unhide HYS]; exact values_any X pv W (unhide HSM) h
  replace HS := hide (unhide HS).drew
  have S9 := (unhide HS).bx4 (i := 2) rfl
  unfold CS at S9
  go_region_held3 (fun w' => w'.cell? ⟨bv, 0, none⟩ = some (.int .i64 X.k) ∧ w'.cell? ⟨bv, 1, none⟩ = some (.slice pv.a1 X.nl.length pv.c1) ∧ w'.cell? ⟨bv, 2, none⟩ = some (.slice pv.a2 X.ns.length pv.c2) ∧ w'.cell? ⟨bv, 3, none⟩ = some (.slice pv.a3 X.ss.length pv.c3))
    (first | assumption)
    (first
      | (go_at_call 11; refine (unhide KV _ ((unhide HSA).get 4 rfl).1).mono ?_; rintro _ wB ⟨vb, rfl, oB, bB⟩; obtain ⟨ab, cb, hvb, nb, pb⟩ := ownV_view oB; subst hvb; have HNB := hide nb; clear nb; have HSB := hide ((unhide HSA).make bB _ rfl (Nat.le_refl _) pb); clear pb; have SB := (unhide HSB).bx4 (i := 4) rfl; unfold CS at SB; replace oB := hide oB; replace bB := hide bB)
      | (go_at_call 11; refine (unhide KV _ ((unhide HS).get 3 rfl).1).mono ?_; rintro _ wA ⟨va, rfl, oA, bA⟩; have HSA := hide ((unhide HS).make bA (Vw.own w9.drew.heap.size wA.heap.size 38 3 va ys.length (ys.flatMap YtjnggnhgambmkaaGreat.c3)) rfl (Nat.le_refl _) (own_view oA)); have SA := (unhide HSA).bx4 (i := 3) rfl; unfold CS at SA; replace oA := hide oA; replace bA := hide bA))
  replace HS := HSB
  obtain ⟨aa, ca, hva⟩ := own_slice (unhide oA)
  subst hva
  clear HSA HSB S9 SA SB oA oB bA bB
  -- region 11: keep
  have HLY : Hid (ys.length ≤ 1048576) := by have := (unhide HL).2.2.2.1; have := unhide HVN; show _ ≤ _; omega
  have K := hide (copied_any (a := ab) (c := cb) ((unhide HS).get 0 rfl).1 (unhide HNB) (by have := unhide HLY; omega))
  go_upto_region 12 with (go_at_call 4; refine (unhide K).mono ?_; rintro _ wC ⟨vk, rfl, oC, bC⟩; obtain ⟨ak, ck, hvk, nk, pk⟩ := ownV_view oC; subst hvk; replace HS := hide ((unhide HS).make bC _ rfl (Nat.le_refl _) pk); clear pk nk oC bC)
  clear K HNB
  -- region 12: a is spoilt
  go_upto_region 13 with (first
    | (go_at_call 10; refine (unhide HM _).mono ?_; rintro _ wD ⟨rfl, hbD⟩; replace HS := hide ((unhide HS).below hbD); have K := hide (spoiltV ((unhide HS).get 2 rfl).1 (by have := unhide HLY; omega) ⟨2, 0, ⟨#[115, 112, 111, 105, 108, 116]⟩⟩); clear hbD)
    | (go_at_call 9; refine (unhide K).mono ?_; rintro _ wE ⟨rfl, hgE⟩; replace HS := hide ((unhide HS).spoil1 2 rfl hgE); clear hgE K))
  clear HM
  simp only [List.eraseIdx] at HS
  -- keep 0, b 1, bx w 2, vec w 3, bx v 4, vec v 5, lis at 6
  obtain ⟨Y, hY⟩ : ∃ Y, (pickV X pl).1 = Y := ⟨_, rfl⟩
  obtain ⟨fp, hfp⟩ : ∃ fp, (pickV X pl).2 = fp := ⟨_, rfl⟩
  have KP : Hid (∀ W, VecAt W X pv → LisAt W aat (pl.map (.int .i64)) → Calls Tryz.prog 12 #[vecV X pv, .slice aat pl.length cat] W fun e w' => ∃ q, e = .returned (.tuple #[vecV Y q, .int .i64 fp]) ∧ VecAt w' Y q ∧ Own3 w' W.heap.size Y q ∧ Below W.heap.size W w') := fun W h1 h2 => by
    rw [← hY, ← hfp]
    exact pick_any X pv aat cat pl W (unhide HSM) (unhide HL).1 (unhide HL).2.2.2.2 h1 h2
  have HUY : Hid (upto 1048576 Y) := by
    have h := pick_upto X pl
    have hp := (unhide HL).2.2.2.2
    rw [hY] at h
    exact ⟨Nat.le_trans h.1 hp, Nat.le_trans h.2.1 hp, Nat.le_trans h.2.2 hp⟩
  clear hY hfp
  -- region 13: p
  obtain ⟨c0, c1, c2, c3⟩ := (unhide HS).bx4 (i := 4) rfl
  have K := hide (unhide KP wE ((unhide HS).get 5 rfl).1 ((unhide HS).get 6 rfl).1)
  go_upto_region 14 with (go_at_call 12; refine (unhide K).mono ?_; rintro _ wF ⟨pp, rfl, hvF, hoF, hbF⟩; rw [vecV_open]; replace hvF := hide hvF; replace hoF := hide hoF; replace hbF := hide hbF)
  obtain ⟨WG, hWG⟩ : ∃ WG, wF.alloc (.cells #[.int .i64 Y.k, .slice pp.a1 Y.nl.length pp.c1, .slice pp.a2 Y.ns.length pp.c2, .slice pp.a3 Y.ss.length pp.c3] 29) = WG := ⟨_, rfl⟩
  replace HS := hide ((unhide HS).ownbox (unhide hbF) (unhide hvF) (unhide hoF) hWG)
  obtain ⟨bp, hbp⟩ : ∃ bp, wF.heap.size = bp := ⟨_, rfl⟩
  rw [hbp] at HS
  rw [hbp, hWG]
  clear hWG hvF hoF hbF hbp K c0 c1 c2 c3
  -- bx p 0, own p 1, keep 2, b 3, bx w 4, vec w 5, bx v 6, vec v 7, lis at 8
  obtain ⟨c0, c1, c2, c3⟩ := (unhide HS).bx4 (i := 6) rfl
  have K := hide (unhide KP WG ((unhide HS).get 7 rfl).1 ((unhide HS).get 8 rfl).1)
  go_upto_region 15 with (go_at_call 12; refine (unhide K).mono ?_; rintro _ wH ⟨pq, rfl, hvH, hoH, hbH⟩; rw [vecV_open]; replace hvH := hide hvH; replace hoH := hide hoH; replace hbH := hide hbH)
  obtain ⟨WI, hWI⟩ : ∃ WI, wH.alloc (.cells #[.int .i64 Y.k, .slice pq.a1 Y.nl.length pq.c1, .slice pq.a2 Y.ns.length pq.c2, .slice pq.a3 Y.ss.length pq.c3] 29) = WI := ⟨_, rfl⟩
  replace HS := hide ((unhide HS).vecbox (unhide hbH) (unhide hvH) (unhide hoH) hWI)
  have HNQ := hide (unhide hoH).nil
  obtain ⟨bq, hbq⟩ : ∃ bq, wH.heap.size = bq := ⟨_, rfl⟩
  rw [hbq] at HS
  rw [hbq, hWI]
  clear hWI hvH hoH hbH hbq K KP c0 c1 c2 c3
  -- bx q 0, vec q 1, bx p 2, own p 3, keep 4, b 5, bx w 6, vec w 7, bx v 8, vec v 9, lis at 10
  obtain ⟨c0, c1, c2, c3⟩ := (unhide HS).bx4 (i := 0) rfl
  have K := hide (copiedvec_any WI Y pq ((unhide HS).get 1 rfl).1 (unhide HNQ) (by have := (unhide HUY).1; omega) (by have := (unhide HUY).2.1; omega) (by have := (unhide HUY).2.2; omega))
  go_upto_region 16 with (go_at_call 7; refine (unhide K).mono ?_; rintro _ wJ ⟨pi, rfl, hoJ, hbJ⟩; rw [vecV_open]; replace hoJ := hide hoJ; replace hbJ := hide hbJ)
  obtain ⟨WK, hWK⟩ : ∃ WK, wJ.alloc (.cells #[.int .i64 Y.k, .slice pi.a1 Y.nl.length pi.c1, .slice pi.a2 Y.ns.length pi.c2, .slice pi.a3 Y.ss.length pi.c3] 29) = WK := ⟨_, rfl⟩
  replace HS := hide ((unhide HS).vecbox (unhide hbJ) (unhide hoJ).at (unhide hoJ) hWK)
  obtain ⟨bi, hbi⟩ : ∃ bi, wJ.heap.size = bi := ⟨_, rfl⟩
  rw [hbi] at HS
  rw [hbi, hWK]
  clear hWK hoJ hbJ hbi K HNQ c0 c1 c2 c3
  -- bx i 0, vec i 1, bx q 2, vec q 3, bx p 4, own p 5, keep 6, b 7, bx w 8, vec w 9, bx v 10, vec v 11, lis at 12
  obtain ⟨c0, c1, c2, c3⟩ := (unhide HS).bx4 (i := 4) rfl
  have K := hide (spoiltvec_any ((unhide HS).get 5 rfl).1 (by have := (unhide HUY).1; omega) (by have := (unhide HUY).2.1; omega) (by have := (unhide HUY).2.2; omega))
  go_upto_region 17 with (go_at_call 13; refine (unhide K).mono ?_; rintro _ wL ⟨rfl, kL⟩; replace HS := hide (((unhide HS).spoil3 5 rfl kL).del 4); clear kL)
  simp only [List.eraseIdx] at HS
  clear K c0 c1 c2 c3
  -- bx i 0, vec i 1, bx q 2, vec q 3, keep 4, b 5, bx w 6, vec w 7, bx v 8, vec v 9, lis at 10
  -- region 17: j
  obtain ⟨Z, hZ⟩ : ∃ Z, (joinedV X X).1 = Z := ⟨_, rfl⟩
  obtain ⟨fj, hfj⟩ : ∃ fj, (joinedV X X).2 = fj := ⟨_, rfl⟩
  have HUZ : Hid (upto 2097152 Z) := by rw [← hZ]; exact join_upto X (unhide HL).1
  have K := joined_any X X pv pv wL (unhide HSM) (unhide HSM) (unhide HL).1 (unhide HL).1 ((unhide HS).get 9 rfl).1 ((unhide HS).get 9 rfl).1
  rw [hZ, hfj] at K
  replace K := hide K
  clear hZ hfj
  obtain ⟨c0, c1, c2, c3⟩ := (unhide HS).bx4 (i := 8) rfl
  go_upto_region 18 with (go_at_call 14; refine (unhide K).mono ?_; rintro _ wM ⟨pj, rfl, hvM, hoM, hbM⟩; rw [vecV_open]; replace hvM := hide hvM; replace hoM := hide hoM; replace hbM := hide hbM)
  obtain ⟨WN, hWN⟩ : ∃ WN, wM.alloc (.cells #[.int .i64 Z.k, .slice pj.a1 Z.nl.length pj.c1, .slice pj.a2 Z.ns.length pj.c2, .slice pj.a3 Z.ss.length pj.c3] 29) = WN := ⟨_, rfl⟩
  replace HS := hide ((unhide HS).ownbox (unhide hbM) (unhide hvM) (unhide hoM) hWN)
  obtain ⟨bj, hbj⟩ : ∃ bj, wM.heap.size = bj := ⟨_, rfl⟩
  rw [hbj] at HS
  rw [hbj, hWN]
  clear hWN hvM hoM hbM hbj K c0 c1 c2 c3
  -- region 18: j is spoilt
  obtain ⟨c0, c1, c2, c3⟩ := (unhide HS).bx4 (i := 0) rfl
  have K := hide (spoiltvec_any ((unhide HS).get 1 rfl).1 (unhide HUZ).1 (unhide HUZ).2.1 (unhide HUZ).2.2)
  go_upto_region 19 with (go_at_call 13; refine (unhide K).mono ?_; rintro _ wO ⟨rfl, kO⟩; replace HS := hide (((unhide HS).spoil3 1 rfl kO).del 0); clear kO)
  simp only [List.eraseIdx] at HS
  clear K HUZ c0 c1 c2 c3
  -- bx i 0, vec i 1, bx q 2, vec q 3, keep 4, b 5, bx w 6, vec w 7, bx v 8, vec v 9, lis at 10
  obtain ⟨zs, hzs⟩ : ∃ zs, plN ys ys.length = zs := ⟨_, rfl⟩
  have HLZ : Hid (zs.length ≤ 1048576) := by have h1 := plN_len ys ys.length; have := unhide HLY; rw [hzs] at h1; show _ ≤ _; omega
  have KI : Hid (∀ W, VecAt W X pv → Calls Tryz.prog 15 #[vecV X pv] W fun e w' => ∃ v, e = .returned v ∧ OwnI w' W.heap.size v zs ∧ Below W.heap.size W w') := fun W h => by
    have := places_any X pv W (unhide HSM) (unhide HL).1 h
    rw [unhide HYS, hzs] at this
    exact this
  clear hzs
  -- region 19: n
  obtain ⟨c0, c1, c2, c3⟩ := (unhide HS).bx4 (i := 8) rfl
  have K := hide (unhide KI wO ((unhide HS).get 9 rfl).1)
  go_upto_region 20 with (go_at_call 15; refine (unhide K).mono ?_; rintro _ wQ ⟨vn, rfl, oQ, bQ⟩; obtain ⟨an, cn, hvn⟩ := own_slice oQ; subst hvn; replace HS := hide ((unhide HS).make bQ (Vw.own wO.heap.size wQ.heap.size 3 1 (.slice an zs.length cn) zs.length (zs.map (.int .i64))) rfl (Nat.le_refl _) (own_view oQ)); clear oQ bQ)
  clear K c0 c1 c2 c3
  -- region 20: m
  have HQ2 : Hid (StO w (wQ.alloc (.cells #[] 3)) _) := (unhide HS).below (below_alloc (Below.refl _ _) _)
  obtain ⟨c0, c1, c2, c3⟩ := (unhide HQ2).bx4 (i := 9) rfl
  have K := hide (unhide KI (wQ.alloc (.cells #[] 3)) ((unhide HQ2).get 10 rfl).1)
  clear HQ2
  go_upto_region 21 with (first
    | (go_at_call 15; refine (unhide K).mono ?_; rintro _ wR ⟨vm, rfl, oR, bR⟩; obtain ⟨am, cm, hvm, nm, pm⟩ := ownI_view oR; subst hvm; obtain ⟨T, wS, hrun, oS, bS⟩ := copy_later wQ wR bR zs cm am pm.1 nm (by have := unhide HLZ; omega); obtain ⟨aT, cT, hT, nT, pT⟩ := ownI_view oS; subst hT; have HSS := hide ((unhide HS).make bS _ rfl (Nat.le_refl _) pT); replace hrun := hide hrun; clear oR bR nm pm oS bS nT pT)
    | (at_builtin; refine wpList_app_run rfl (.tmp 97) (.tmp 99) 23 rfl _ _ rfl rfl (unhide hrun) ?_))
  replace HS := HSS
  clear HSS hrun K c0 c1 c2 c3
  -- m 0, n 1, bx i 2, vec i 3, bx q 4, vec q 5, keep 6, b 7, bx w 8, vec w 9, bx v 10, vec v 11, lis at 12
  have K := hide (spoiltI ((unhide HS).get 1 rfl).1 (by have := unhide HLZ; omega) 9999)
  go_upto_region 22 with (go_at_call 16; refine (unhide K).mono ?_; rintro _ wT ⟨rfl, gT⟩; replace HS := hide ((unhide HS).spoil1 1 rfl gT); clear gT)
  simp only [List.eraseIdx] at HS
  clear K
  -- m 0, bx i 1, vec i 2, bx q 3, vec q 4, keep 5, b 6, bx w 7, vec w 8, bx v 9, vec v 10, lis at 11
  -- region 22: t
  obtain ⟨c0, c1, c2, c3⟩ := (unhide HS).bx4 (i := 9) rfl
  obtain ⟨WU, hWU⟩ : ∃ WU, wT.alloc (.cells #[.int .i64 X.k, .slice pv.a1 X.nl.length pv.c1, .slice pv.a2 X.ns.length pv.c2, .slice pv.a3 X.ss.length pv.c3, .int .i64 X.k, .slice pv.a1 X.nl.length pv.c1, .slice pv.a2 X.ns.length pv.c2, .slice pv.a3 X.ss.length pv.c3] 29) = WU := ⟨_, rfl⟩
  obtain ⟨hcols, hbU⟩ := cols_two wT X pv ((unhide HS).get 10 rfl).1 hWU
  have K := hide (table_two hcols (unhide HSM) (unhide HL).1 (unhide HGO))
  have HBU := hide hbU
  clear hcols hbU
  go_upto_region 23 with (first | (go_at_call 17; rw [hWU]; refine (unhide K).mono ?_; rintro _ wV ⟨vt, rfl, hro, hbV⟩; replace hro := hide hro; replace hbV := hide hbV) | (refine wp_region_lit ?_; go_wp2_with (first | (refine wpList_two rfl (.tmp 104) (.tmp 105) rfl X pv rfl rfl ?_; rw [hWU]) | (go_at_call 17; refine (unhide K).mono ?_; rintro _ wV ⟨vt, rfl, hro, hbV⟩; replace hro := hide hro; replace hbV := hide hbV))))
  clear hWU c0 c1 c2 c3 K
  -- region 23: t is spoilt
  have K := hide (spoiltrows_any (unhide hro) (unhide HL).1)
  go_upto_region 24 with (go_at_call 18; refine (unhide K).mono ?_; rintro _ wX ⟨rfl, kX⟩; replace HS := hide ((unhide HS).below ((below_step (unhide HBU) (unhide hbV)).trans (kX.below (n := wT.heap.size) (fun k hk => Nat.le_trans (unhide HBU).size hk) (Nat.le_trans (unhide HBU).size (unhide hbV).size)))); clear kX)
  clear K HBU hbV hro
  -- region 24: s, g
  obtain ⟨c0, c1, c2, c3⟩ := (unhide HS).bx4 (i := 9) rfl
  have K := hide (ppack_any X pv wX (unhide HSM) ((unhide HS).get 10 rfl).1)
  go_upto_region 25 with (go_at_call 19; refine (unhide K).mono ?_; rintro _ wY ⟨s, g, rfl, hpp, hbY⟩; replace HS := hide ((unhide HS).below hbY); clear hbY)
  clear K c0 c1 c2 c3
  have KR : Hid (∃ Xr, ((xs.length ≤ 4096 ∧ g = 0 ∧ X = Xr) ∨ 4096 < xs.length) ∧ upto 1048576 Xr ∧ ∀ W, Calls Tryz.prog 20 #[.string s] W fun e w' => ∃ (p : Sl) (err : Int), e = .returned (.tuple #[vecV Xr p, .int .i64 err]) ∧ VecAt w' Xr p ∧ Own3 w' W.heap.size Xr p ∧ Below W.heap.size W w') := by
    rcases read_of (unhide HXE) (unhide HR) (unhide hpp) with ⟨h1, h2, h3⟩ | ⟨h1, h3⟩
    · exact ⟨X, .inl ⟨h1, h2, rfl⟩, ⟨(unhide HL).1, (unhide HL).2.1, (unhide HL).2.2.1⟩, fun W => (h3 W).mono fun e w' ⟨p, h⟩ => ⟨p, 0, h⟩⟩
    · exact ⟨Vc.zero, .inr h1, zero_upto _, h3⟩
  obtain ⟨Xr, hcase, hux, hkr⟩ := unhide KR
  replace KR := hide hkr
  have HUX := hide hux
  have HCA := hide hcase
  clear hkr hux hcase hpp
  -- region 25: r
  have K := hide (unhide KR wY)
  go_upto_region 26 with (go_at_call 20; refine (unhide K).mono ?_; rintro _ wZ ⟨pr, er, rfl, hvZ, hoZ, hbZ⟩; rw [vecV_open]; replace hvZ := hide hvZ; replace hoZ := hide hoZ; replace hbZ := hide hbZ)
  obtain ⟨V1, hV1⟩ : ∃ V1, wZ.alloc (.cells #[.int .i64 Xr.k, .slice pr.a1 Xr.nl.length pr.c1, .slice pr.a2 Xr.ns.length pr.c2, .slice pr.a3 Xr.ss.length pr.c3] 29) = V1 := ⟨_, rfl⟩
  replace HS := hide ((unhide HS).ownbox (unhide hbZ) (unhide hvZ) (unhide hoZ) hV1)
  obtain ⟨br, hbr⟩ : ∃ br, wZ.heap.size = br := ⟨_, rfl⟩
  rw [hbr] at HS
  rw [hbr, hV1]
  clear hV1 hvZ hoZ hbZ hbr K
  -- region 26: r is spoilt
  obtain ⟨c0, c1, c2, c3⟩ := (unhide HS).bx4 (i := 0) rfl
  have K := hide (spoiltvec_any ((unhide HS).get 1 rfl).1 (by have := (unhide HUX).1; omega) (by have := (unhide HUX).2.1; omega) (by have := (unhide HUX).2.2; omega))
  go_upto_region 27 with (go_at_call 13; refine (unhide K).mono ?_; rintro _ V2 ⟨rfl, k2⟩; replace HS := hide ((unhide HS).spoil3 1 rfl k2); clear k2)
  simp only [List.eraseIdx] at HS
  clear K c0 c1 c2 c3
  -- region 27: r again
  have K := hide (unhide KR V2)
  go_upto_region 28 with (go_at_call 20; refine (unhide K).mono ?_; rintro _ V3 ⟨pr2, er2, rfl, hv3, ho3, hb3⟩; rw [vecV_open]; replace HS := hide ((unhide HS).make hb3 _ rfl (Nat.le_refl _) (own3_vec hv3 ho3).1); obtain ⟨c0, c1, c2, c3, f0, f1, f2, f3⟩ := box_facts ((unhide HS).get 1 rfl); replace HS := hide ((unhide HS).put1 (Y := Xr) (q := pr2)); clear hv3 ho3 hb3)
  clear K KR c0 c1 c2 c3 f0 f1 f2 f3
  obtain ⟨V4, hV4⟩ : ∃ V4, (((V3.setCell ⟨br, 0, none⟩ (.int .i64 Xr.k)).setCell ⟨br, 1, none⟩ (.slice pr2.a1 Xr.nl.length pr2.c1)).setCell ⟨br, 2, none⟩ (.slice pr2.a2 Xr.ns.length pr2.c2)).setCell ⟨br, 3, none⟩ (.slice pr2.a3 Xr.ss.length pr2.c3) = V4 := ⟨_, rfl⟩
  rw [hV4] at HS
  rw [hV4]
  clear hV4
  -- vec r 0, bx r 1, m 2, bx i 3, vec i 4, bx q 5, vec q 6, keep 7, b 8, bx w 9, vec w 10, bx v 11, vec v 12, lis at 13
  have KSV : Hid (∀ W p q, VecAt W X p → VecAt W X q → Calls Tryz.prog 21 #[vecV X p, vecV X q] W fun e w' => e = .returned (.bool true) ∧ Below W.heap.size W w') := fun W p q h1 h2 => samevec_same X p q W (unhide HFI) h1 h2
  -- region 28: as it was read
  have HFY : Hid (fit Y) := ⟨by have := (unhide HUY).1; unfold maxLen; omega, by have := (unhide HUY).2.1; unfold maxLen; omega, by have := (unhide HUY).2.2; unfold maxLen; omega⟩
  rcases unhide HCA with ⟨hsm, hg0, hxr⟩ | hbig
  · subst hg0 hxr
    have hsm' : ((xs.length : Int) ≤ 4096) := by omega
    obtain ⟨c0, c1, c2, c3⟩ := (unhide HS).bx4 (i := 1) rfl
    obtain ⟨d0, d1, d2, d3⟩ := (unhide HS).bx4 (i := 9) rfl
    go_upto_region 30 with (go_at_call 21; refine (unhide KSV _ pr2 pw ((unhide HS).get 0 rfl).1 ((unhide HS).get 10 rfl).1).mono ?_; rintro _ V5 ⟨rfl, hb5⟩; replace HS := hide ((unhide HS).below hb5); clear hb5)
    clear c0 c1 c2 c3 d0 d1 d2 d3
    clear hsm'
    obtain ⟨c0, c1, c2, c3⟩ := (unhide HS).bx4 (i := 11) rfl
    obtain ⟨d0, d1, d2, d3⟩ := (unhide HS).bx4 (i := 9) rfl
    go_wp2_with (first
      | (go_at_call_of 21 (Value.int IntKind.i64 X.k); refine (unhide KSV _ pv pw ((unhide HS).get 12 rfl).1 ((unhide HS).get 10 rfl).1).mono ?_; rintro _ U1 ⟨rfl, hb1⟩; replace HS := hide ((unhide HS).below hb1); clear hb1 c0 c1 c2 c3 d0 d1 d2 d3)
      | (go_at_call_of 8 aN; refine (samerow_same aN ak cN ck ys _ (unhide HLY) (unhide HRN) ((unhide HS).get 7 rfl).1).mono ?_; rintro _ U4 ⟨rfl, hb4⟩; replace HS := hide ((unhide HS).below hb4); clear hb4; obtain ⟨c0, c1, c2, c3⟩ := (unhide HS).bx4 (i := 5) rfl; obtain ⟨d0, d1, d2, d3⟩ := (unhide HS).bx4 (i := 3) rfl)
      | (go_at_call_of 8 ab; refine (samerow_same ab ak cb ck ys _ (unhide HLY) ((unhide HS).get 8 rfl).1 ((unhide HS).get 7 rfl).1).mono ?_; rintro _ U2 ⟨rfl, hb2⟩; replace HS := hide ((unhide HS).below hb2); clear hb2; obtain ⟨c0, c1, c2, c3⟩ := (unhide HS).bx4 (i := 11) rfl)
      | (go_at_call 11; refine (unhide KV _ ((unhide HS).get 12 rfl).1).mono ?_; rintro _ U3 ⟨vN, rfl, oN, hb3⟩; replace HS := hide ((unhide HS).below hb3); obtain ⟨aN, cN, hvN, nN, pN⟩ := ownV_view oN; subst hvN; have HRN := hide pN.1; clear hb3 oN nN pN c0 c1 c2 c3)
      | (go_at_call_of 21 (Value.int IntKind.i64 Y.k); refine (samevec_same Y pq pi _ (unhide HFY) ((unhide HS).get 6 rfl).1 ((unhide HS).get 4 rfl).1).mono ?_; rintro _ U5 ⟨rfl, hb5⟩; replace HS := hide ((unhide HS).below hb5); clear hb5 c0 c1 c2 c3 d0 d1 d2 d3; obtain ⟨c0, c1, c2, c3⟩ := (unhide HS).bx4 (i := 11) rfl)
      | (go_at_call 15; refine (unhide KI _ ((unhide HS).get 12 rfl).1).mono ?_; rintro _ U6 ⟨vI, rfl, oI, hb6⟩; replace HS := hide ((unhide HS).below hb6); obtain ⟨aI, cI, hvI, nI, pI⟩ := ownI_view oI; subst hvI; have HRI := hide pI.1; clear hb6 oI nI pI c0 c1 c2 c3)
      | (go_at_call_of 22 aI; refine (samenums_same aI aT cI cT zs _ (by have := unhide HLZ; unfold maxLen; omega) (unhide HRI) ((unhide HS).get 2 rfl).1).mono ?_; rintro _ U7 ⟨rfl, hb7⟩; replace HS := hide ((unhide HS).below hb7); clear hb7)
      | (go_at_call_of 22 aat; refine (samenums_same aat aP cat cP pl _ (by have := (unhide HL).2.2.2.2; unfold maxLen; omega) ((unhide HS).get 13 rfl).1 ((unhide HPL).later (unhide HS).bel)).mono ?_; rintro _ U8 ⟨rfl, hb8⟩; replace HS := hide ((unhide HS).below hb8); clear hb8))
    have hvn := unhide HVN
    refine bodyPost_ret (v := .bool true) (by simp [results, Tryz.results3, go_sem, hvn]) rfl ?_
    exact ⟨rfl, (unhide HS).bel⟩
  · have hsm' : ¬ ((xs.length : Int) ≤ 4096) := by omega
    go_upto_region 30 with fail
    clear hsm'
    obtain ⟨c0, c1, c2, c3⟩ := (unhide HS).bx4 (i := 11) rfl
    obtain ⟨d0, d1, d2, d3⟩ := (unhide HS).bx4 (i := 9) rfl
    go_wp2_with (first
      | (go_at_call_of 21 (Value.int IntKind.i64 X.k); refine (unhide KSV _ pv pw ((unhide HS).get 12 rfl).1 ((unhide HS).get 10 rfl).1).mono ?_; rintro _ U1 ⟨rfl, hb1⟩; replace HS := hide ((unhide HS).below hb1); clear hb1 c0 c1 c2 c3 d0 d1 d2 d3)
      | (go_at_call_of 8 aN; refine (samerow_same aN ak cN ck ys _ (unhide HLY) (unhide HRN) ((unhide HS).get 7 rfl).1).mono ?_; rintro _ U4 ⟨rfl, hb4⟩; replace HS := hide ((unhide HS).below hb4); clear hb4; obtain ⟨c0, c1, c2, c3⟩ := (unhide HS).bx4 (i := 5) rfl; obtain ⟨d0, d1, d2, d3⟩ := (unhide HS).bx4 (i := 3) rfl)
      | (go_at_call_of 8 ab; refine (samerow_same ab ak cb ck ys _ (unhide HLY) ((unhide HS).get 8 rfl).1 ((unhide HS).get 7 rfl).1).mono ?_; rintro _ U2 ⟨rfl, hb2⟩; replace HS := hide ((unhide HS).below hb2); clear hb2; obtain ⟨c0, c1, c2, c3⟩ := (unhide HS).bx4 (i := 11) rfl)
      | (go_at_call 11; refine (unhide KV _ ((unhide HS).get 12 rfl).1).mono ?_; rintro _ U3 ⟨vN, rfl, oN, hb3⟩; replace HS := hide ((unhide HS).below hb3); obtain ⟨aN, cN, hvN, nN, pN⟩ := ownV_view oN; subst hvN; have HRN := hide pN.1; clear hb3 oN nN pN c0 c1 c2 c3)
      | (go_at_call_of 21 (Value.int IntKind.i64 Y.k); refine (samevec_same Y pq pi _ (unhide HFY) ((unhide HS).get 6 rfl).1 ((unhide HS).get 4 rfl).1).mono ?_; rintro _ U5 ⟨rfl, hb5⟩; replace HS := hide ((unhide HS).below hb5); clear hb5 c0 c1 c2 c3 d0 d1 d2 d3; obtain ⟨c0, c1, c2, c3⟩ := (unhide HS).bx4 (i := 11) rfl)
      | (go_at_call 15; refine (unhide KI _ ((unhide HS).get 12 rfl).1).mono ?_; rintro _ U6 ⟨vI, rfl, oI, hb6⟩; replace HS := hide ((unhide HS).below hb6); obtain ⟨aI, cI, hvI, nI, pI⟩ := ownI_view oI; subst hvI; have HRI := hide pI.1; clear hb6 oI nI pI c0 c1 c2 c3)
      | (go_at_call_of 22 aI; refine (samenums_same aI aT cI cT zs _ (by have := unhide HLZ; unfold maxLen; omega) (unhide HRI) ((unhide HS).get 2 rfl).1).mono ?_; rintro _ U7 ⟨rfl, hb7⟩; replace HS := hide ((unhide HS).below hb7); clear hb7)
      | (go_at_call_of 22 aat; refine (samenums_same aat aP cat cP pl _ (by have := (unhide HL).2.2.2.2; unfold maxLen; omega) ((unhide HS).get 13 rfl).1 ((unhide HPL).later (unhide HS).bel)).mono ?_; rintro _ U8 ⟨rfl, hb8⟩; replace HS := hide ((unhide HS).below hb8); clear hb8))
    have hvn := unhide HVN
    refine bodyPost_ret (v := .bool true) (by simp [results, Tryz.results3, go_sem, hvn]) rfl ?_
    exact ⟨rfl, (unhide HS).bel⟩
end Go.Proofs.YtjnggnhgambmkaaGreat

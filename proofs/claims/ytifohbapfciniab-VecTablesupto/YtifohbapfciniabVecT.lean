import Derived.Test.YtifohbapfciniabVecS
set_option linter.unusedSimpArgs false
set_option linter.unusedVariables false
namespace Go.Proofs.Ytifohbapfciniab
open Go.RowKit Go.Sort

/-- A value as a column of this kind has it. -/
def Fine (k : Int) (z : Val) : Prop := cleanV z = z ∧ badK k z = false ∧ largeB z.s = false
theorem fromV_fine {k : Int} {zs : List Val} (hk : kindB k = true) (h : ∀ z ∈ zs, Fine k z) : fromV k zs = (laidV k zs, 0) := by
  have e : zs.map cleanV = zs := by
    conv => rhs; rw [← List.map_id zs]
    exact List.map_congr_left fun z hz => (h z hz).1
  have h1 : zs.any (badK k) = false := by rw [List.any_eq_false]; intro z hz; rw [(h z hz).2.1]; simp
  have h2 : zs.any (fun z => largeB z.s) = false := by rw [List.any_eq_false]; intro z hz; rw [(h z hz).2.2]; simp
  rw [fromV, if_neg (by rw [hk]; simp), e, if_neg (by rw [h1]; simp), if_neg (by rw [h2]; simp)]
theorem empty_small : largeB ⟨#[]⟩ = false := by rfl
theorem at_fine {X : Vc} (hg : goodB X = true) (i : Nat) : Fine X.k (atV X i) := by
  unfold atV
  split
  · exact ⟨rfl, rfl, empty_small⟩
  · rcases Bool.eq_false_or_eq_true (X.k == 1) with k1 | k1
    · rw [if_pos k1]
      refine ⟨rfl, ?_, empty_small⟩
      have := beq_iff_eq.1 k1
      simp [badK, Val.num, this]
    · rcases good_kinds hg with ⟨k1', _⟩ | ⟨_, k2, _⟩
      · rw [k1] at k1'; cases k1'
      · rw [k1]
        have e2 := beq_iff_eq.1 k2
        refine ⟨by simp [cleanV, Val.str], by simp [badK, Val.str, e2], ?_⟩
        have hl : X.ss.any largeB = false := by
          unfold goodB at hg
          rw [k1, k2] at hg
          simp at hg
          rw [List.any_eq_false]
          intro s hs
          simp [hg.2 s hs]
        simp only [Val.str, if_false, Bool.false_eq_true]
        by_cases hi : i < X.ss.length
        · have hm : X.ss[i] ∈ X.ss := List.getElem_mem hi
          rw [List.any_eq_false] at hl
          simp [List.getD, List.getElem?_eq_getElem hi]
          simpa using hl _ hm
        · simp [List.getD, List.getElem?_eq_none (by omega : X.ss.length ≤ i)]
          exact empty_small
theorem good_kind {X : Vc} (hg : goodB X = true) : kindB X.k = true := by
  rcases good_kinds hg with ⟨k1, _⟩ | ⟨_, k2, _⟩
  · simp [kindB, beq_iff_eq.1 k1]
  · simp [kindB, beq_iff_eq.1 k2]
theorem pick_from {X : Vc} (hg : goodB X = true) (places : List Int) : fromV X.k (pickL X places) = (laidV X.k (pickL X places), 0) :=
  fromV_fine (good_kind hg) fun z hz => by
    obtain ⟨pl, _, rfl⟩ := List.mem_map.1 hz
    exact at_fine hg _

set_option maxHeartbeats 4000000 in
theorem rpick_any (X : Vc) (p : Sl) (aP : Option Addr) (cP : Nat) (places : List Int) (w : World) (hs : small X) (hl : places.length ≤ 1048576) (hp : VecAt w X p) (hpl : LisAt w aP (places.map (.int .i64))) :
    Calls Try.prog 22 #[vecV X p, .slice aP places.length cP] w fun e w' => ∃ q, e = .returned (.tuple #[vecV (pickV X places).1 q, .int .i64 (pickV X places).2]) ∧ VecAt w' (pickV X places).1 q ∧ Fresh w.heap.size q ∧ Below w.heap.size w w' := by
  obtain ⟨i4, hi4, z40, z41, z42⟩ := info_parts Try.info40
  have HG : Hid (∀ w', Below w.heap.size w w' → Calls Try.prog 10 #[vecV X p] w' fun e w'' => e = .returned (.bool (goodB X)) ∧ Below w'.heap.size w' w'') := fun w' hb => rgood_any X p w' hs (hp.later hb)
  have HV : Hid (∀ w', Below w.heap.size w w' → Calls Try.prog 11 #[vecV X p] w' fun e w'' => ∃ v, e = .returned v ∧ OwnV w'' w'.heap.size v (valsV X) ∧ Below w'.heap.size w' w'') := fun w' hb => rvalues_any X p w' hs (hp.later hb)
  have HPL := hide hpl
  clear hpl
  generalize hR : pickV X places = R
  have HR := hide hR
  clear hR
  cases hg : goodB X
  · have HE : Hid (R = (Vc.zero, 1)) := by show _ = _; rw [← unhide HR, pickV, if_pos hg]
    rw [hg] at HG
    clear hg hp
    generalize valsV X = ys at HV
    rw [vecV_open]
    go_enter Try.func22, Try.ntmps22
    go_wp2_with (first
      | (go_at_call 11; refine (unhide HV _ (below_alloc (below_alloc (Below.refl _ _) _) _)).mono ?_; rintro e w1 ⟨v, rfl, ho1, hb1⟩; obtain ⟨a, c, rfl, hr1⟩ := ownV_row ho1; obtain ⟨hr1, hv1, hbw⟩ := bb_facts hb1; obtain ⟨r0, r1, r2, r3, _⟩ := box_facts hr1)
      | (go_at_call 10; refine (unhide HG _ hbw).mono ?_; rintro e w2 ⟨rfl, hb2⟩; obtain ⟨s0, s1, s2, s3, f0, f1, f2, f3⟩ := box_facts (rowIs_later hv1 hb2)))
    refine bodyPost_ret (v := .tuple #[zeroVec, .int .i64 1]) (by simp [results, Try.results22, go_sem, zeroVec, *]) rfl ?_
    exact refused (unhide HE) (below_set4' (below_step hbw hb2) _ _ _ _)
  · rw [hg] at HG
    have HGG := hide hg
    have HVL := hide (vals_len hg)
    have HVA : Hid (∀ i, i < X.nl.length → (valsV X)[i]? = some (atV X i)) := fun i hi => vals_at hg hi
    have HFR := hide (pick_from hg places)
    have HVB := hide (vals_len hg)
    obtain ⟨l1, l2, l3⟩ := hs
    clear hg hp
    obtain ⟨n, hn⟩ : ∃ n, n = X.nl.length := ⟨_, rfl⟩
    generalize valsV X = ys at HV HVL HVA
    have HP : Hid (∀ k, (pickL X places).take k = (pickL X places).take k) := fun _ => rfl
    rw [vecV_open]
    go_enter Try.func22, Try.ntmps22
    go_wp2_with (first
      | (go_at_call 11; refine (unhide HV _ (below_alloc (below_alloc (Below.refl _ _) _) _)).mono ?_; rintro e w1 ⟨v, rfl, ho1, hb1⟩; obtain ⟨a, c, rfl, hl1⟩ := ownV_row ho1; obtain ⟨hr1, hv1, hbw⟩ := bb_facts hb1; obtain ⟨r0, r1, r2, r3, _⟩ := box_facts hr1; clear ho1 hb1)
      | (go_at_call 10; refine (unhide HG _ hbw).mono ?_; rintro e w2 ⟨rfl, hb2⟩; have hb3 := below_step hbw hb2; have hl2 := hl1.later hb2; have hr2 := rowIs_later hr1 hb2; have hv2 := rowIs_later hv1 hb2; clear r0 r1 r2 r3 hr1 hv1 hbw hl1 hb2)
      | fail)
    have HR2 := hide hr2
    have HV2 := hide hv2
    have HL2 := hide hl2
    have HB3 := hide hb3
    clear hr2 hv2 hl2 hb3
    go_loopw [7, 18] (fun v i wr => ∃ k : Nat, k ≤ places.length ∧ i = .int .i64 k ∧ Hid (∀ i y, i < k → places[i]? = some y → outB X.nl.length y = false) ∧ OwnV wr w2.heap.size v ((pickL X places).take k) ∧ Below w2.heap.size w2 wr) (fun _ i _ => places.length - (intOf i).toNat)
    case atStart => exact ⟨0, Nat.zero_le _, rfl, fun i y h => by omega, World.ownsRow_nil _ _ _ _, Below.refl _ _⟩
    case round =>
      obtain ⟨k, hk, rfl, HN, ho, hb⟩ := hrel
      have HO := hide ho
      have HB := hide hb
      have hB := below_step (unhide HB3) hb
      have HBB := hide hB
      have hlen : ((pickL X places).take k).length ≤ k := by rw [List.length_take]; omega
      have HLEN := hide hlen
      have hszr := hb.size
      by_cases h1 : k < places.length
      · obtain ⟨pl, hpl⟩ : ∃ pl, places[k]? = some pl := ⟨_, List.getElem?_eq_getElem h1⟩
        obtain ⟨pb, po, ea, cp⟩ := ((unhide HPL).later hB).get (k := k) (x := .int .i64 pl) (by simp [hpl])
        subst ea
        obtain ⟨s0, s1, s2, s3, f0, f1, f2, f3⟩ := box_facts (rowIs_later (unhide HV2) hb)
        have HS := hide hpl
        have i1 : (k : Int) < (places.length : Int) := by omega
        have hyl : (ys.length : Int) = (X.nl.length : Int) := by rw [unhide HVL]
        have HYL := hide hyl
        clear hpl ho hb hB hlen hyl
        by_cases h2 : pl < 0
        · have HE : Hid (R = (Vc.zero, 1)) := by
            show _ = _
            rw [← unhide HR, pickV, if_neg (by rw [unhide HGG]; simp), if_pos (hitG (unhide HS) (by simp [outB]; omega))]
          go_wp2
          refine bodyPost_ret (v := .tuple #[zeroVec, .int .i64 1]) (by simp [results, Try.results22, go_sem, zeroVec, *]) rfl ?_
          exact refused (unhide HE) (below_set4' (unhide HBB) _ _ _ _)
        · by_cases h3 : pl < (ys.length : Int)
          · have hpn : pl.toNat < X.nl.length := by have := unhide HYL; omega
            obtain ⟨j, hj⟩ : ∃ j : Nat, pl = (j : Int) := ⟨pl.toNat, by omega⟩
            subst hj
            have HQ := hide (stepG (unhide HN) (unhide HS) (by have := unhide HYL; simp [outB]; omega))
            have hyy := unhide HVA j (by simpa using hpn)
            rcases (unhide HL2).later (unhide HB) with e | ⟨ba, oa, e, hca⟩
            · rw [e] at hyy; cases hyy
            subst e
            obtain ⟨c0, c1, c2⟩ := hca j _ hyy
            have HY : Hid ((pickL X places)[k]? = some (atV X j)) := by
              show _ = _
              have := unhide HS
              simp [pickL, this]
            generalize atV X j = y at HY c0 c1 c2
            clear hca hyy hpn
            go_wp2_with (at_builtin; refine wpList_append_own_at _ rfl (.tmp 31) (.tmp 36) 22 rfl w2.heap.size 40 i4 (.agg #[.int .i64 0, .int .i64 0, .string ⟨#[]⟩]) 3 32 Try.underlying22 hi4 z40 z41 z42 rfl (by decide) _ _ _ rfl (World.ownsRow.alloc (unhide HO) _) ⟨wr.heap.size, 0, none⟩ 1 1 (c3 y) rfl rfl (cells3_new wr y) (c3_one _) (by have := unhide HLEN; unfold maxLen; omega) (by have := unhide HLEN; omega) (by simp; omega) ?_; intro v1 w3 hown1 hgrow1 _ hat1; have ho3 := ownV_app hown1; have hgr : (wr.alloc (.cells #[.int .i64 y.k, .int .i64 y.n, .string y.s] 40)).grownBy w3 u7.ownBlock := hgrow1; clear hown1 hgrow1 hat1)
            go_roundw
            case rel => exact ⟨k + 1, by omega, by go_num, HQ, ownV_len ho3 (by rw [take_one (unhide HY)]), own_below (unhide HB) (unhide HO) (Nat.le_refl _) hgr⟩
            case measure => simp [intOf]; omega
          · have HE : Hid (R = (Vc.zero, 1)) := by
              show _ = _
              rw [← unhide HR, pickV, if_neg (by rw [unhide HGG]; simp), if_pos (hitG (unhide HS) (by have := unhide HYL; simp [outB]; omega))]
            go_wp2
            refine bodyPost_ret (v := .tuple #[zeroVec, .int .i64 1]) (by simp [results, Try.results22, go_sem, zeroVec, *]) rfl ?_
            exact refused (unhide HE) (below_set4' (unhide HBB) _ _ _ _)
      · have i1 : ¬ (k : Int) < (places.length : Int) := by omega
        have hpp : (pickL X places).length = places.length := by simp [pickL]
        have HE : Hid (R = (laidV X.k (pickL X places), 0)) := by
          show _ = _
          have e : k = places.length := by omega
          have hq : places.any (outB X.nl.length) = false := noneG (by rw [← e]; exact unhide HN)
          rw [← unhide HR, pickV, if_neg (by rw [unhide HGG]; simp), if_neg (by rw [hq]; simp)]
        have ho' : OwnV wr w2.heap.size u7 (pickL X places) := ownV_len ho (List.take_of_length_le (by rw [hpp]; omega))
        obtain ⟨a7, c7, e7, hr7⟩ := ownV_row ho'
        subst e7
        have HC : Hid (Calls Try.prog 7 #[.int .i64 X.k, .slice a7 (pickL X places).length c7] wr fun e w' => ∃ q, e = .returned (.tuple #[vecV (laidV X.k (pickL X places)) q, .int .i64 0]) ∧ VecAt w' (laidV X.k (pickL X places)) q ∧ Fresh wr.heap.size q ∧ Below wr.heap.size wr w') := by
          have := rfrom_any a7 c7 X.k (pickL X places) wr (by rw [hpp]; omega) hr7
          rw [unhide HFR] at this
          exact this
        obtain ⟨r0, r1, r2, r3, _⟩ := box_facts (rowIs_later (unhide HR2) hb)
        have HV := hide (rowIs_later (unhide HV2) hb)
        have hzr : w.heap.size + 1 < wr.heap.size := (unhide HV).lt
        clear ho ho' hb hB hr7 hlen hpp
        go_wp2_with (go_at_call 7; refine (unhide HC).mono ?_; rintro e w2 ⟨q, rfl, hv2, hq2, hb2⟩; rw [vecV_open]; obtain ⟨s0, s1, s2, s3, f0, f1, f2, f3⟩ := box_facts (rowIs_later (unhide HV) hb2))
        refine bodyPost_ret (v := .tuple #[vecV (laidV X.k (pickL X places)) q, .int .i64 0]) (by simp [results, Try.results22, go_sem, vecV, *]) rfl ?_
        rw [unhide HE]
        exact ⟨q, rfl, hv2.setO4 hq2 hzr _ _ _ _, hq2.less (by omega), below_set4' (below_step (unhide HBB) hb2) _ _ _ _⟩
end Go.Proofs.Ytifohbapfciniab

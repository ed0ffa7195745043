import Derived.Test.YtgmfbjehdcdioaaOgD
import Derived.Test.YtgmfbjehdcdioaaOfZ
set_option linter.unusedSimpArgs false
set_option linter.unusedVariables false
set_option maxRecDepth 100000
namespace Go.Proofs.Ytgmfbjehdcdioaa
open Go.RowKit Go.Sort

theorem merge_nil (w : World) (b : Nat) : Calls Try.prog 6 #[.pointer (some ⟨b, 0, none⟩), .pointer none] w fun e w' => e = .returned (.int .i64 1) ∧ Below w.heap.size w w' := by
  go_enter Try.func6, Try.ntmps6
  go_upto_region 1 with fail
  refine wp_region_quiet_below (by kernel_rfl) (by kernel_rfl) ?_
  repeat (go_big_quiet_step (fail))
  refine wpQuiet_nil ?_
  intro w' hw'
  have hB : Below w.heap.size w w' := by obtain ⟨p, rfl⟩ := hw'; exact below_regrown _ _ _
  clear hw'
  go_wp2
  go_ret
  exact ⟨rfl, hB⟩

theorem TgS.base {w W w2 : World} {T : Value} {m : Nat} {G : Nat → Nat × Cn} {l : List (Ct Vk)} (h : TgS W w2 T m G l) (hW : Below w.heap.size w W) : TgS w w2 T m G l := by
  have hwW := hW.size
  refine ⟨⟨h.own.1, ?_⟩, h.ctr, fun i hi => Nat.le_trans hwW (h.new i hi), h.nod, hW.trans (h.bel.mono hwW), h.lst⟩
  rcases h.own.2 with h2 | ⟨g, cap, cur, h3, h4, h5⟩
  · exact .inl h2
  · exact .inr ⟨g, cap, cur, h3, Nat.le_trans hwW h4, h5⟩
theorem MgS.of {w w3 : World} {T : Value} {m fl bx : Nat} {G : Nat → Nat × Cn} {l : List (Ct Vk)} {F : Nat → Value} (h : TgS w w3 T m G l) (hbx : w3.rowIs bx 2 1 F) (hn : w.heap.size ≤ bx) {c : Int} (hc : c = (fl : Int)) : MgS w (w3.setCell ⟨bx, 0, none⟩ (.int .i64 c)) T m G bx fl := by
  subst hc
  have hT : T.ownBlock ≠ some bx := fun e => own_ne hbx h.own (by decide) e.symm
  have hG : ∀ i, i < m → (G i).1 ≠ bx := fun i hi e => by
    obtain ⟨c, hc, _⟩ := h.ctr i hi
    obtain ⟨c', hc', _⟩ := hbx
    rw [e, hc'] at hc
    simp at hc
  refine ⟨own_setO h.own (a := ⟨bx, 0, none⟩) hT _, fun i hi => (h.ctr i hi).setOther (a := ⟨bx, 0, none⟩) (hG i hi) _, h.new, h.nod, ?_, hn, h.bel.setCell (by exact hn) _⟩
  refine (hbx.set 0 _).congr fun i hi => ?_
  match i, hi with
  | 0, _ => rfl
theorem tog_len {α : Type} [DecidableEq α] (fo fp : Nat) (cs ds : List (Ct α)) : (togL fo fp cs ds).length ≤ cs.length + ds.length := by
  unfold togL
  rw [List.length_append, List.length_map, List.length_map]
  have := List.length_filter_le (fun d => !cs.any fun c => decide (c.v = d.v)) ds
  omega
theorem cts_len (E : Nat → Nat × Cn) (n : Nat) : (cts E n).length = n := by unfold cts; rw [List.length_map, lisE_len]

/-- What Merge answers. -/
def MrA (w : World) (bo k : Nat) (xs ys : List (Vk × Nat)) (e : Ending) (w' : World) : Prop :=
  (4611686018427387904 < tot xs + tot ys ∧ e = .returned (.int .i64 3) ∧ Below w.heap.size w w') ∨ (tot xs + tot ys ≤ 4611686018427387904 ∧ e = .returned (.int .i64 0) ∧ MgA w bo k (xs ++ ys) w')

set_option maxHeartbeats 4000000 in
theorem merge_any {w : World} {bo bp k : Nat} {Fo Fp : Ft} {xs ys : List (Vk × Nat)} (ho : SkO w bo k Fo xs) (hp : SkO w bp k Fp ys) (hk : k ≤ 1024) :
    Calls Try.prog 6 #[.pointer (some ⟨bo, 0, none⟩), .pointer (some ⟨bp, 0, none⟩)] w fun e w' => MrA w bo k xs ys e w' := by
  obtain ⟨⟨fo, Lo, hO, hLO, hno⟩, hto⟩ := ho
  obtain ⟨⟨fp, Lp, hP, hLP, hnp⟩, htp⟩ := hp
  obtain ⟨mo, So, no, Eo⟩ := Fo
  obtain ⟨mp, Sp, np, Ep⟩ := Fp
  dsimp only at hO hLO hno hP hLP hnp
  obtain ⟨c0, c1, c2, _, _, _⟩ := hO.facts
  obtain ⟨d0, d1, d2, _, _, _⟩ := hP.facts
  obtain ⟨To, hTo⟩ : ∃ To, tot xs = To := ⟨_, rfl⟩
  obtain ⟨Tp, hTp⟩ : ∃ Tp, tot ys = Tp := ⟨_, rfl⟩
  rw [hTo] at c1 hto
  rw [hTp] at d1 htp
  have HTG : Hid (tot xs + tot ys ≤ 4611686018427387904 → ∀ W, Below w.heap.size w W → Calls Try.prog 16 #[.pointer (some ⟨bo, 0, none⟩), .pointer (some ⟨bp, 0, none⟩)] W fun e w' => ∃ T m G, e = .returned T ∧ Hid (TgS w w' T m G (togL fo fp (cts Eo no) (cts Ep np))) ∧ Hid (Below W.heap.size W w')) := fun ht W hW => by
    have hO' : Of W bo k (tot xs) fo mo So no Eo Lo := ⟨hO.box.of_block (hW.block _ hO.box.lt), hO.qu.keep (hW.block _ hO.box.lt) fun q hq => hW.block q (by
        rcases hq with hq | ⟨i, hi, rfl⟩
        · exact (hO.qu.lst.lt q hq).2
        · exact (hO.qu.ctr i hi).lt), hO.ne, by
        obtain ⟨es, clk, hh, he⟩ := hO.map
        exact ⟨es, clk, by rw [hW.block mo (Array.getElem?_eq_some_iff.1 hh).1]; exact hh, he⟩, hO.same, hO.heap⟩
    have hP' : Of W bp k (tot ys) fp mp Sp np Ep Lp := ⟨hP.box.of_block (hW.block _ hP.box.lt), hP.qu.keep (hW.block _ hP.box.lt) fun q hq => hW.block q (by
        rcases hq with hq | ⟨i, hi, rfl⟩
        · exact (hP.qu.lst.lt q hq).2
        · exact (hP.qu.ctr i hi).lt), hP.ne, by
        obtain ⟨es, clk, hh, he⟩ := hP.map
        exact ⟨es, clk, by rw [hW.block mp (Array.getElem?_eq_some_iff.1 hh).1]; exact hh, he⟩, hP.same, hP.heap⟩
    refine (together_any hO' hLO hP' hLP (by omega) (by omega) ht).mono ?_
    rintro e w' ⟨T, m, G, rfl, h1⟩
    exact ⟨T, m, G, rfl, h1.base hW, h1.bel⟩
  have HOF := hide hO
  have HL := hide (hLO.merge hLP)
  have hfo := hLO.fl_le
  have hfp := hLP.fl_le
  rw [hTo] at hfo
  rw [hTp] at hfp
  have HTT : Hid (tot (xs ++ ys) = To + Tp) := by show _ = _; rw [tot_app, hTo, hTp]
  have hbl := hO.box.lt
  have f1 := fun (W : World) (hW : Below w.heap.size w W) => (hO.box.of_block (hW.block _ hO.box.lt) : W.rowIs bo 54 5 _).frozen 1
  have F1 := hide f1
  have f2 := fun (W : World) (hW : Below w.heap.size w W) => (hO.box.of_block (hW.block _ hO.box.lt) : W.rowIs bo 54 5 _).frozen 2
  have F2 := hide f2
  clear f1 f2 hO hP hLO hLP
  rw [hTo, hTp] at HTG
  unfold MrA
  rw [hTo, hTp]
  clear hTo hTp
  have hTo0 : (To : Int) ≤ 4611686018427387904 := by omega
  have hTp0 : (Tp : Int) ≤ 4611686018427387904 := by omega
  go_enter Try.func6, Try.ntmps6
  go_upto_region 1 with fail
  go_cut [20] (fun s20 wc => s20 = .bool false ∧ Hid (Below w.heap.size w wc))
  case first =>
    have k0 := cell_regrown c0
    have k1 := cell_regrown d0
    refine wp_region_quiet_below (by kernel_rfl) (by kernel_rfl) ?_
    repeat (go_big_quiet_step (fail))
    refine wpQuiet_nil ?_
    intro w' hw'
    have HB : Hid (Below w.heap.size w w') := by obtain ⟨p, rfl⟩ := hw'; exact below_regrown _ _ _
    clear hw' k0 k1
    go_wp2
    go_meet
    exact ⟨rfl, HB⟩
  case rest =>
  obtain ⟨rfl, HB⟩ := hcut
  have u1 := cell_later (unhide HB) c1
  have u2 := cell_later (unhide HB) d1
  obtain ⟨bb, hbb⟩ : ∃ bb, decide (4611686018427387904 - (To : Int) < (Tp : Int)) = bb := ⟨_, rfl⟩
  have HBB := hide hbb
  go_upto_region 3 with fail
  go_cut [30] (fun s30 wd => s30 = .bool bb ∧ Hid (Below w.heap.size w wd))
  case first =>
    have k0 := cell_regrown u1
    have k1 := cell_regrown u2
    clear hbb
    refine wp_region_quiet_below (by kernel_rfl) (by kernel_rfl) ?_
    repeat (go_big_quiet_step (fail))
    refine wpQuiet_nil ?_
    intro w' hw'
    have HB3 : Hid (Below w.heap.size w w') := by obtain ⟨p, rfl⟩ := hw'; exact below_step (unhide HB) (below_regrown _ _ _)
    clear hw' k0 k1
    go_wp2
    go_meet
    exact ⟨by rw [← unhide HBB], HB3⟩
  case rest =>
  obtain ⟨rfl, HB3⟩ := hcut
  clear u1 u2 HB
  cases bb with
  | true =>
    have hlt : 4611686018427387904 < To + Tp := by simp at hbb; omega
    have HLT := hide hlt
    clear hlt hbb HBB
    go_wp2
    go_ret
    exact .inl ⟨unhide HLT, rfl, unhide HB3⟩
  | false =>
    have hle : To + Tp ≤ 4611686018427387904 := by simp at hbb; omega
    have HTG2 := hide (unhide HTG hle)
    have hadd : IntKind.i64.wrap ((fo : Int) + (fp : Int)) = (fo : Int) + (fp : Int) := by rw [IntKind.wrap_i64]; omega
    have HLE := hide hle
    clear hbb HBB HTG
    go_upto_region 5 with fail
    go_cut [5, 6] (fun s5 s6 we => ∃ T m G fb, s5 = T ∧ s6 = .pointer (some ⟨fb, 0, none⟩) ∧ Hid (MgS w we T m G fb (fo + fp) ∧ cts G m = togL fo fp (cts Eo no) (cts Ep np)))
    case first =>
      refine wp_region_noPanic ?_
      refine wp_region_G (S := fun w' : World => Below w.heap.size w w') (k := 14) (by kernel_rfl) ?_
      rename World => wq
      have SS : (fun w' : World => Below w.heap.size w w') wq.drew := (unhide HB3).drew
      change anyG _ _ _ _ _ _ _ _ _ wq.drew
      refine anyG_takel (i := 0) (v := (.pointer (some ⟨bo, 0, none⟩))) [2, 13, 14] rfl (by kernel_rfl) (by kernel_rfl) (by kernel_rfl) (by kernel_rfl) (fun _ _ _ h => h) (Or.inl ⟨by rfl, fun w' hSw => ?_⟩) SS ?_
      · dsimp only at hSw; go_simp
      try simp only [Act.put, List.setIfInBounds_toArray, List.set_cons_zero, List.set_cons_succ]
      refine anyG_takel (i := 1) (v := (.pointer (some ⟨bp, 0, none⟩))) [2, 13, 14] rfl (by kernel_rfl) (by kernel_rfl) (by kernel_rfl) (by kernel_rfl) (fun _ _ _ h => h) (Or.inl ⟨by rfl, fun w' hSw => ?_⟩) SS ?_
      · dsimp only at hSw; go_simp
      try simp only [Act.put, List.setIfInBounds_toArray, List.set_cons_zero, List.set_cons_succ]
      refine anyG_takel (i := 3) (v := (.pointer (some ⟨bo, 0, none⟩))) [4, 5, 6, 11, 14] rfl (by kernel_rfl) (by kernel_rfl) (by kernel_rfl) (by kernel_rfl) (fun _ _ _ h => h) (Or.inl ⟨by rfl, fun w' hSw => ?_⟩) SS ?_
      · dsimp only at hSw; go_simp
      try simp only [Act.put, List.setIfInBounds_toArray, List.set_cons_zero, List.set_cons_succ]
      refine anyG_takel (i := 4) (v := (.pointer (some ⟨bo, 0, none⟩))) [5, 6, 11, 14] rfl (by kernel_rfl) (by kernel_rfl) (by kernel_rfl) (by kernel_rfl) (fun _ _ _ h => h) (Or.inl ⟨by rfl, fun w' hSw => ?_⟩) SS ?_
      · dsimp only at hSw; go_simp
      try simp only [Act.put, List.setIfInBounds_toArray, List.set_cons_zero, List.set_cons_succ]
      refine anyG_takel (i := 5) (v := (.pointer (some ⟨bo, 2, none⟩))) [6, 11, 14] rfl (by kernel_rfl) (by kernel_rfl) (by kernel_rfl) (by kernel_rfl) (fun _ _ _ h => h) (Or.inl ⟨by rfl, fun w' hSw => ?_⟩) SS ?_
      · dsimp only at hSw; go_simp
      try simp only [Act.put, List.setIfInBounds_toArray, List.set_cons_zero, List.set_cons_succ]
      refine anyG_takel (i := 6) (v := (.int .i64 (fo : Int))) [11, 14] rfl (by kernel_rfl) (by kernel_rfl) (by kernel_rfl) (by kernel_rfl) (fun _ _ _ h => h) (Or.inl ⟨by rfl, fun w' hSw => ?_⟩) SS ?_
      · dsimp only at hSw; have z2 := cell_later hSw c2; go_simp
      try simp only [Act.put, List.setIfInBounds_toArray, List.set_cons_zero, List.set_cons_succ]
      refine anyG_takel (i := 7) (v := (.pointer (some ⟨bp, 0, none⟩))) [8, 9, 10, 11, 14] rfl (by kernel_rfl) (by kernel_rfl) (by kernel_rfl) (by kernel_rfl) (fun _ _ _ h => h) (Or.inl ⟨by rfl, fun w' hSw => ?_⟩) SS ?_
      · dsimp only at hSw; go_simp
      try simp only [Act.put, List.setIfInBounds_toArray, List.set_cons_zero, List.set_cons_succ]
      refine anyG_takel (i := 8) (v := (.pointer (some ⟨bp, 0, none⟩))) [9, 10, 11, 14] rfl (by kernel_rfl) (by kernel_rfl) (by kernel_rfl) (by kernel_rfl) (fun _ _ _ h => h) (Or.inl ⟨by rfl, fun w' hSw => ?_⟩) SS ?_
      · dsimp only at hSw; go_simp
      try simp only [Act.put, List.setIfInBounds_toArray, List.set_cons_zero, List.set_cons_succ]
      refine anyG_takel (i := 9) (v := (.pointer (some ⟨bp, 2, none⟩))) [10, 11, 14] rfl (by kernel_rfl) (by kernel_rfl) (by kernel_rfl) (by kernel_rfl) (fun _ _ _ h => h) (Or.inl ⟨by rfl, fun w' hSw => ?_⟩) SS ?_
      · dsimp only at hSw; go_simp
      try simp only [Act.put, List.setIfInBounds_toArray, List.set_cons_zero, List.set_cons_succ]
      refine anyG_takel (i := 10) (v := (.int .i64 (fp : Int))) [11, 14] rfl (by kernel_rfl) (by kernel_rfl) (by kernel_rfl) (by kernel_rfl) (fun _ _ _ h => h) (Or.inl ⟨by rfl, fun w' hSw => ?_⟩) SS ?_
      · dsimp only at hSw; have z2 := cell_later hSw d2; go_simp
      try simp only [Act.put, List.setIfInBounds_toArray, List.set_cons_zero, List.set_cons_succ]
      refine anyG_takel (i := 11) (v := (.int .i64 ((fo : Int) + (fp : Int)))) [14] rfl (by kernel_rfl) (by kernel_rfl) (by kernel_rfl) (by kernel_rfl) (fun _ _ _ h => h) (Or.inl ⟨by rfl, fun w' hSw => ?_⟩) SS ?_
      · dsimp only at hSw; go_simp
      try simp only [Act.put, List.setIfInBounds_toArray, List.set_cons_zero, List.set_cons_succ]

      refine anyG_many [2, 12] (by kernel_rfl) (by simp) fun z hz => ?_
      rcases List.mem_cons.1 hz with rfl | hz
      · refine wpOp_lit rfl (by rfl) fun K hK => ?_
        go_simp
        refine (unhide HTG2 _ SS).mono ?_
        rintro e w5 ⟨T, m, G, rfl, HT, HW5⟩
        go_simp
        have SS5 := (unhide HT).bel
        refine unhide hK _ _ ⟨fun _ => SS5, ?_⟩
        clear hK K
        refine anyG_one (i := 12) (by kernel_rfl) ?_
        refine wpOp_lit rfl (by rfl) fun K hK => ?_
        go_simp
        refine unhide hK _ _ ⟨fun _ => below_alloc SS5 _, ?_⟩
        clear hK K
        refine anyG_one (i := 13) (by kernel_rfl) ?_
        refine wpOp_lit rfl (by rfl) fun K hK => ?_
        go_simp
        refine unhide hK _ _ ⟨fun _ => below_alloc SS5 _, ?_⟩
        clear hK K
        refine anyG_one (i := 14) (by kernel_rfl) ?_
        refine wpOp_lit rfl (by rfl) fun K hK => ?_
        go_simp
        refine unhide hK _ _ ⟨fun hh => absurd hh (by decide), ?_⟩
        clear hK K
        refine anyG_done (by kernel_rfl) ?_ _
        refine NoPanic.normal ?_
        go_wp2
        go_meet
        exact ⟨T, m, G, w5.heap.size, rfl, rfl, by first | exact MgS.first (unhide HT) (by omega) | exact MgS.of ((unhide HT).later (below_alloc (Below.refl _ _) _)) (box1_alloc w5 (fl := 0) rfl) (unhide HT).bel.size (by omega), (unhide HT).lst⟩
      · rcases List.mem_cons.1 hz with rfl | hz
        · refine wpOp_lit rfl (by rfl) fun K hK => ?_
          go_simp
          refine unhide hK _ _ ⟨fun _ => by first | exact below_alloc SS _ | exact (below_alloc (unhide HB3) _).drew, ?_⟩
          clear hK K
          refine anyG_one (i := 2) (by kernel_rfl) ?_
          refine wpOp_lit rfl (by rfl) fun K hK => ?_
          go_simp
          refine (unhide HTG2 _ (by first | exact below_alloc SS _ | exact (below_alloc (unhide HB3) _).drew)).mono ?_
          rintro e w5 ⟨T, m, G, rfl, HT, HW5⟩
          go_simp
          have SS5 := (unhide HT).bel
          have HR5 : Hid (w5.rowIs wq.heap.size 2 1 (fun _ => .int .i64 ((0 : Nat) : Int))) := rowIs_later (rowIs_later (box1_alloc wq (fl := 0) rfl) (Below.refl _ _).drew) (unhide HW5)
          have q0 := (unhide HR5).cell (i := 0) (by omega)
          have q1 := (unhide HR5).frozen 0
          refine unhide hK _ _ ⟨fun _ => SS5, ?_⟩
          clear hK K
          refine anyG_one (i := 13) (by kernel_rfl) ?_
          refine wpOp_lit rfl (by rfl) fun K hK => ?_
          go_simp
          refine unhide hK _ _ ⟨fun _ => SS5, ?_⟩
          clear hK K
          refine anyG_one (i := 14) (by kernel_rfl) ?_
          refine wpOp_lit rfl (by rfl) fun K hK => ?_
          go_simp
          refine unhide hK _ _ ⟨fun hh => absurd hh (by decide), ?_⟩
          clear hK K
          refine anyG_done (by kernel_rfl) ?_ _
          refine NoPanic.normal ?_
          go_wp2
          go_meet
          exact ⟨T, m, G, wq.heap.size, rfl, rfl, MgS.of (unhide HT) (unhide HR5) (unhide HB3).size (by omega), (unhide HT).lst⟩
        · cases hz
    case rest =>
      obtain ⟨T, m, G, fb, rfl, rfl, HM⟩ := hcut
      obtain ⟨aT, cT, hT⟩ := (unhide HM).1.slice
      have hm2 : m ≤ 2048 := by
        have h1 := cts_len G m
        rw [(unhide HM).2] at h1
        have h2 := tog_len fo fp (cts Eo no) (cts Ep np)
        rw [cts_len, cts_len] at h2
        omega
      have HSO := hide (psort_any (unhide HM).1.own (fun i hi => (unhide HM).1.high hi) (unhide HM).1.ne.1 (by omega))
      have HKE : Hid (∀ wf T n E fl, MgS w wf T n E fb fl → Loose k fl (cts E n) (xs ++ ys) → n ≤ k → Heap n (keyE E) → ∀ W (c : Int), c = ((To + Tp : Nat) : Int) → Below ((wf.setCell ⟨bo, 1, none⟩ (.int .i64 c)).setCell ⟨bo, 2, none⟩ (.int .i64 fl)).heap.size ((wf.setCell ⟨bo, 1, none⟩ (.int .i64 c)).setCell ⟨bo, 2, none⟩ (.int .i64 fl)) W → Calls Try.prog 22 #[.pointer (some ⟨bo, 0, none⟩), T] W fun e w' => e = .returned (.tuple #[]) ∧ MgA w bo k (xs ++ ys) w') := fun wf T n E fl h1 h2 h3 h4 W c hc h5 => by
        subst hc
        exact merge_end (unhide HOF) h1 h2 h3 hk h4 (unhide HTT) hle h5
      have HFA : Hid (∀ wf T n E fl, MgS w wf T n E fb fl → wf.cell? ⟨bo, 1, none⟩ = some (.int .i64 To) ∧ wf.cell? ⟨bp, 1, none⟩ = some (.int .i64 Tp) ∧ wf.cell? ⟨bo, 2, none⟩ = some (.int .i64 fo) ∧ wf.cell? ⟨fb, 0, none⟩ = some (.int .i64 fl) ∧ wf.frozen? ⟨bo, 1, none⟩ = false ∧ wf.frozen? ⟨bo, 2, none⟩ = false ∧ wf.cell? ⟨bo, 0, none⟩ = some (.int .i64 k)) := fun wf T n E fl h =>
        ⟨cell_later h.bel c1, cell_later h.bel d1, cell_later h.bel c2, h.floor.1, unhide F1 wf h.bel, unhide F2 wf h.bel, cell_later h.bel c0⟩
      have hbf : ¬ bo = fb := by have := (unhide HM).1.fnew; omega
      have hbf' : ¬ fb = bo := fun e => hbf e.symm
      have hadd2 : IntKind.i64.wrap ((To : Int) + (Tp : Int)) = (To : Int) + (Tp : Int) := by rw [IntKind.wrap_i64]; omega
      have hToTp : (To : Int) + (Tp : Int) ≤ 4611686018427387904 := by omega
      clear c0 c1 c2 d0 d1 d2
      subst hT
      go_upto_region 7 with (go_at_call 17; refine (unhide HSO).mono ?_; rintro _ w4 ⟨rfl, σ, hs⟩; replace hs := hide hs)
      have HM4 := hide ((unhide HM).1.sorted (unhide hs))
      have hperm : (togL fo fp (cts Eo no) (cts Ep np)).Perm (cts (fun i => G (σ i)) m) := by
        rw [← (unhide HM).2]
        exact ((unhide hs).perm.map ctOf).symm
      have HL4 := hide ((unhide HL).perm hperm)
      have HRI := hide (unhide hs).rises
      clear hperm HSO
      obtain ⟨F, hF⟩ : ∃ F : Nat → Nat × Cn, (fun i => G (σ i)) = F := ⟨_, rfl⟩
      have HRI2 : Hid (∀ i j, i < j → j < m → (F i).2.hi ≤ (F j).2.hi) := by rw [← hF]; exact unhide HRI
      rw [hF] at HM4 HL4
      clear hF HRI hs HM
      obtain ⟨y1, y2, y3, y4, y5, y6, y0⟩ := unhide HFA _ _ _ _ _ (unhide HM4)
      by_cases hmk : m ≤ k
      · have i1 : ¬ (0 : Int) < (m : Int) - (k : Int) := by omega
        have HKF := hide (unhide HKE w4 _ m F (fo + fp) (unhide HM4) (unhide HL4) hmk (heap_rises (unhide HRI2)))
        clear HKE HFA
        go_upto_region 11 with fail
        go_region_law (fail)
        all_goals
          go_wp2_with (go_at_call 22; refine (unhide HKF _ _ (by first | omega | (rw [IntKind.wrap_i64]; omega)) (Below.refl _ _).drew).mono ?_; rintro _ w9 ⟨rfl, HR⟩; replace HR := hide HR)
          go_ret
          exact .inr ⟨unhide HLE, rfl, unhide HR⟩
      · obtain ⟨s1, hs1⟩ : ∃ s1, m = k + (s1 + 1) := ⟨m - k - 1, by omega⟩
        obtain ⟨g, hT2⟩ : ∃ g, aT = some ⟨g, 0, none⟩ := by
          rcases (unhide HM4).own.2 with ⟨_, h0⟩ | ⟨g, cap, cur, e, _⟩
          · omega
          · injection e with e1 _ _; exact ⟨g, e1⟩
        subst hT2
        obtain ⟨fl, hfl⟩ : ∃ fl, (F s1).2.hi = fl := ⟨_, rfl⟩
        obtain ⟨d, hdm, hlow, hhigh⟩ := cut_ex (fun i => (F i).2.hi) fl m (unhide HRI2)
        have hsd : s1 < d := by
          rcases Nat.lt_or_ge s1 d with h | h
          · exact h
          · have h9 : fl < (F s1).2.hi := hhigh s1 h (by omega)
            omega
        have e0 := own_cell (unhide HM4).own (ptrs_at F (show s1 < m by omega))
        have e1 := (unhide HM4).high (show s1 < m by omega)
        simp only [pv] at e0
        rw [hfl] at e1
        have hab := (unhide HL4).above (ctOf (F s1)) (cts_mem (by omega))
        have hab2 : fo + fp < fl := by rw [← hfl]; exact hab
        have HM9 := hide ((unhide HM4).raised (f' := fl))
        have HDL := hide (delete20 (unhide HM9).own (fun i hi => (unhide HM9).high hi) (fun i hi e => (unhide HM9).ne.1 i hi (by rw [e]; rfl)) (unhide HM9).floor.1 (fun e => (unhide HM9).ne.2.1 (by rw [e]; rfl)) (show 1 ≤ d by omega) hdm hlow hhigh (by omega))
        have HLM : Hid (Loose k fl (cts (fun i => F (i + d)) (m - d)) (xs ++ ys)) := by
          rw [← cts_cut F hdm hlow hhigh]
          refine (unhide HL4).raise (by omega) ?_
          have := cts_many F (s := s1) (m := m) (fl := fl) (by omega) fun i hi hi' => by
            by_cases e : i = s1
            · rw [e, hfl]; exact Nat.le_refl _
            · have := unhide HRI2 s1 i (by omega) hi'
              rw [hfl] at this; exact this
          omega
        have HKM : Hid (∀ w5 e, DlA (w4.setCell ⟨fb, 0, none⟩ (.int .i64 fl)) w.heap.size g cT m F d e w5 → MgS w w5 (.slice (some ⟨g, 0, none⟩) (m - d) cT) (m - d) (fun i => F (i + d)) fb fl ∧ ∀ W (c : Int), c = ((To + Tp : Nat) : Int) → Below ((w5.setCell ⟨bo, 1, none⟩ (.int .i64 c)).setCell ⟨bo, 2, none⟩ (.int .i64 fl)).heap.size ((w5.setCell ⟨bo, 1, none⟩ (.int .i64 c)).setCell ⟨bo, 2, none⟩ (.int .i64 fl)) W → Calls Try.prog 22 #[.pointer (some ⟨bo, 0, none⟩), .slice (some ⟨g, 0, none⟩) (m - d) cT] W fun e w' => e = .returned (.tuple #[]) ∧ MgA w bo k (xs ++ ys) w') := fun w5 e hd => by
          have h1 := (unhide HM9).cut hd
          exact ⟨h1, unhide HKE w5 _ (m - d) (fun i => F (i + d)) fl h1 (unhide HLM) (by omega) (heap_rises fun i j hij hj => unhide HRI2 _ _ (by omega) (by omega))⟩
        obtain ⟨s, hs⟩ : ∃ s : Nat, s = s1 + 1 := ⟨_, rfl⟩
        have i1 : (m : Int) - (k : Int) = (s : Int) := by omega
        have i2 : (s : Int) - 1 = (s1 : Int) := by omega
        have i3 : (0 : Int) < (s : Int) := by omega
        have i4 : (s1 : Int) < (m : Int) := by omega
        have y7 := (unhide HM4).floor.2
        obtain ⟨p, hp⟩ : ∃ p, (F s1).1 = p := ⟨_, rfl⟩
        rw [hp] at e0 e1
        clear HKE hs hs1 hlow hhigh hab hab2 hfl hp hsd HLM
        go_upto_region 11 with (go_at_call 20; refine (unhide HDL).mono ?_; rintro e w5 hd; have he := hd.1; subst he; obtain ⟨q1, q2⟩ := unhide HKM w5 _ hd; clear y1 y2 y3 y4 y5 y6 y0 y7 e0 e1; obtain ⟨y1, y2, y3, y4, y5, y6, y0⟩ := unhide HFA _ _ _ _ _ q1; replace q1 := hide q1; replace q2 := hide q2; clear hd)
        go_region_law (fail)
        all_goals
          go_wp2_with (go_at_call 22; refine (unhide q2 _ _ (by first | omega | (rw [IntKind.wrap_i64]; omega)) (Below.refl _ _).drew).mono ?_; rintro _ w9 ⟨rfl, HR⟩; replace HR := hide HR)
          go_ret
          exact .inr ⟨unhide HLE, rfl, unhide HR⟩
end Go.Proofs.Ytgmfbjehdcdioaa

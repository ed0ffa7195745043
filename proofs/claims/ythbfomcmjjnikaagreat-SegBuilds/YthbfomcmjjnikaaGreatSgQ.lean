import Derived.Test.YthbfomcmjjnikaaGreatSgN
set_option linter.unusedSimpArgs false
set_option linter.unusedVariables false
namespace Go.Proofs.YthbfomcmjjnikaaGreat
open Go.RowKit Go.Sort

theorem conv_one {W : World} {B : Nat} {n : Int} (h : W.cell? ⟨B, 0, none⟩ = some (.int .u8 n)) : (convert 71 9 (.slice (some ⟨B, 0, none⟩) 1 1)).run Tryz.prog W = .ok (.string (toB [n])) W := by
  rw [run_convert_bytes_string W 71 9 5 _ _ _ Tryz.underlying71 Tryz.underlying5 Tryz.underlying9]
  refine run_bytesToString W _ _ _ [n] ?_
  have := run_loadCells_list (P := Tryz.prog) (w := W) ⟨B, 0, none⟩ [.int .u8 n] (fun j v hv => by
    match j, hv with
    | 0, hv => simp at hv; subst hv; simpa [Addr.add] using h
    | j + 1, hv => simp at hv)
  simpa using this
set_option maxHeartbeats 8000000 in
set_option maxRecDepth 100000 in
theorem rbuild_b (K : Vc → ByteArray → Prop) (zf : Vc → ByteArray) (ps : List (ByteArray × ByteArray)) (kinds : List Int) (ak : Option Addr) (ck : Nat) (rs : List (List Val)) (ar : Option Addr) (cr : Nat) (w : World) (hk1 : 1 ≤ kinds.length) (hk2 : kinds.length ≤ 32) (hk : okKB kinds = true) (hl : rs.length ≤ 140737488355328) (hlr : ∀ r ∈ rs, r.length ≤ 140737488355328)
    (hak : LisAt w ak (kinds.map (Value.int .i64))) (har : RowsAt w ar rs)
    (hQ : loM rs = false → odM kinds rs = false → PsX K zf kinds.length (fun i => (colX kinds rs i).1) ps ∧ ∀ i, i < kinds.length → RLaw K zf (colX kinds rs i).1) :
    Calls Tryz.prog 6 #[.slice ak kinds.length ck, .slice ar rs.length cr] w fun e w' => e = .returned (if loM rs then .tuple #[.string ⟨#[]⟩, .int .i64 3] else if odM kinds rs then .tuple #[.string ⟨#[]⟩, .int .i64 4] else .tuple #[.string (segB kinds.length rs.length ps), .int .i64 0]) ∧ Below w.heap.size w w' := by
  obtain ⟨R, hR⟩ : ∃ R, (if loM rs then Value.tuple #[.string ⟨#[]⟩, .int .i64 3] else if odM kinds rs then .tuple #[.string ⟨#[]⟩, .int .i64 4] else .tuple #[.string (segB kinds.length rs.length ps), .int .i64 0]) = R := ⟨_, rfl⟩
  rw [hR]
  have HRR := hide hR
  have HQ := hide hQ
  clear hR hQ
  have HK := kindsOK_any kinds ak ck w (by omega) hak
  unfold okKB at hk
  rw [hk] at HK
  have HK2 := hide HK
  have HAK := hide hak
  have HAR := hide har
  have HLR := hide hlr
  clear HK hak har hlr hk
  go_enter Tryz.func6, Tryz.ntmps6
  go_wp2_with (first | (go_at_call 30; refine (unhide HK2).mono ?_; rintro _ w0 ⟨rfl, hw0⟩; rw [hw0]; clear hw0))
  go_loopw [6, 7, 30] (fun od lo s wr => ∃ (j : Nat) (o l : Bool), s = .int .i64 (j : Int) ∧ j ≤ rs.length ∧ od = .bool o ∧ lo = .bool l ∧ Hid (Marks kinds rs j l o) ∧ Below w.heap.size w wr) (fun _ _ s _ => rs.length - (intOf s).toNat)
  case atStart => exact ⟨0, false, decide (4096 < (rs.length : Int)), rfl, by omega, rfl, rfl, ⟨by simp, by simp⟩, Below.refl _ _⟩
  case round =>
    obtain ⟨j, o, l, rfl, hj, rfl, rfl, HM, hb⟩ := hrel
    by_cases h7 : j < rs.length
    · have i7 : (j : Int) < (rs.length : Int) := by omega
      obtain ⟨r, hr⟩ : ∃ r, rs[j]? = some r := ⟨_, List.getElem?_eq_getElem h7⟩
      obtain ⟨rb, ro, rfl, ra, rc, c0, hra⟩ := rows_get ((unhide HAR).later hb) hr
      have hrl := unhide HLR r (List.mem_of_getElem? hr)
      have HRA := hide hra
      have HR := hide hr
      have HBW := hide hb
      obtain ⟨o1, ho1⟩ : ∃ o1, (o || ((r.length : Int) != (kinds.length : Int))) = o1 := ⟨_, rfl⟩
      have HO1 := hide ho1
      clear hra hr hb ho1
      go_upto_region 8 with fail
      go_cut [6] (fun s wz => s = .bool o1 ∧ wz = wr)
      case first =>
        cases o
        · go_wp2
          go_meet
          exact ⟨congrArg Value.bool (by simpa using unhide HO1), rfl⟩
        · go_wp2
          go_meet
          exact ⟨congrArg Value.bool (by simpa using unhide HO1), rfl⟩
      case rest =>
        obtain ⟨rfl, hwc⟩ := hcut
        rename World => wc
        rw [hwc]
        clear hwc
        go_wp2
        obtain ⟨W1, rfl⟩ : ∃ W1, W1 = wr := ⟨_, rfl⟩
        go_loopw [6, 7, 44] (fun od lo s wr => ∃ (i : Nat) (o' l' : Bool), s = .int .i64 (i : Int) ∧ i ≤ r.length ∧ od = .bool o' ∧ lo = .bool l' ∧ Hid (o' = (o1 || odR kinds r i)) ∧ Hid (l' = (l || (r.take i).any lgV)) ∧ Below W1.heap.size W1 wr) (fun _ _ s _ => r.length - (intOf s).toNat)
        case atStart => exact ⟨0, o1, l, rfl, by omega, rfl, rfl, by show _ = _; simp [odR], by show _ = _; simp, Below.refl _ _⟩
        case round =>
          obtain ⟨i, o', l', rfl, hi, rfl, rfl, HO, HL, hb⟩ := hrel
          by_cases h8 : i < r.length
          · have i8 : (i : Int) < (r.length : Int) := by omega
            obtain ⟨x, hx⟩ : ∃ x, r[i]? = some x := ⟨_, List.getElem?_eq_getElem h8⟩
            obtain ⟨rb2, ro2, rfl, d0, d1, d2⟩ := row_get ((unhide HRA).later hb) hx
            have HX := hide hx
            have HB := hide hb
            have HKC : Hid (∀ kd, kinds[i]? = some kd → ∃ vb vo, ak = some ⟨vb, vo, none⟩ ∧ ∀ W, Below wr.heap.size wr W → W.cell? ⟨vb, vo + i, none⟩ = some (.int .i64 kd)) := fun kd hkd => by
              obtain ⟨vb, vo, e, q0⟩ := lis_get ((unhide HAK).later ((unhide HBW).trans (hb.mono (unhide HBW).size))) (show (kinds.map (Value.int .i64))[i]? = some (.int .i64 kd) by simp [hkd])
              exact ⟨vb, vo, e, fun W hW => cell_later hW q0⟩
            clear hx hb
            have HBX : Hid (∀ w1, Below (wr.alloc (.cells #[.int .i64 x.k, .int .i64 x.n, .string x.s] 59)).heap.size (wr.alloc (.cells #[.int .i64 x.k, .int .i64 x.n, .string x.s] 59)) w1 → (w1.cell? ⟨wr.heap.size, 0, none⟩ = some (.int .i64 x.k) ∧ w1.cell? ⟨wr.heap.size, 1, none⟩ = some (.int .i64 x.n) ∧ w1.cell? ⟨wr.heap.size, 2, none⟩ = some (.string x.s)) ∧ w1.frozen? ⟨wr.heap.size, 0, none⟩ = false ∧ w1.frozen? ⟨wr.heap.size, 1, none⟩ = false ∧ w1.frozen? ⟨wr.heap.size, 2, none⟩ = false) := fun w1 h1 =>
              ⟨⟨cell_later h1 (by simp [go_sem]), cell_later h1 (by simp [go_sem]), cell_later h1 (by simp [go_sem])⟩, (h1.frozen (p := ⟨wr.heap.size, 0, none⟩) (by simp)).trans (by simp [go_sem]), (h1.frozen (p := ⟨wr.heap.size, 1, none⟩) (by simp)).trans (by simp [go_sem]), (h1.frozen (p := ⟨wr.heap.size, 2, none⟩) (by simp)).trans (by simp [go_sem])⟩
            go_upto_region 13 with (first | (go_at_call 31; refine (rclean_any x _).mono ?_; rintro _ w1 ⟨rfl, hb1⟩; rw [Val.open_]; obtain ⟨⟨b0, b1, b2⟩, f0, f1, f2⟩ := unhide HBX w1 hb1))
            refine enter_with (fun W => (W.cell? ⟨wr.heap.size, 0, none⟩ = some (.int .i64 (cleanV x).k) ∧ W.cell? ⟨wr.heap.size, 2, none⟩ = some (.string (cleanV x).s)) ∧ Below wr.heap.size wr W) ⟨⟨by simp [go_sem, b0, b1, b2], by simp [go_sem, b0, b1, b2]⟩, (((below_one hb1).setCell (Nat.le_refl _) _).setCell (Nat.le_refl _) _).setCell (Nat.le_refl _) _⟩ ?_
            clear hb1 b0 b1 b2 f0 f1 f2 HBX
            rintro W ⟨⟨b0, b2⟩, hbW⟩
            obtain ⟨y, hy⟩ : ∃ y, cleanV x = y := ⟨_, rfl⟩
            rw [hy] at b0 b2
            have HY := hide hy
            clear hy d0 d1 d2
            obtain ⟨l1, hl1⟩ : ∃ l1, (l' || decide (1000 < (y.s.size : Int))) = l1 := ⟨_, rfl⟩
            have HL1 := hide hl1
            have HL2 : Hid (l1 = (l || (r.take (i + 1)).any lgV)) := by
              show _ = _
              rw [← hl1, any_take lgV (unhide HX), ← Bool.or_assoc, ← unhide HL, lgV, unhide HY]
            have HO2 : Hid ((o' || (decide (i < kinds.length) && (y.k != 0 && y.k != kinds.getD i 0))) = (o1 || odR kinds r (i + 1))) := by
              show _ = _
              rw [odR_succ kinds r i (unhide HX), ← Bool.or_assoc, ← unhide HO, odV, unhide HY]
            clear hl1 HL HO
            go_cut [7] (fun s wz => s = .bool l1 ∧ wz = W)
            case first =>
              cases l'
              · go_wp2
                go_meet
                exact ⟨congrArg Value.bool (by simpa using unhide HL1), rfl⟩
              · go_wp2
                go_meet
                exact ⟨congrArg Value.bool (by simpa using unhide HL1), rfl⟩
            case rest =>
              obtain ⟨rfl, hwc⟩ := hcut
              rename World => wc
              rw [hwc]
              clear hwc HL1
              cases o'
              · by_cases hn : i < kinds.length
                · have i9 : (i : Int) < (kinds.length : Int) := by omega
                  obtain ⟨kd, hkd⟩ : ∃ kd, kinds[i]? = some kd := ⟨_, List.getElem?_eq_getElem hn⟩
                  obtain ⟨vb, vo, rfl, q0⟩ := unhide HKC kd hkd
                  replace q0 := q0 W hbW
                  have HKD : Hid (kinds.getD i 0 = kd) := by show _ = _; simp [hkd]
                  clear hkd
                  cases hz : (y.k != 0)
                  · go_wp2
                    go_region
                    go_wp2
                    exact ⟨⟨i + 1, _, l1, by go_num, by omega, rfl, rfl, by show _ = _; rw [← unhide HO2]; simp [hz], unhide HL2, below_step (unhide HB) hbW.drew⟩, by simp [intOf]; omega⟩
                  · go_wp2
                    go_region
                    go_wp2
                    exact ⟨⟨i + 1, _, l1, by go_num, by omega, rfl, rfl, by show _ = _; rw [← unhide HO2, unhide HKD]; simp [hn, hz], unhide HL2, below_step (unhide HB) hbW.drew⟩, by simp [intOf]; omega⟩
                · have i9 : ¬ (i : Int) < (kinds.length : Int) := by omega
                  go_wp2
                  go_region
                  go_wp2
                  exact ⟨⟨i + 1, _, l1, by go_num, by omega, rfl, rfl, by show _ = _; rw [← unhide HO2]; simp [hn], unhide HL2, below_step (unhide HB) hbW.drew⟩, by simp [intOf]; omega⟩
              · go_wp2
                go_region
                go_wp2
                exact ⟨⟨i + 1, _, l1, by go_num, by omega, rfl, rfl, by show _ = _; rw [← unhide HO2]; simp, unhide HL2, below_step (unhide HB) hbW.drew⟩, by simp [intOf]; omega⟩
          · have i8 : ¬ (i : Int) < (r.length : Int) := by omega
            have HM2 : Hid (Marks kinds rs (j + 1) l' o') := by
              have hil : i = r.length := by omega
              refine ⟨?_, ?_⟩
              · rw [any_take _ (unhide HR), ← Bool.or_assoc, ← (unhide HM).lo, unhide HL, hil, List.take_length]
              · rw [any_take _ (unhide HR), ← (unhide HM).od, unhide HO, ← unhide HO1, hil, odA, Bool.or_assoc]
            have HBB := hide (below_step (unhide HBW) hb)
            clear HL HO
            go_wp2
            exact ⟨⟨j + 1, o', l', by go_num, by omega, rfl, rfl, HM2, unhide HBB⟩, by simp [intOf]; omega⟩
    · have i7 : ¬ (j : Int) < (rs.length : Int) := by omega
      have hjn : j = rs.length := by omega
      have hl' : l = loM rs := by rw [(unhide HM).lo, hjn, List.take_length]; rfl
      have ho' : o = odM kinds rs := by rw [(unhide HM).od, hjn, List.take_length]; rfl
      have HLO := hide hl'
      have HOD := hide ho'
      clear HM hjn hl' ho'
      cases l
      · cases o
        · obtain ⟨hPS, hRL⟩ := unhide HQ (unhide HLO).symm (unhide HOD).symm
          have HRE : Hid (R = .tuple #[.string (segB kinds.length rs.length ps), .int .i64 0]) := by show _ = _; rw [← unhide HRR, ← unhide HLO, ← unhide HOD]; rfl
          have hr4 : rs.length ≤ 4096 := by
            have := (unhide HLO).symm
            simp [loM] at this
            omega
          have HLN : Hid (∀ r ∈ rs, r.length = kinds.length) := fun r hr => by
            have := List.any_eq_false.1 (unhide HOD).symm r hr
            simp [odA] at this
            omega
          have HPS := hide hPS
          have HRL := hide hRL
          clear hPS hRL HRR HQ HLO HOD HK2
          go_upto_region 21 with fail
          have hwr4 : IntKind.u64.wrap (rs.length : Int) = (rs.length : Int) := by rw [IntKind.wrap_u64, Int.emod_eq_of_lt (by omega) (by omega)]
          have hw8 : IntKind.u8.wrap (kinds.length : Int) = (kinds.length : Int) := by rw [IntKind.wrap_u8']; omega
          have hb32 : Hid (∀ W, Calls Tryz.prog 32 #[.int .u64 (rs.length : Int), .int .i64 4] W fun e w' => e = .returned (.string (toB (beL (rs.length : Int) 4 4))) ∧ Below W.heap.size W w') := fun W => rbytes_any (rs.length : Int) 4 W (by omega)
          have hcell : Hid (∀ w1 : World, (w1.alloc (.cells #[.int .u8 (kinds.length : Int)] 5)).cell? ⟨w1.heap.size, 0, none⟩ = some (.int .u8 (kinds.length : Int))) := fun w1 => by have := heap_alloc_last w1 (.cells #[.int .u8 (kinds.length : Int)] 5); rw [cell_of_row _ _ 0 _ 5 (0, 0) this]; rfl
          have hfr : Hid (⟨#[83, 49]⟩ ++ toB [(kinds.length : Int)] ++ toB (beL (rs.length : Int) 4 4) = toB (frontL kinds.length rs.length)) := by
            show _ = _
            have e1 : beL (kinds.length : Int) 1 1 = [(kinds.length : Int)] := by simp [beL, beN]; omega
            rw [frontL, toB_append, toB_append, e1, ByteArray.append_assoc]
            rfl
          have hsz1 : (toB [(kinds.length : Int)]).size = 1 := by rw [toB_size]; rfl
          have hsz4 : (toB (beL (rs.length : Int) 4 4)).size = 4 := by rw [toB_size, beL_len]
          go_cut [12] (fun s wz => s = .string (toB (frontL kinds.length rs.length)) ∧ Below wr.heap.size wr wz)
          case first =>
            have hcv1 : (convert 71 9 (.slice (some ⟨wr.heap.size, 0, none⟩) 1 1)).run Tryz.prog (wr.alloc (.cells #[.int .u8 (kinds.length : Int)] 5)).drew = .ok (.string (toB [(kinds.length : Int)])) (wr.alloc (.cells #[.int .u8 (kinds.length : Int)] 5)).drew := conv_one (W := (wr.alloc (.cells #[.int .u8 (kinds.length : Int)] 5)).drew) (unhide hcell wr)
            have hcv2 : Hid (∀ w1 : World, (convert 71 9 (.slice (some ⟨w1.heap.size, 0, none⟩) 1 1)).run Tryz.prog (w1.alloc (.cells #[.int .u8 (kinds.length : Int)] 5)) = .ok (.string (toB [(kinds.length : Int)])) (w1.alloc (.cells #[.int .u8 (kinds.length : Int)] 5))) := fun w1 => conv_one (unhide hcell w1)
            have hcv3 : Hid (∀ w1 : World, Below (wr.alloc (.cells #[.int .u8 (kinds.length : Int)] 5)).drew.heap.size (wr.alloc (.cells #[.int .u8 (kinds.length : Int)] 5)).drew w1 → (convert 71 9 (.slice (some ⟨wr.heap.size, 0, none⟩) 1 1)).run Tryz.prog w1 = .ok (.string (toB [(kinds.length : Int)])) w1) := fun w1 h => conv_one (cell_later h (unhide hcell wr))
            go_region_with (first | (go_at_call 32; refine (unhide hb32 _).mono ?_; rintro _ w1 ⟨rfl, hb1⟩; have hcv4 := unhide hcv2 w1; try (have hcv5 := unhide hcv3 w1 hb1)))
            all_goals (go_wp2; go_meet; exact ⟨by rw [← unhide hfr], by first | exact below_step ((below_alloc (Below.refl _ wr) _).drew) hb1 | exact below_alloc (below_step (Below.refl _ wr).drew hb1) _⟩)
          case rest =>
            obtain ⟨rfl, hbc⟩ := hcut
            rename World => wc
            have HBC := hide (below_step hb hbc)
            clear hbc hb hcell hfr
            have HCO := hide (columnsOf_any kinds ak ck rs ar cr wc hk2 hr4 (unhide HLN) ((unhide HAK).later (unhide HBC)) ((unhide HAR).later (unhide HBC)))
            go_wp2_with (first | (go_at_call 33; refine (unhide HCO).mono ?_; rintro _ w2 ⟨⟨ca, cc, Cs, rfl, hcl, hcx, hca⟩, hb2⟩))
            have HB2 := hide (below_step (unhide HBC) hb2)
            have HCX := hide hcx
            have HCA := hide hca
            have HCL := hide hcl
            clear hcx hca hcl hb2 HCO HBC
            go_loopw [12, 13, 100] (fun s12 s13 s wr => ∃ k : Nat, s = .int .i64 (k : Int) ∧ k ≤ kinds.length ∧ s12 = .string (toB (frontL kinds.length rs.length ++ hdL (ps.take k))) ∧ s13 = .string (toB (bdL (ps.take k))) ∧ Below w2.heap.size w2 wr) (fun _ _ s _ => kinds.length - (intOf s).toNat)
            case atStart => exact ⟨0, rfl, by omega, by simp [hdL], by simp [bdL]; rfl, Below.refl _ _⟩
            case round =>
              obtain ⟨k, rfl, hk, rfl, rfl, hb⟩ := hrel
              by_cases h9 : k < kinds.length
              · have i9 : (k : Int) < (kinds.length : Int) := by omega
                obtain ⟨x, hx⟩ : ∃ x, Cs[k]? = some x := ⟨_, List.getElem?_eq_getElem (by rw [unhide HCL]; exact h9)⟩
                obtain ⟨p, hp⟩ : ∃ p, ps[k]? = some p := ⟨_, List.getElem?_eq_getElem (by rw [(unhide HPS).len]; exact h9)⟩
                have hX := unhide HCX k x hx
                obtain ⟨hz, hK⟩ := (unhide HPS).at_ k p hp
                have hR := unhide HRL k h9
                rw [← hX] at hz hK hR
                obtain ⟨L, G, N, hzz, hL, hG, hsp⟩ := hR.sp
                have hpz := (unhide HPS).z p (List.mem_of_getElem? hp)
                have hps := (unhide HPS).s p (List.mem_of_getElem? hp)
                have hcc := (unhide HCA).later hb
                obtain ⟨cb, co, rfl, hcol⟩ : ∃ b off, ca = some ⟨b, off, none⟩ ∧ ∀ i c, Cs[i]? = some c → ColAt wr b (off + i * 4) c.1 c.2 := by
                  rcases hcc.1 with e | h
                  · subst e; simp at hx
                  · exact h
                obtain ⟨q0, q1, q2, q3⟩ := hcol k x hx
                have HV := hide (hcc.2 x (List.mem_of_getElem? hx))
                have H34 : Hid (∀ W, Below wr.heap.size wr W → Calls Tryz.prog 34 #[.agg #[.int .i64 x.1.k, .slice x.2.a1 x.1.nl.length x.2.c1, .slice x.2.a2 x.1.ns.length x.2.c2, .slice x.2.a3 x.1.ss.length x.2.c3]] W fun e w' => e = .returned (.tuple #[.string p.2, .int .i64 0]) ∧ Below W.heap.size W w') := fun W hW => hR.pk x.2 W p.2 ((unhide HV).later hW) hK
                have H35 : Hid (∀ W, Below wr.heap.size wr W → Calls Tryz.prog 35 #[.agg #[.int .i64 x.1.k, .slice x.2.a1 x.1.nl.length x.2.c1, .slice x.2.a2 x.1.ns.length x.2.c2, .slice x.2.a3 x.1.ss.length x.2.c3]] W fun e w' => e = .returned (.tuple #[L.v, G.v, .int .i64 (N : Int)]) ∧ Below W.heap.size W w') := fun W hW => hsp x.2 W ((unhide HV).later hW)
                have HZZ : Hid (p.1 = zoneB L G N) := by show _ = _; rw [hz, hzz]
                have HP := hide hp
                have HB := hide hb
                have HBX : Hid (∀ W, Below (wr.alloc (.cells #[.int .i64 x.1.k, .slice x.2.a1 x.1.nl.length x.2.c1, .slice x.2.a2 x.1.ns.length x.2.c2, .slice x.2.a3 x.1.ss.length x.2.c3] 49)).heap.size (wr.alloc (.cells #[.int .i64 x.1.k, .slice x.2.a1 x.1.nl.length x.2.c1, .slice x.2.a2 x.1.ns.length x.2.c2, .slice x.2.a3 x.1.ss.length x.2.c3] 49)) W → W.cell? ⟨wr.heap.size, 0, none⟩ = some (.int .i64 x.1.k) ∧ W.cell? ⟨wr.heap.size, 1, none⟩ = some (.slice x.2.a1 x.1.nl.length x.2.c1) ∧ W.cell? ⟨wr.heap.size, 2, none⟩ = some (.slice x.2.a2 x.1.ns.length x.2.c2) ∧ W.cell? ⟨wr.heap.size, 3, none⟩ = some (.slice x.2.a3 x.1.ss.length x.2.c3)) := fun W h =>
                  ⟨cell_later h (by simp [go_sem]), cell_later h (by simp [go_sem]), cell_later h (by simp [go_sem]), cell_later h (by simp [go_sem])⟩
                clear hx hp hX hz hK hR hzz hsp hcc hcol hb
                go_upto_region 28 with (first
                  | (go_at_call 34; refine (unhide H34 _ (below_alloc (Below.refl _ _) _)).mono ?_; rintro _ w4 ⟨rfl, hb4⟩; obtain ⟨e0, e1, e2, e3⟩ := unhide HBX w4 hb4)
                  | (go_at_call 35; refine (unhide H35 w4 (below_one hb4)).mono ?_; rintro _ w5 ⟨rfl, hb5⟩; rw [L.open_, G.open_]))
                refine enter_with (fun W => ((W.cell? ⟨w5.heap.size, 0, none⟩ = some (.int .i64 L.k) ∧ W.cell? ⟨w5.heap.size, 1, none⟩ = some (.int .i64 L.n) ∧ W.cell? ⟨w5.heap.size, 2, none⟩ = some (.string L.s)) ∧ W.cell? ⟨w5.heap.size + 1, 0, none⟩ = some (.int .i64 G.k) ∧ W.cell? ⟨w5.heap.size + 1, 1, none⟩ = some (.int .i64 G.n) ∧ W.cell? ⟨w5.heap.size + 1, 2, none⟩ = some (.string G.s)) ∧ Below wr.heap.size wr W) ⟨⟨⟨by simp [go_sem], by simp [go_sem], by simp [go_sem]⟩, by simp [go_sem], by simp [go_sem], by simp [go_sem]⟩, below_alloc (below_alloc (below_step (below_one hb4) hb5) _) _⟩ ?_
                clear hb4 hb5 e0 e1 e2 e3 q0 q1 q2 q3
                rintro W ⟨⟨⟨c0, c1, c2⟩, c3, c4, c5⟩, hbW⟩
                have H36 : Hid (∀ W : World, Calls Tryz.prog 36 #[.slice (some ⟨W.heap.size, 0, none⟩) 3 3] (W.alloc (.cells #[.int .i64 L.k, .int .i64 L.n, .string L.s, .int .i64 G.k, .int .i64 G.n, .string G.s, .int .i64 1, .int .i64 (N : Int), .string ⟨#[]⟩] 59)) fun e w' => e = .returned (.string (zoneB L G N)) ∧ Below W.heap.size W w') := fun W => by
                  refine (rkey_any (some ⟨W.heap.size, 0, none⟩) 3 [L, G, Val.num (N : Int)] _ (by unfold maxLen; simp) (three_wide _ hL hG) (three_row W L G (N : Int))).mono ?_
                  rintro e w' ⟨rfl, hw⟩
                  exact ⟨rfl, below_one hw⟩
                have H37 : Hid (∀ W : World, Calls Tryz.prog 37 #[.int .i64 (N : Int)] W fun e w' => e = .returned (.agg #[.int .i64 1, .int .i64 (N : Int), .string ⟨#[]⟩]) ∧ Below W.heap.size W w') := fun W => rnum_any (N : Int) W
                have HBW := hide hbW
                clear hbW
                go_cut [21] (fun s wz => s = .string (zoneB L G N) ∧ Below wr.heap.size wr wz)
                case first =>
                  go_region_with (first
                    | (go_at_call 37; refine (unhide H37 _).mono ?_; rintro _ w6 ⟨rfl, hb6⟩; have d0 := cell_later hb6 c0; have d1 := cell_later hb6 c1; have d2 := cell_later hb6 c2; have d3 := cell_later hb6 c3; have d4 := cell_later hb6 c4; have d5 := cell_later hb6 c5)
                    | (go_at_call 36; refine (unhide H36 w6).mono ?_; rintro _ w7 ⟨rfl, hb7⟩))
                  all_goals (go_wp2; go_meet; exact ⟨rfl, below_step (below_step (unhide HBW).drew hb6) hb7⟩)
                case rest =>
                  obtain ⟨rfl, hb8⟩ := hcut
                  rename World => w8
                  clear c0 c1 c2 c3 c4 c5 H36 H37 HBW
                  rw [← unhide HZZ]
                  have hwz : IntKind.u64.wrap (p.1.size : Int) = (p.1.size : Int) := by rw [IntKind.wrap_u64, Int.emod_eq_of_lt (by omega) (by omega)]
                  have hws : IntKind.u64.wrap (p.2.size : Int) = (p.2.size : Int) := by rw [IntKind.wrap_u64, Int.emod_eq_of_lt (by omega) (by omega)]
                  have H2 : Hid (∀ W, Calls Tryz.prog 32 #[.int .u64 (p.1.size : Int), .int .i64 2] W fun e w' => e = .returned (.string (toB (beL (p.1.size : Int) 2 2))) ∧ Below W.heap.size W w') := fun W => rbytes_any _ 2 W (by omega)
                  have H4 : Hid (∀ W, Calls Tryz.prog 32 #[.int .u64 (p.2.size : Int), .int .i64 4] W fun e w' => e = .returned (.string (toB (beL (p.2.size : Int) 4 4))) ∧ Below W.heap.size W w') := fun W => rbytes_any _ 4 W (by omega)
                  have htk : ps.take (k + 1) = ps.take k ++ [p] := by
                    obtain ⟨hlt, e⟩ := List.getElem?_eq_some_iff.1 (unhide HP)
                    rw [List.take_succ_eq_append_getElem hlt, e]
                  have HS1 : Hid (toB (frontL kinds.length rs.length ++ hdL (ps.take k)) ++ (toB (beL (p.1.size : Int) 2 2) ++ p.1 ++ toB (beL (p.2.size : Int) 4 4)) = toB (frontL kinds.length rs.length ++ hdL (ps.take (k + 1)))) := by
                    show _ = _
                    rw [htk, hdL_snoc, hd1, ← List.append_assoc, toB_append (frontL kinds.length rs.length ++ hdL (ps.take k)), toB_append, toB_append, toB_append (txt p.1), toB_txt, ByteArray.append_assoc (a := toB (beL (p.1.size : Int) 2 2))]
                  have HS2 : Hid (toB (bdL (ps.take k)) ++ p.2 = toB (bdL (ps.take (k + 1)))) := by
                    show _ = _
                    rw [htk, bdL_snoc, toB_append, toB_txt]
                  have HLA : Hid ((frontL kinds.length rs.length ++ hdL (ps.take k)).length ≤ 400000) := by
                    show _ ≤ _
                    have h1 := hdL_len (ps := ps.take k) (fun q hq => (unhide HPS).z q (List.mem_of_mem_take hq))
                    have h2 : (ps.take k).length ≤ 32 := by simp; omega
                    have h3 : (frontL kinds.length rs.length).length = 7 := by simp [frontL, beL_len]
                    rw [List.length_append]
                    omega
                  have HLB : Hid ((bdL (ps.take k)).length ≤ 3200000000) := by
                    show _ ≤ _
                    have h1 := bdL_len (ps := ps.take k) (fun q hq => (unhide HPS).s q (List.mem_of_mem_take hq))
                    have h2 : (ps.take k).length ≤ 32 := by simp; omega
                    omega
                  clear htk
                  go_wp2_with (first
                    | (go_at_call_of 32 (Value.int IntKind.i64 2); refine (unhide H2 _).mono ?_; rintro _ w9 ⟨rfl, hb9⟩)
                    | (go_at_call_of 32 (Value.int IntKind.i64 4); refine (unhide H4 _).mono ?_; rintro _ w10 ⟨rfl, hb10⟩))
                  all_goals first
                    | (exfalso; rename_i hh; simp only [ByteArray.size_append, toB_size, beL_len] at hh; have := unhide HLA; have := unhide HLB; omega)
                    | skip
                  exact ⟨⟨k + 1, by go_num, by omega, congrArg Value.string (unhide HS1), congrArg Value.string (unhide HS2), below_step (below_step (below_step (below_step (unhide HB) hb8) hb9) hb10) (Below.refl _ _)⟩, by simp [intOf]; omega⟩
              · have i9 : ¬ (k : Int) < (kinds.length : Int) := by omega
                have hkn : k = kinds.length := by omega
                have htk : ps.take k = ps := by rw [hkn, ← (unhide HPS).len, List.take_length]
                rw [htk]
                obtain ⟨body, hbody⟩ : ∃ body, toB ((frontL kinds.length rs.length ++ hdL ps) ++ bdL ps) = body := ⟨_, rfl⟩
                have hcat : toB (frontL kinds.length rs.length ++ hdL ps) ++ toB (bdL ps) = body := by rw [← hbody, toB_append (frontL kinds.length rs.length ++ hdL ps)]
                have hLA : (toB (frontL kinds.length rs.length ++ hdL ps)).size ≤ 400000 := by
                  have h1 := hdL_len (unhide HPS).z
                  have h2 := (unhide HPS).len
                  have h3 : (frontL kinds.length rs.length).length = 7 := by simp [frontL, beL_len]
                  rw [toB_size, List.length_append]
                  omega
                have hLB : (toB (bdL ps)).size ≤ 3200000000 := by
                  have h1 := bdL_len (unhide HPS).s
                  have h2 := (unhide HPS).len
                  rw [toB_size]
                  omega
                have hbs : body.size ≤ 4000000000 := by rw [← hcat, ByteArray.size_append]; omega
                have H38 := hide (fun W => crc_any body (by omega) W)
                have H32 : Hid (∀ W, Calls Tryz.prog 32 #[.int .u64 (sumB body : Nat), .int .i64 4] W fun e w' => e = .returned (.string (toB (beL (sumB body : Nat) 4 4))) ∧ Below W.heap.size W w') := fun W => rbytes_any _ 4 W (by omega)
                have HSEG : Hid (R = .tuple #[.string (body ++ toB (beL (sumB body : Nat) 4 4)), .int .i64 0]) := by show _ = _; rw [unhide HRE, segB, hbody]; rfl
                have hn1 : ¬ 9223372036854775807 < (toB (frontL kinds.length rs.length ++ hdL ps)).size + (toB (bdL ps)).size := by omega
                have hn2 : ¬ 9223372036854775807 < body.size + (toB (beL (sumB body : Nat) 4 4)).size := by rw [toB_size, beL_len]; omega
                have HBF := hide (below_step (unhide HB2) hb)
                clear hbody htk hkn hLA hLB HRE hb
                go_wp2_with (first
                  | (go_at_call 38; refine (unhide H38 _).mono ?_; rintro _ w3 ⟨rfl, hw3⟩; rw [hw3]; clear hw3)
                  | (go_at_call 32; refine (unhide H32 _).mono ?_; rintro _ w4 ⟨rfl, hb4⟩))
                exact bodyPost_ret (v := .tuple #[.string (body ++ toB (beL (sumB body : Nat) 4 4)), .int .i64 0]) (by simp [results, Tryz.results6, go_sem]) rfl ⟨by rw [unhide HSEG], below_step (unhide HBF) hb4⟩
        · have HRE : Hid (R = .tuple #[.string ⟨#[]⟩, .int .i64 4]) := by show _ = _; rw [← unhide HRR, ← unhide HLO, ← unhide HOD]; rfl
          clear HRR HQ HLO HOD
          go_wp2
          exact bodyPost_ret (v := .tuple #[.string ⟨#[]⟩, .int .i64 4]) (by simp [results, Tryz.results6, go_sem]) rfl ⟨by rw [unhide HRE], hb⟩
      · have HRE : Hid (R = .tuple #[.string ⟨#[]⟩, .int .i64 3]) := by show _ = _; rw [← unhide HRR, ← unhide HLO]; rfl
        clear HRR HQ HLO HOD
        go_wp2
        exact bodyPost_ret (v := .tuple #[.string ⟨#[]⟩, .int .i64 3]) (by simp [results, Tryz.results6, go_sem]) rfl ⟨by rw [unhide HRE], hb⟩
end Go.Proofs.YthbfomcmjjnikaaGreat

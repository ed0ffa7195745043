import Derived.Test.YtcpndojkfngioaaGreatTbF
import Derived.Test.YtcpndojkfngioaaGreatPlS
set_option linter.unusedSimpArgs false
set_option linter.unusedVariables false
namespace Go.Proofs.YtcpndojkfngioaaGreat
open Go.RowKit Go.Sort

theorem wpList_look_w {ops : Array Oper} {rest : List Oper} {o : Oper} {a : Act} {w : World} {Q : Exit → Act → World → Prop} (hg : Region.wanted o (yielded ops a.tmps) = true) (m x : Operand) (t : TypeId) (hop : o.op = Op.lookup t m x false) (vm vx : Value) (hm : a.eval m = vm) (hx : a.eval x = vx) {v' : Value}
    (hr : (Instr.lookup t vm vx false).run Tryz.prog w = .ok v' w) (h : wpList Tryz.prog ops Q rest (a.put o.dst v') w) : wpList Tryz.prog ops Q (o :: rest) a w := by
  refine wpList_step fun K hK' => ?_
  rw [if_pos hg]
  unfold Oper.wp
  simp [execOp, hop, hm, hx, hr, Result.andThen]
  exact hK' _ _ h
theorem grown_cell {w w' : World} {b g o : Nat} {v : Value} (hg : w.grownBy w' (some b)) (hne : g ≠ b) (h : w.cell? ⟨g, o, none⟩ = some v) : w'.cell? ⟨g, o, none⟩ = some v := by
  have hlt : g < w.heap.size := World.block_lt_of_cell? w _ h
  rw [← h]
  exact World.cell?_of_block (hg.block g hlt (fun e => hne (by injection e)))
theorem grown_tri {w w' : World} {b q : Nat} {t : Tb} {m : Tm} (hg : w.grownBy w' (some b)) (hne : q ≠ b) (h : Tri w q 0 t m) : Tri w' q 0 t m := ⟨grown_cell hg hne h.c0, grown_cell hg hne h.c1, grown_cell hg hne h.c2⟩
/-- make(map[K]V). -/
theorem make_none {t k e : TypeId} (h : Tryz.prog.underlying t = some (.map k e)) (W : World) : (Instr.makeMap t none).run Tryz.prog W = .ok (.map (some W.heap.size)) (W.alloc (.map #[] 0)) := by
  simp [Instr.makeMap, run_underlying h, Result.andThen]
/-- A table that may not be. -/
def badT (t : Tb) : Bool := !(nameB t.name && colsGood t)
theorem well_bad {ts : List Tb} {k : Nat} {x : Tb} (hx : ts[k]? = some x) (h : badT x = true) : wellB ts = false := by
  unfold wellB namesB
  unfold badT at h
  have hm := List.mem_of_getElem? hx
  rw [Bool.not_eq_true', Bool.and_eq_false_iff] at h
  rcases h with h | h
  · have : ((ts.map Tb.name).any fun y => !nameB y) = true := List.any_eq_true.2 ⟨x.name, List.mem_map.2 ⟨x, hm, rfl⟩, by simp [h]⟩
    rw [this]; simp
  · have : (ts.any fun t => !colsGood t) = true := List.any_eq_true.2 ⟨x, hm, by simp [h]⟩
    rw [this]; simp
theorem well_dup {ts : List Tb} (h : ¬ (ts.map Tb.name).Nodup) : wellB ts = false := by
  unfold wellB namesB
  rw [decide_eq_false h]; simp
theorem well_good {ts : List Tb} (h1 : ts.any badT = false) (h2 : (ts.map Tb.name).Nodup) : wellB ts = true := by
  rw [List.any_eq_false] at h1
  unfold wellB namesB
  rw [decide_eq_true h2]
  have e1 : ((ts.map Tb.name).any fun y => !nameB y) = false := by
    rw [List.any_eq_false]
    intro y hy
    obtain ⟨t, ht, rfl⟩ := List.mem_map.1 hy
    have := h1 t ht
    unfold badT at this
    simp at this
    simp [this.1]
  have e2 : (ts.any fun t => !colsGood t) = false := by
    rw [List.any_eq_false]
    intro t ht
    have := h1 t ht
    unfold badT at this
    simp at this
    simp [this.2]
  rw [e1, e2]; rfl
theorem cols_bad {t : Tb} {k : Nat} {c : ByteArray × Int} (hx : t.cols[k]? = some c) (h : nameB c.1 = false) : colsGood t = false := by
  unfold colsGood namesB
  have : ((t.cols.map Prod.fst).any fun y => !nameB y) = true := List.any_eq_true.2 ⟨c.1, List.mem_map.2 ⟨c, List.mem_of_getElem? hx, rfl⟩, by simp [h]⟩
  rw [this]; simp
theorem cols_dup {t : Tb} (h : ¬ (t.cols.map Prod.fst).Nodup) : colsGood t = false := by
  unfold colsGood namesB
  rw [decide_eq_false h]; simp
theorem cols_good {t : Tb} (hk : kindsB (t.cols.map Prod.snd) = true) (h1 : (t.cols.any fun c => !nameB c.1) = false) (h2 : (t.cols.map Prod.fst).Nodup) : colsGood t = true := by
  unfold colsGood namesB
  rw [hk, decide_eq_true h2, List.any_map]
  have : t.cols.any ((fun x => !nameB x) ∘ Prod.fst) = false := h1
  rw [this]; rfl
set_option maxHeartbeats 8000000 in
set_option maxRecDepth 100000 in
/-- tallyref.Schema (12). -/
theorem schema_any (ts : List Tb) (hf : ∀ t ∈ ts, t.fin) (hl : ts.length ≤ 1048576) (a : Option Addr) (c : Nat) (w : World) (ha : Tbs w a ts) : Calls Tryz.prog 12 #[.slice a ts.length c] w fun e w' => e = .returned (.bool (wellB ts)) ∧ Below w.heap.size w w' := by
  obtain ⟨R, hR⟩ : ∃ R, R = wellB ts := ⟨_, rfl⟩
  rw [← hR]
  have HF := hide hf
  have HA := hide ha
  have HR := hide hR
  have HM0 := hide (MpC.made keyS w)
  have HB0 := hide (below_alloc (Below.refl _ w) (.map #[] 0))
  clear hf ha hR
  obtain ⟨nms, hnms⟩ : ∃ nms, nms = ts.map Tb.name := ⟨_, rfl⟩
  have HNM := hide hnms
  clear hnms
  have hmm := make_none (t := 59) Tryz.underlying59
  go_enter Tryz.func12, Tryz.ntmps12
  go_wp2_with fail
  go_loopw [12] (fun i wr => ∃ (k : Nat), k ≤ ts.length ∧ i = .int .i64 (k : Int) ∧ Hid (MpC keyS wr w.heap.size k (cntF nms k)) ∧ Hid ((nms.take k).Nodup) ∧ Hid ((ts.take k).any badT = false) ∧ Hid (Below w.heap.size w wr)) (fun i _ => ts.length - (intOf i).toNat)
  case atStart => exact ⟨0, Nat.zero_le _, rfl, by have := unhide HM0; have e : (fun _ => (0 : Int)) = cntF nms 0 := (by funext y; simp [cntF]); rw [e] at this; exact this, by show (nms.take 0).Nodup; simp, by show _ = _; rfl, unhide HB0⟩
  case round =>
    clear HM0 HB0
    obtain ⟨k, hk, rfl, HM, HN, HG, HB⟩ := hrel
    by_cases hlt : k < ts.length
    · have h9 : (k : Int) < (ts.length : Int) := by omega
      obtain ⟨x, hx⟩ : ∃ x, ts[k]? = some x := ⟨_, List.getElem?_eq_getElem hlt⟩
      have hxn : nms[k]? = some x.name := by rw [unhide HNM, List.getElem?_map, hx]; rfl
      have hxf := unhide HF x (List.mem_of_getElem? hx)
      have hok : keyS.ok x.name := by have := hxf.n; show x.name.size ≤ _; omega
      obtain ⟨b, off, mx, ea, h3w, hmxw⟩ := (unhide HA).get hx
      have h3 := h3w.later (unhide HB)
      have hba := below_alloc (Below.refl _ wr) (x.box mx)
      have hM1 := (unhide HM).later hba
      have hbl := (unhide HM).lt
      have hle := cntF_le nms k x.name
      have hl1 := hM1.look (t := 59) Tryz.underlying59 (x := x.name) hok
      obtain ⟨w2, hp, hm2, hg⟩ := hM1.put (t := 59) Tryz.underlying59 (by omega) (x := x.name) hok (c := cntF nms k x.name + 1) ⟨by omega, by omega⟩
      have hl2 := fun (W : World) (hW : Below w2.heap.size w2 W) => (hm2.later hW).look (t := 59) Tryz.underlying59 (x := x.name) hok
      simp only [if_pos] at hl2
      rw [cntF_step hxn] at hm2
      have hb2 := (below_step (unhide HB) hba).trans (grown_belowP hg (by have := (unhide HB).size; simp; omega) (fun g e => by cases e; exact Nat.le_refl _))
      have HT3 := hide (grown_tri hg (by omega) (Tri.new wr x mx))
      have HNS := hide (nodup_step hxn (unhide HN))
      have HLD := hide h3.load
      have HL1 := hide hl1
      have HP := hide hp
      have HL2 := hide hl2
      have HM2 := hide hm2
      have HB2 := hide hb2
      have HX := hide hx
      have HXF := hide hxf
      have HMX := hide (fun (W : World) (hW : Below w.heap.size w W) => hmxw.later hW)
      rw [Tb.val_open] at HLD
      unfold Tb.box at HL1 HP
      generalize cntF nms k x.name = cc at *
      clear hx hxn hxf hok h3 h3w hmxw hba hM1 hbl hl1 hp hm2 hg hl2 hb2 HM HN HB
      change Hid ((Instr.lookup 59 (.map (some w.heap.size)) (.string x.name) false).run Tryz.prog _ = .ok (.int .i64 cc) _) at HL1
      change Hid ((Instr.mapUpdate 59 (.map (some w.heap.size)) (.string x.name) (.int .i64 (cc + 1))).run Tryz.prog _ = .ok () w2) at HP
      change Hid (∀ W, Below w2.heap.size w2 W → (Instr.lookup 59 (.map (some w.heap.size)) (.string x.name) false).run Tryz.prog W = .ok (.int .i64 (cc + 1)) W) at HL2
      rw [ea]
      go_upto_region 6 with (first
        | (refine wpList_load_w ?_ 45 (.tmp 14) rfl _ (by simp [Act.eval]) _ (unhide HLD) ?_; · simp [Region.wanted, yielded])
        | (at_lookup; refine wpList_look_run rfl (.tmp 16) (.tmp 18) 59 rfl _ _ rfl rfl (unhide HL1) ?_)
        | (at_mapUpdate; refine wpList_put_run rfl (.tmp 16) (.tmp 18) (.tmp 20) 59 rfl _ _ _ rfl rfl rfl (unhide HP) ?_))
      have HNA := hide (rname_any x.name (by have := (unhide HXF).n; omega) w2)
      have c0 := (unhide HT3).c0
      clear HLD HL1 HP
      generalize wr.heap.size = q at *
      cases hn : nameB x.name
      · have HZ : Hid (R = false) := by show _ = _; rw [unhide HR]; exact well_bad (unhide HX) (by unfold badT; rw [hn]; rfl)
        rw [hn] at HNA
        clear hn HM2 HL2 HNS HG
        go_wp2_with (go_at_call 24; refine (unhide HNA).mono ?_; rintro e w3 ⟨rfl, hb3⟩)
        go_ret
        exact ⟨by rw [unhide HZ]; rfl, below_step (unhide HB2) hb3⟩
      rw [hn] at HNA
      by_cases h0 : cc = 0
      case neg =>
        have hgt : (1 : Int) < cc + 1 := by omega
        have HZ : Hid (R = false) := by show _ = _; rw [unhide HR]; exact well_dup (by rw [← unhide HNM]; exact (unhide HNS).2 h0)
        clear h0 hn HM2 HNS HG
        go_wp2_with (first
          | (go_at_call 24; refine (unhide HNA).mono ?_; rintro e w3 ⟨rfl, hb3⟩; have k0 := ((unhide HT3).later hb3).c0; have HL3 := hide (unhide HL2 _ hb3))
          | (at_lookup; refine wpList_look_w (by simp [Region.wanted, yielded]) (.tmp 26) (.tmp 28) 59 rfl _ _ rfl rfl (unhide HL3) ?_))
        go_ret
        exact ⟨by rw [unhide HZ]; rfl, below_step (unhide HB2) hb3⟩
      subst h0
      have HXC := hide (unhide HXF).c
      obtain ⟨ks, hks⟩ : ∃ ks, ks = x.cols.map Prod.snd := ⟨_, rfl⟩
      have HKS := hide hks
      have HKL : Hid (ks.length ≤ 1048576) := by show _ ≤ _; rw [hks, List.length_map]; exact unhide HXC
      clear hks
      cases hkk : kindsB ks
      · have HZ : Hid (R = false) := by show _ = _; rw [unhide HR]; exact well_bad (unhide HX) (by unfold badT colsGood; rw [← unhide HKS, hkk, hn]; rfl)
        clear hn HM2 HNS HG
        go_wp2_with (first
          | (go_at_call 24; refine (unhide HNA).mono ?_; rintro e w3 ⟨rfl, hb3⟩; have hB3 := below_step (unhide HB2) hb3; have k0 := ((unhide HT3).later hb3).c0; have HL3 := hide (unhide HL2 _ hb3); have HL5 := hide ((unhide HT3).later hb3).load; have HKO := hide (kindsOf_any x mx w3 (unhide HXC) (unhide HMX _ hB3).c); rw [Tb.val_open] at HL5 HKO; rw [← unhide HKS] at HKO)
          | (at_lookup; refine wpList_look_w (by simp [Region.wanted, yielded]) (.tmp 26) (.tmp 28) 59 rfl _ _ rfl rfl (unhide HL3) ?_)
          | (refine wpList_load_w ?_ 45 (.tmp 5) rfl _ (by simp [Act.eval]) _ (unhide HL5) ?_; · simp [Region.wanted, yielded])
          | (go_at_call 14; refine (unhide HKO).mono ?_; rintro e w4 ⟨a4, c4x, rfl, hO4, hb4⟩; have HK5 := hide (kindsOK_any ks a4 c4x w4 (by have := unhide HKL; omega) hO4.ints); rw [hkk] at HK5)
          | (go_at_call 25; refine (unhide HK5).mono ?_; rintro e w5 ⟨rfl, hb5⟩))
        go_ret
        exact ⟨by rw [unhide HZ]; rfl, below_step (below_step (below_step (unhide HB2) hb3) hb4) hb5⟩
      go_upto_region 8 with (first
          | (go_at_call 24; refine (unhide HNA).mono ?_; rintro e w3 ⟨rfl, hb3⟩; have hB3 := below_step (unhide HB2) hb3; have k0 := ((unhide HT3).later hb3).c0; have HL3 := hide (unhide HL2 _ hb3); have HL5 := hide ((unhide HT3).later hb3).load; have HKO := hide (kindsOf_any x mx w3 (unhide HXC) (unhide HMX _ hB3).c); rw [Tb.val_open] at HL5 HKO; rw [← unhide HKS] at HKO)
          | (at_lookup; refine wpList_look_w (by simp [Region.wanted, yielded]) (.tmp 26) (.tmp 28) 59 rfl _ _ rfl rfl (unhide HL3) ?_)
          | (refine wpList_load_w ?_ 45 (.tmp 5) rfl _ (by simp [Act.eval]) _ (unhide HL5) ?_; · simp [Region.wanted, yielded])
          | (go_at_call 14; refine (unhide HKO).mono ?_; rintro e w4 ⟨a4, c4x, rfl, hO4, hb4⟩; have HK5 := hide (kindsOK_any ks a4 c4x w4 (by have := unhide HKL; omega) hO4.ints); rw [hkk] at HK5)
          | (go_at_call 25; refine (unhide HK5).mono ?_; rintro e w5 ⟨rfl, hb5⟩))
      have hb25 := below_step (below_step hb3 hb4) hb5
      have HB5 := hide (below_step (unhide HB2) hb25)
      have HM5 := hide ((unhide HM2).later hb25)
      have HT5 := hide ((unhide HT3).later hb25)
      have HI0 := hide (MpC.made keyS w5)
      have HIB := hide (below_alloc (Below.refl _ w5) (.map #[] 0))
      have HNB := hide hn
      have HKK := hide hkk
      have c1 := ((unhide HT5).later (unhide HIB)).c1
      simp only [Nat.zero_add] at c1
      clear hb3 hB3 k0 HL3 HL5 HKO hb4 hO4 HK5 hb5 hb25 c0 hn hkk HNA HM2 HT3 HB2 HL2
      obtain ⟨cnm, hcnm⟩ : ∃ cnm, cnm = x.cols.map Prod.fst := ⟨_, rfl⟩
      have HCN := hide hcnm
      clear hcnm
      go_wp2_with fail
      go_loopw [42] (fun i wr => ∃ (j : Nat), j ≤ x.cols.length ∧ i = .int .i64 (j : Int) ∧ Hid (MpC keyS wr w5.heap.size j (cntF cnm j)) ∧ Hid ((cnm.take j).Nodup) ∧ Hid ((x.cols.take j).any (fun c => !nameB c.1) = false) ∧ Hid (Below w5.heap.size w5 wr)) (fun i _ => x.cols.length - (intOf i).toNat)
      case atStart => exact ⟨0, Nat.zero_le _, rfl, by have := unhide HI0; have e : (fun _ => (0 : Int)) = cntF cnm 0 := (by funext y; simp [cntF]); rw [e] at this; exact this, by show (cnm.take 0).Nodup; simp, by show _ = _; rfl, unhide HIB⟩
      case round =>
        clear HI0 HIB c1 h9
        obtain ⟨j, hj, rfl, HMI, HNI, HGI, HBI⟩ := hrel
        have hxcl := unhide HXC
        by_cases hjt : j < x.cols.length
        · have h9 : (j : Int) < (x.cols.length : Int) := by omega
          obtain ⟨y, hy⟩ : ∃ y, x.cols[j]? = some y := ⟨_, List.getElem?_eq_getElem hjt⟩
          have hyn : cnm[j]? = some y.1 := by rw [unhide HCN, List.getElem?_map, hy]; rfl
          have hok : keyS.ok y.1 := by have := (unhide HXF).cn y (List.mem_of_getElem? hy); show y.1.size ≤ _; omega
          obtain ⟨vb, vo, eb, d0, d1⟩ := (unhide HMX _ (below_step (unhide HB5) (unhide HBI))).c.get hy
          have hba := below_alloc (Below.refl _ wr) (.cells #[.string y.1, .int .i64 y.2] 63)
          have hM1 := (unhide HMI).later hba
          have hbl := (unhide HMI).lt
          have hle := cntF_le cnm j y.1
          have hl1 := hM1.look (t := 59) Tryz.underlying59 (x := y.1) hok
          obtain ⟨w7, hp, hm2, hg⟩ := hM1.put (t := 59) Tryz.underlying59 (by omega) (x := y.1) hok (c := cntF cnm j y.1 + 1) ⟨by omega, by omega⟩
          have hl2 := fun (W : World) (hW : Below w7.heap.size w7 W) => (hm2.later hW).look (t := 59) Tryz.underlying59 (x := y.1) hok
          simp only [if_pos] at hl2
          rw [cntF_step hyn] at hm2
          have hb7 := (below_step (unhide HBI) hba).trans (grown_belowP hg (by have := (unhide HBI).size; simp; omega) (fun g e => by cases e; exact Nat.le_refl _))
          have x0 : w7.cell? ⟨wr.heap.size, 0, none⟩ = some (.string y.1) := grown_cell hg (by omega) (by simp [go_sem])
          have HX0 := hide x0
          have HNS2 := hide (nodup_step hyn (unhide HNI))
          have HL1 := hide hl1
          have HP := hide hp
          have HL2 := hide hl2
          have HM7 := hide hm2
          have HB7 := hide hb7
          have HY := hide hy
          have HNA := hide (rname_any y.1 (by have : y.1.size ≤ 140737488355328 := hok; omega) w7)
          generalize cntF cnm j y.1 = cc at *
          clear hy hyn hok hba hM1 hbl hl1 hp hm2 hg hl2 hb7 HMI HNI HBI
          change Hid ((Instr.lookup 59 (.map (some w5.heap.size)) (.string y.1) false).run Tryz.prog _ = .ok (.int .i64 cc) _) at HL1
          change Hid ((Instr.mapUpdate 59 (.map (some w5.heap.size)) (.string y.1) (.int .i64 (cc + 1))).run Tryz.prog _ = .ok () w7) at HP
          change Hid (∀ W, Below w7.heap.size w7 W → (Instr.lookup 59 (.map (some w5.heap.size)) (.string y.1) false).run Tryz.prog W = .ok (.int .i64 (cc + 1)) W) at HL2
          rw [eb]
          cases hn : nameB y.1
          · have HZ : Hid (R = false) := by show _ = _; rw [unhide HR]; exact well_bad (unhide HX) (by unfold badT; rw [cols_bad (unhide HY) hn, Bool.and_false]; rfl)
            rw [hn] at HNA
            clear hn HM7 HL2 HNS2 HGI
            go_wp2_with (first
              | (at_lookup; refine wpList_look_run rfl (.tmp 46) (.tmp 48) 59 rfl _ _ rfl rfl (unhide HL1) ?_)
              | (at_mapUpdate; refine wpList_put_run rfl (.tmp 46) (.tmp 48) (.tmp 50) 59 rfl _ _ _ rfl rfl rfl (unhide HP) ?_)
              | (go_at_call 24; refine (unhide HNA).mono ?_; rintro e w8 ⟨rfl, hb8⟩))
            go_ret
            exact ⟨by rw [unhide HZ]; rfl, below_step (unhide HB5) (below_step (unhide HB7) hb8)⟩
          rw [hn] at HNA
          by_cases h0 : cc = 0
          case neg =>
            have hgt : (1 : Int) < cc + 1 := by omega
            have HZ : Hid (R = false) := by show _ = _; rw [unhide HR]; exact well_bad (unhide HX) (by unfold badT; rw [cols_dup (by rw [← unhide HCN]; exact (unhide HNS2).2 h0), Bool.and_false]; rfl)
            clear h0 hn HM7 HNS2 HGI
            go_wp2_with (first
              | (at_lookup; refine wpList_look_w (by simp [Region.wanted, yielded]) (.tmp 56) (.tmp 58) 59 rfl _ _ rfl rfl (unhide HL8) ?_)
              | (at_lookup; refine wpList_look_run rfl (.tmp 46) (.tmp 48) 59 rfl _ _ rfl rfl (unhide HL1) ?_)
              | (at_mapUpdate; refine wpList_put_run rfl (.tmp 46) (.tmp 48) (.tmp 50) 59 rfl _ _ _ rfl rfl rfl (unhide HP) ?_)
              | (go_at_call 24; refine (unhide HNA).mono ?_; rintro e w8 ⟨rfl, hb8⟩; have k0 := clater (unhide HX0) hb8; have HL8 := hide (unhide HL2 _ hb8)))
            go_ret
            exact ⟨by rw [unhide HZ]; rfl, below_step (unhide HB5) (below_step (unhide HB7) hb8)⟩
          subst h0
          have HG8 : Hid ((x.cols.take (j + 1)).any (fun c => !nameB c.1) = false) := any_snoc (unhide HY) (unhide HGI) (by simp [hn])
          clear hn HGI
          go_wp2_with (first
            | (at_lookup; refine wpList_look_w (by simp [Region.wanted, yielded]) (.tmp 56) (.tmp 58) 59 rfl _ _ rfl rfl (unhide HL8) ?_)
            | (at_lookup; refine wpList_look_run rfl (.tmp 46) (.tmp 48) 59 rfl _ _ rfl rfl (unhide HL1) ?_)
            | (at_mapUpdate; refine wpList_put_run rfl (.tmp 46) (.tmp 48) (.tmp 50) 59 rfl _ _ _ rfl rfl rfl (unhide HP) ?_)
            | (go_at_call 24; refine (unhide HNA).mono ?_; rintro e w8 ⟨rfl, hb8⟩; have k0 := clater (unhide HX0) hb8; have HL8 := hide (unhide HL2 _ hb8)))
          exact ⟨⟨j + 1, by omega, by go_num, (unhide HM7).later hb8, (unhide HNS2).1 (by first | trivial | rfl), unhide HG8, below_step (unhide HB7) hb8⟩, by simp [intOf]; omega⟩
        · have h9 : ¬ (j : Int) < (x.cols.length : Int) := by omega
          have HG2 : Hid ((ts.take (k + 1)).any badT = false) := by
            have h1 := unhide HGI
            have h2 := unhide HNI
            rw [List.take_of_length_le (by omega)] at h1
            rw [List.take_of_length_le (by rw [unhide HCN, List.length_map]; omega), unhide HCN] at h2
            exact any_snoc (unhide HX) (unhide HG) (by unfold badT; rw [unhide HNB, cols_good (by rw [← unhide HKS]; exact unhide HKK) h1 h2]; rfl)
          have HME := hide ((unhide HM5).later (unhide HBI))
          have HBE := hide (below_step (unhide HB5) (unhide HBI))
          clear HMI HNI HGI HBI HG
          go_wp2
          exact ⟨⟨k + 1, by omega, by go_num, unhide HME, (unhide HNS).1 (by first | trivial | rfl), unhide HG2, unhide HBE⟩, by simp [intOf]; omega⟩
    · have h9 : ¬ (k : Int) < (ts.length : Int) := by omega
      have HZ : Hid (R = true) := by
        have h1 := unhide HG
        have h2 := unhide HN
        rw [List.take_of_length_le (by omega)] at h1
        rw [List.take_of_length_le (by rw [unhide HNM, List.length_map]; omega), unhide HNM] at h2
        show _ = _
        rw [unhide HR]; exact well_good h1 h2
      clear HM HN HG
      go_wp2
      go_ret
      exact ⟨by rw [unhide HZ]; rfl, unhide HB⟩
end Go.Proofs.YtcpndojkfngioaaGreat

import Derived.Test.YtcpndojkfngioaaGreatTbG
set_option linter.unusedSimpArgs false
set_option linter.unusedVariables false
namespace Go.Proofs.YtcpndojkfngioaaGreat
open Go.RowKit Go.Sort

theorem RowsT.get {w : World} {a : Option Addr} {rs : List (List Val)} {i : Nat} {r : List Val} (h : RowsT w a rs) (hr : rs[i]? = some r) : ∃ b off ra rc, a = some ⟨b, off, none⟩ ∧ w.cell? ⟨b, off + i, none⟩ = some (.slice ra r.length rc) ∧ RowAt w ra r := by
  rcases h with h | ⟨b, off, ha, h⟩
  · rw [h] at hr; simp at hr
  · obtain ⟨ra, rc, h1, h2⟩ := h i r hr; exact ⟨b, off, ra, rc, ha, h1, h2⟩
set_option maxHeartbeats 8000000 in
set_option maxRecDepth 100000 in
/-- tallyref.Tables (4). -/
theorem tables_any (ts : List Tb) (hf : ∀ t ∈ ts, t.fin) (hl : ts.length ≤ 1048576) (a : Option Addr) (c : Nat) (w : World) (ha : Tbs w a ts) : Calls Tryz.prog 4 #[.slice a ts.length c] w fun e w' => e = .returned (.bool (goodB ts)) ∧ Below w.heap.size w w' := by
  have HS := hide (schema_any ts hf hl a c w ha)
  obtain ⟨R, hR⟩ : ∃ R, R = goodB ts := ⟨_, rfl⟩
  rw [← hR]
  unfold goodB at hR
  have HF := hide hf
  have HA := hide ha
  clear hf ha
  cases hw : wellB ts
  · rw [hw] at HS hR
    obtain rfl : R = false := hR
    clear hw HA HF
    go_enter Tryz.func4, Tryz.ntmps4
    go_wp2_with (go_at_call 12; refine (unhide HS).mono ?_; rintro e w1 ⟨rfl, hb1⟩)
    go_ret
    exact ⟨rfl, hb1⟩
  rw [hw] at HS hR
  have HR : Hid (R = !ts.any wrongB) := hR
  clear hw hR
  go_enter Tryz.func4, Tryz.ntmps4
  go_upto_region 3 with (go_at_call 12; refine (unhide HS).mono ?_; rintro e w1 ⟨rfl, hb1⟩)
  have HB1 := hide hb1
  clear hb1 HS
  go_wp2_with fail
  go_loopw [12] (fun i wr => ∃ (k : Nat), k ≤ ts.length ∧ i = .int .i64 (k : Int) ∧ Hid ((ts.take k).any wrongB = false) ∧ Hid (Below w.heap.size w wr)) (fun i _ => ts.length - (intOf i).toNat)
  case atStart => exact ⟨0, Nat.zero_le _, rfl, by show _ = _; rfl, unhide HB1⟩
  case round =>
    clear HB1
    obtain ⟨k, hk, rfl, HG, HB⟩ := hrel
    by_cases hlt : k < ts.length
    · have h9 : (k : Int) < (ts.length : Int) := by omega
      obtain ⟨x, hx⟩ : ∃ x, ts[k]? = some x := ⟨_, List.getElem?_eq_getElem hlt⟩
      have HX := hide hx
      have HXF := hide (unhide HF x (List.mem_of_getElem? hx))
      obtain ⟨b, off, mx, ea, h3, hmx⟩ := ((unhide HA).later (unhide HB)).get hx
      have HLD := hide h3.load
      have hba := below_alloc (Below.refl _ wr) (x.box mx)
      have HB5 := hide (below_step (unhide HB) hba)
      have HT5 := hide (Tri.new wr x mx)
      have HMX := hide (hmx.later hba)
      have hxr := (unhide HXF).r
      rw [Tb.val_open] at HLD
      unfold Tb.box at HB5 HT5 HMX
      obtain ⟨ks, hks⟩ : ∃ ks, ks = x.cols.map Prod.snd := ⟨_, rfl⟩
      have HKS := hide hks
      have HKL : Hid (ks.length ≤ 1048576) := by show _ ≤ _; rw [hks, List.length_map]; exact (unhide HXF).c
      rw [ea]
      obtain ⟨w5, hw5⟩ : ∃ w5, w5 = wr.alloc (.cells #[.string x.name, .slice mx.aC x.cols.length mx.cC, .slice mx.aR x.rows.length mx.cR] 45) := ⟨_, rfl⟩
      rw [← hw5] at HB5 HT5 HMX
      have HW5 := hide hw5
      have c2 := (unhide HT5).c2
      simp only [Nat.zero_add] at c2
      clear hx h3 hmx hba hks hw5 HB
      go_upto_region 6 with (refine wpList_load_w ?_ 45 (.tmp 14) rfl _ (by simp [Act.eval]) _ (unhide HLD) ?_; · simp [Region.wanted, yielded])
      rw [← unhide HW5]
      clear HW5 HLD
      generalize wr.heap.size = q at *
      go_wp2_with fail
      go_loopw [19] (fun i wr => ∃ (j : Nat), j ≤ x.rows.length ∧ i = .int .i64 (j : Int) ∧ Hid ((x.rows.take j).any (fun r => !rowB r ks) = false) ∧ Hid (Below w5.heap.size w5 wr)) (fun i _ => x.rows.length - (intOf i).toNat)
      case atStart => exact ⟨0, Nat.zero_le _, rfl, by show _ = _; rfl, Below.refl _ _⟩
      case round =>
        clear c2 h9
        obtain ⟨j, hj, rfl, HGI, HBI⟩ := hrel
        by_cases hjt : j < x.rows.length
        · have h9 : (j : Int) < (x.rows.length : Int) := by omega
          obtain ⟨y, hy⟩ : ∃ y, x.rows[j]? = some y := ⟨_, List.getElem?_eq_getElem hjt⟩
          have HY := hide hy
          obtain ⟨vb, vo, ra, rc, eb, d0, hra⟩ := ((unhide HMX).r.later (unhide HBI)).get hy
          have HRA := hide hra
          have HYL := hide ((unhide HXF).rr y (List.mem_of_getElem? hy))
          have HLI := hide ((unhide HT5).later (unhide HBI)).load
          have HKO := hide (kindsOf_any x mx wr (unhide HXF).c ((unhide HMX).c.later (unhide HBI)))
          rw [← unhide HKS] at HKO
          rw [Tb.val_open] at HKO HLI
          rw [eb] at HLI HKO ⊢
          clear eb
          clear hy hra
          cases hv : rowB y ks
          · have HZ : Hid (R = false) := by
              show _ = _
              rw [unhide HR, any_mem (p := wrongB) (unhide HX) (by unfold wrongB; rw [← unhide HKS]; exact any_mem (p := fun r => !rowB r ks) (unhide HY) (by simp [hv]))]
              rfl
            clear HGI HG
            go_wp2_with (first
              | (refine wpList_load_w ?_ 45 (.tmp 4) rfl _ (by simp [Act.eval]) _ (unhide HLI) ?_; · simp [Region.wanted, yielded])
              | (go_at_call 14; refine (unhide HKO).mono ?_; rintro e w6 ⟨a4, c4x, rfl, hO4, hb6⟩; have HRF := hide (rowFits_any ks y a4 c4x ra rc w6 (unhide HYL) (unhide HKL) hO4.ints ((unhide HRA).later hb6)); rw [hv] at HRF)
              | (go_at_call 13; refine (unhide HRF).mono ?_; rintro e w7 ⟨rfl, hb7⟩))
            go_ret
            exact ⟨by rw [unhide HZ]; rfl, below_step (unhide HB5) (below_step (below_step (unhide HBI) hb6) hb7)⟩
          · have HG2 : Hid ((x.rows.take (j + 1)).any (fun r => !rowB r ks) = false) := any_snoc (unhide HY) (unhide HGI) (by simp [hv])
            clear HGI
            go_wp2_with (first
              | (refine wpList_load_w ?_ 45 (.tmp 4) rfl _ (by simp [Act.eval]) _ (unhide HLI) ?_; · simp [Region.wanted, yielded])
              | (go_at_call 14; refine (unhide HKO).mono ?_; rintro e w6 ⟨a4, c4x, rfl, hO4, hb6⟩; have HRF := hide (rowFits_any ks y a4 c4x ra rc w6 (unhide HYL) (unhide HKL) hO4.ints ((unhide HRA).later hb6)); rw [hv] at HRF)
              | (go_at_call 13; refine (unhide HRF).mono ?_; rintro e w7 ⟨rfl, hb7⟩))
            exact ⟨⟨j + 1, by omega, by go_num, unhide HG2, below_step (below_step (unhide HBI) hb6) hb7⟩, by simp [intOf]; omega⟩
        · have h9 : ¬ (j : Int) < (x.rows.length : Int) := by omega
          have HG2 : Hid ((ts.take (k + 1)).any wrongB = false) := by
            have h1 := unhide HGI
            rw [List.take_of_length_le (by omega)] at h1
            exact any_snoc (unhide HX) (unhide HG) (by unfold wrongB; rw [← unhide HKS]; exact h1)
          have HBE := hide (below_step (unhide HB5) (unhide HBI))
          clear HGI HBI HG
          go_wp2
          exact ⟨⟨k + 1, by omega, by go_num, unhide HG2, unhide HBE⟩, by simp [intOf]; omega⟩
    · have h9 : ¬ (k : Int) < (ts.length : Int) := by omega
      have HZ : Hid (R = true) := by
        have h1 := unhide HG
        rw [List.take_of_length_le (by omega)] at h1
        show _ = _
        rw [unhide HR, h1]; rfl
      clear HG
      go_wp2
      go_ret
      exact ⟨by rw [unhide HZ]; rfl, unhide HB⟩
end Go.Proofs.YtcpndojkfngioaaGreat

import Derived.Test.YtcbenpodohjbiaaGreatSrB
import Derived.Test.YtcbenpodohjbiaaGreatSrF
set_option linter.unusedSimpArgs false
set_option linter.unusedVariables false
set_option maxRecDepth 100000
namespace Go.Proofs.YtcbenpodohjbiaaGreat
open Go.RowKit Go.Sort

theorem Lst.at {w : World} {g N c j : Nat} {rs : List (List Val)} (h : Lst w (.slice (some ⟨g, 0, none⟩) N c) rs) (hj : j < rs.length) : ∃ a k, w.cell? ⟨g, j, none⟩ = some (.slice a (rs.getD j []).length k) ∧ w.frozen? ⟨g, j, none⟩ = false ∧ Rw w (.slice a (rs.getD j []).length k) (rs.getD j []) := by
  have hr : rs[j]? = some (rs.getD j []) := by rw [List.getD_eq_getElem?_getD, List.getElem?_eq_getElem hj]; rfl
  obtain ⟨g', c', a, k, e, h1, h2, h3, h4⟩ := h.get hr
  injection e with e1 _ _
  injection e1 with e1
  injection e1 with e1
  subst e1
  exact ⟨a, k, h1, h2, a, k, rfl, h3, h4⟩
theorem once_short {rs : List (List Val)} (h : rs.length < 2) : onceP rs = rs := by
  match rs, h with
  | [], _ => rfl
  | [x], _ => simp [onceP, onceT]
  | x :: y :: r, h => simp at h; omega
theorem onceT_more {rs : List (List Val)} {k : Nat} (h : onceT rs k = rs.take k) (hl : k < rs.length) (hn : rowsV (rs.getD k []) (rs.getD (k - 1) []) ≠ 0) : onceT rs (k + 1) = rs.take (k + 1) := by
  rw [onceT, if_pos (.inr hn), h, List.take_add_one, List.getD_eq_getElem?_getD, List.getElem?_eq_getElem hl]
  rfl
theorem onceT_one {rs : List (List Val)} (h : 0 < rs.length) : onceT rs 1 = rs.take 1 := by
  cases rs with
  | nil => simp at h
  | cons x r => simp [onceT]

set_option maxHeartbeats 8000000 in
/-- slices.CompactFunc (94). -/
theorem compact_any {w : World} {v : Value} {rs : List (List Val)} {C q B : Nat} (hL : Lst w v rs) (hE : EqF w C q B) (hn : rs.length ≤ 1048576) (hC : ∀ g, v.ownBlock = some g → g ≠ C ∧ g ≠ q) :
    Calls Tryz.prog 94 #[v, .func (.func 95) #[] #[.pointer (some ⟨C, 0, none⟩)]] w fun e w' => ∃ v', e = .returned v' ∧ Lst w' v' (onceP rs) ∧ v'.ownBlock = v.ownBlock ∧ Ky (fun k => v.ownBlock = some k) w w' := by
  obtain ⟨a, c, rfl, hc, ha⟩ := hL.formN
  obtain ⟨N, hN⟩ : ∃ N, rs.length = N := ⟨_, rfl⟩
  rw [hN] at hL hC hn hc ⊢
  have HL := hide hL
  have HE := hide hE
  have HCC := hide hC
  have HN := hide hN
  clear hL hE hC
  by_cases h2 : N < 2
  · have j : (N : Int) < 2 := by omega
    go_enter Tryz.func94, Tryz.ntmps94
    go_wp2_with fail
    go_ret
    exact ⟨_, rfl, by rw [once_short (by rw [unhide HN]; exact h2)]; exact unhide HL, rfl, Ky.refl _ _⟩
  · have j : ¬ (N : Int) < 2 := by omega
    obtain ⟨g, rfl⟩ : ∃ g, a = some ⟨g, 0, none⟩ := by
      rcases ha with ⟨_, h0⟩ | h
      · omega
      · exact h
    obtain ⟨nC, nq⟩ := unhide HCC g rfl
    clear ha hN
    go_enter Tryz.func94, Tryz.ntmps94
    go_wp2_with fail
    go_loopw [5] (fun s5 wr => ∃ k : Nat, s5 = .int .i64 (k : Int) ∧ 1 ≤ k ∧ k ≤ N ∧ Hid (onceT rs k = rs.take k ∧ Below w.heap.size w wr)) (fun s5 _ => N - (intOf s5).toNat)
    case atStart => exact ⟨1, rfl, Nat.le_refl _, by omega, onceT_one (by rw [unhide HN]; omega), Below.refl _ _⟩
    case round =>
      obtain ⟨k, rfl, hk1, hkn, HI⟩ := hrel
      by_cases hlt : k < N
      · obtain ⟨p, hp⟩ : ∃ p, k = p + 1 := ⟨k - 1, by omega⟩
        have j1 : (k : Int) < (N : Int) := by omega
        have j2 : (p : Int) < (N : Int) := by omega
        have esub : (k : Int) - 1 = (p : Int) := by omega
        have HP := hide hp
        clear hp
        have hLr := (unhide HL).later (unhide HI).2
        obtain ⟨a1, k1, d1, _, r1⟩ := hLr.at (j := k) (by rw [unhide HN]; exact hlt)
        obtain ⟨a2, k2, d2, _, r2⟩ := hLr.at (j := p) (by rw [unhide HN]; have := unhide HP; omega)
        have HC : Hid (∀ V : World, Below wr.heap.size wr V → Calls Tryz.prog 95 #[.slice a1 (rs.getD k []).length k1, .slice a2 (rs.getD p []).length k2, .pointer (some ⟨C, 0, none⟩)] V fun e w' => e = .returned (.bool (rowsV (rs.getD k []) (rs.getD p []) == 0)) ∧ Below V.heap.size V w') := fun V hb => ((unhide HE).later (below_step (unhide HI).2 hb)).cmp (r1.later hb) (r2.later hb)
        obtain ⟨O, hO⟩ : ∃ O, rowsV (rs.getD k []) (rs.getD p []) = O := ⟨_, rfl⟩
        rw [hO] at HC
        have HOO := hide hO
        generalize (rs.getD k []).length = lc at *
        generalize (rs.getD p []).length = ll at *
        have k0 := cell_regrown d1
        have k3 := cell_regrown d2
        have hsf := fun W => slice_from22 g N c k W (by omega) hc (by omega)
        clear hLr d1 d2 r1 r2 hO
        go_upto_region 6 with fail
        refine wp_region_quiet_below (by kernel_rfl) (by kernel_rfl) ?_
        repeat (go_big_quiet_step (first
          | (go_at_call 95; exact Calls.regrown_of (unhide HC _ (below_regrown _ _ _)))))
        refine wpQuiet_nil ?_
        intro w' hw'
        have hB : Below wr.heap.size wr w' := by obtain ⟨p, rfl⟩ := hw'; exact below_regrown _ _ _
        clear hw' k0 k3
        by_cases ho : O = 0
        · have jo : (O == 0) = true := by simpa using ho
          have HS : Hid (Cmp1 rs rs k (k + 1)) := Cmp1.start hk1 (by rw [unhide HN]; exact hlt) (unhide HI).1 (by rw [show k - 1 = p by have := unhide HP; omega, unhide HOO]; exact ho)
          have HLw := hide ((unhide HL).later (below_step (unhide HI).2 hB))
          have HKw := hide (Ky.of_below (F := fun b => b = g) (below_step (unhide HI).2 hB))
          obtain ⟨M, hM⟩ : ∃ M, N - k = M := ⟨_, rfl⟩
          have hsf' : ∀ W, (Instr.slice 22 (.slice (some ⟨g, 0, none⟩) N c) (some (.int .i64 (k : Int))) none none).run Tryz.prog W = .ok (.slice (some ⟨g, k, none⟩) M (c - k)) W := fun W => by rw [hsf W, hM]
          have HM : Hid (N = k + M) := by show N = k + M; omega
          have hMb : M ≤ 1048576 := by omega
          clear hsf hM j1 j2 esub ho HOO HP HI
          go_wp2_with fail
          go_loopw [5, 7] (fun s5 s7 wr => ∃ (k' i : Nat) (cs : List (List Val)), s5 = .int .i64 (k' : Int) ∧ s7 = .int .i64 (i : Int) ∧ 1 ≤ i ∧ i ≤ M ∧ Hid (Cmp1 rs cs k' (k + i)) ∧ Hid (Lst wr (.slice (some ⟨g, 0, none⟩) N c) cs ∧ Ky (fun b => b = g) w wr)) (fun _ s7 _ => M - (intOf s7).toNat)
          case atStart => exact ⟨k, 1, rs, rfl, rfl, Nat.le_refl _, by have := unhide HM; omega, unhide HS, unhide HLw, unhide HKw⟩
          case round =>
            obtain ⟨k', i, cs, rfl, rfl, hi1, hiM, HCM, HW⟩ := hrel
            by_cases hil : i < M
            · have hMM := unhide HM
              have hcl := (unhide HCM).len
              have hki := (unhide HCM).ki
              rw [unhide HN] at hcl
              obtain ⟨p, hp⟩ : ∃ p, i = p + 1 := ⟨i - 1, by omega⟩
              have i1 : (i : Int) < (M : Int) := by omega
              have i2 : (p : Int) < (M : Int) := by omega
              have esub : (i : Int) - 1 = (p : Int) := by omega
              have i3 : (k' : Int) < (N : Int) := by omega
              have g1 : cs.getD (k + i) [] = rs.getD (k + i) [] := by rw [List.getD_eq_getElem?_getD, (unhide HCM).at (by omega) (by rw [unhide HN]; omega)]; rfl
              have g2 : cs.getD (k + p) [] = rs.getD (k + p) [] := by rw [List.getD_eq_getElem?_getD, (unhide HCM).at (by omega) (by rw [unhide HN]; omega)]; rfl
              obtain ⟨a1, k1, d1, _, r1⟩ := (unhide HW).1.at (j := k + i) (by omega)
              obtain ⟨a2, k2, d2, _, r2⟩ := (unhide HW).1.at (j := k + p) (by omega)
              rw [g1] at d1 r1
              rw [g2] at d2 r2
              have HC : Hid (∀ V : World, Below wr.heap.size wr V → Calls Tryz.prog 95 #[.slice a1 (rs.getD (k + i) []).length k1, .slice a2 (rs.getD (k + p) []).length k2, .pointer (some ⟨C, 0, none⟩)] V fun e w' => e = .returned (.bool (rowsV (rs.getD (k + i) []) (rs.getD (k + p) []) == 0)) ∧ Below V.heap.size V w') := fun V hb => (((unhide HE).ky (unhide HW).2 (fun e => nC e.symm) (fun e => nq e.symm)).later hb).cmp (r1.later hb) (r2.later hb)
              obtain ⟨O, hO⟩ : ∃ O, (rowsV (rs.getD (k + i) []) (rs.getD (k + p) []) == 0) = O := ⟨_, rfl⟩
              rw [hO] at HC
              have HOO := hide hO
              have HR1 := hide r1
              have HP := hide hp
              have HFK : Hid (k' < cs.length) := by show k' < cs.length; omega
              clear hp r1 r2 g1 g2 hO hki hcl hMM
              obtain ⟨lc, hlc⟩ : ∃ lc, (rs.getD (k + i) []).length = lc := ⟨_, rfl⟩
              generalize (rs.getD (k + p) []).length = ll at *
              rw [hlc] at d1 HC HR1
              have HD1 := hide d1
              have k0 := cell_regrown d1
              have k3 := cell_regrown d2
              clear d1 d2 hlc
              go_upto_region 11 with fail
              refine wp_region_quiet_below (by kernel_rfl) (by kernel_rfl) ?_
              repeat (go_big_quiet_step (first
                | (go_at_call 95; exact Calls.regrown_of (unhide HC _ (below_regrown _ _ _)))))
              refine wpQuiet_nil ?_
              intro w' hw'
              have hB : Below wr.heap.size wr w' := by obtain ⟨p, rfl⟩ := hw'; exact below_regrown _ _ _
              clear hw' k0 k3
              have hL' := (unhide HW).1.later hB
              have hK' := (unhide HW).2.trans (Ky.of_below (F := fun b => b = g) hB) (Nw.refl _ _)
              cases O
              case true =>
                have HL1 := hide hL'
                have HK1 := hide hK'
                clear hL' hK'
                go_wp2
                go_roundw
                case rel => exact ⟨k', i + 1, cs, rfl, by go_num, by omega, by omega, (unhide HCM).same (by rw [unhide HN]; have := unhide HM; omega) (by rw [show k + i - 1 = k + p by have := unhide HP; omega]; simpa using unhide HOO), unhide HL1, unhide HK1⟩
                case measure => simp [intOf]; omega
              case false =>
                have e1 := clater (unhide HD1) hB
                obtain ⟨_, _, _, fk, _⟩ := hL'.at (j := k') (unhide HFK)
                have hst := hL'.set (j := k') (u := .slice a1 lc k1) (r := rs.getD (k + i) []) ((unhide HR1).later hB)
                have HL1 := hide hst.1
                have HK1 := hide (hK'.trans hst.2 (Nw.refl _ _))
                clear hL' hK' hst
                go_wp2
                go_roundw
                case rel => exact ⟨k' + 1, i + 1, cs.set k' (rs.getD (k + i) []), by go_num, by go_num, by omega, by omega, (unhide HCM).keep (by rw [unhide HN]; have := unhide HM; omega) (by rw [show k + i - 1 = k + p by have := unhide HP; omega]; simpa using unhide HOO), unhide HL1, unhide HK1⟩
                case measure => simp [intOf]; omega
            · have i1 : ¬ (i : Int) < (M : Int) := by omega
              have hMM := unhide HM
              have hcl := (unhide HCM).len
              have hki := (unhide HCM).ki
              rw [unhide HN] at hcl
              have hkn' : k' < N := by omega
              obtain ⟨w6, hclr, hL6, hK6⟩ := clear_from (unhide HW).1 hcl.symm hkn'
              have hsf := fun W => slice_from22 g N c k' W (by omega) hc (by omega)
              have hst := fun W => slice_to22 (some ⟨g, 0, none⟩) N c k' W (by omega) (.inr ⟨g, rfl⟩)
              have HPR : Hid (cs.take k' = onceP rs) := by
                have := (unhide HCM).pre
                rw [show k + i = N by omega, ← unhide HN] at this
                exact this
              have HL6 := hide hL6
              have HK6 := hide ((unhide HW).2.trans hK6 (Nw.refl _ _))
              clear hL6 hK6 hMM hcl hki
              go_wp2
              go_ret
              exact ⟨_, rfl, by rw [← unhide HPR]; exact unhide HL6, rfl, (unhide HK6).mono fun b e => by rw [e]; rfl⟩
        · have jo : (O == 0) = false := by simpa using ho
          go_wp2
          go_roundw
          case rel => exact ⟨k + 1, by go_num, by omega, by omega, onceT_more (unhide HI).1 (by rw [unhide HN]; exact hlt) (by rw [show k - 1 = p by have := unhide HP; omega, unhide HOO]; exact ho), below_step (unhide HI).2 hB⟩
          case measure => simp [intOf]; omega
      · have j1 : ¬ (k : Int) < (N : Int) := by omega
        have hke : k = N := by omega
        have hon : onceP rs = rs := by
          unfold onceP
          have := (unhide HI).1
          rw [hke, ← unhide HN] at this
          rw [this, List.take_length]
        have HON := hide hon
        clear hon hke
        go_wp2
        go_ret
        exact ⟨_, rfl, by rw [unhide HON]; exact (unhide HL).later (unhide HI).2, rfl, Ky.of_below (unhide HI).2⟩
end Go.Proofs.YtcbenpodohjbiaaGreat

import Derived.Test.YtcpndojkfngioaaGreatTbB
import Derived.Test.YtcpndojkfngioaaGreatPlN
set_option linter.unusedSimpArgs false
set_option linter.unusedVariables false
namespace Go.Proofs.YtcpndojkfngioaaGreat
open Go.RowKit Go.Sort

/-- A value may stand in a column of this kind. -/
def fitV (v : Val) (k : Int) : Bool := !((decide (¬ (cleanV v).k = 0) && decide (¬ (cleanV v).k = k)) || decide (1000 < (cleanV v).s.size))
/-- A row has a value for each column, and each may stand there. -/
def rowB (r : List Val) (ks : List Int) : Bool := decide (r.length = ks.length) && !(r.zip ks).any fun p => !fitV p.1 p.2
theorem one_facts {w w2 : World} {a : Val} (h : Below (w.alloc (.cells #[.int .i64 a.k, .int .i64 a.n, .string a.s] 65)).heap.size (w.alloc (.cells #[.int .i64 a.k, .int .i64 a.n, .string a.s] 65)) w2) : BoxAt w2 w.heap.size a ∧ FreeAt w2 w.heap.size := by
  have h0 : BoxAt (w.alloc (.cells #[.int .i64 a.k, .int .i64 a.n, .string a.s] 65)) w.heap.size a := ⟨by simp [go_sem], by simp [go_sem], by simp [go_sem]⟩
  have h1 : FreeAt (w.alloc (.cells #[.int .i64 a.k, .int .i64 a.n, .string a.s] 65)) w.heap.size := ⟨by simp [go_sem], by simp [go_sem], by simp [go_sem]⟩
  exact ⟨h0.later h, h1.later (by simp) h⟩
theorem put_one {w w2 : World} {a : Val} (c : Val) (h : BoxAt w2 w.heap.size a) (hb : Below w.heap.size w w2) :
    BoxAt (((w2.setCell ⟨w.heap.size, 0, none⟩ (.int .i64 c.k)).setCell ⟨w.heap.size, 1, none⟩ (.int .i64 c.n)).setCell ⟨w.heap.size, 2, none⟩ (.string c.s)) w.heap.size c ∧
    Below w.heap.size w (((w2.setCell ⟨w.heap.size, 0, none⟩ (.int .i64 c.k)).setCell ⟨w.heap.size, 1, none⟩ (.int .i64 c.n)).setCell ⟨w.heap.size, 2, none⟩ (.string c.s)) := by
  obtain ⟨h0, h1, h2⟩ := h
  exact ⟨⟨by simp [go_sem, *], by simp [go_sem, *], by simp [go_sem, *]⟩, put3 hb (Nat.le_refl _) _ _ _⟩
theorem zip_at {r : List Val} {ks : List Int} {k : Nat} {x : Val} {y : Int} (hx : r[k]? = some x) (hy : ks[k]? = some y) : (r.zip ks)[k]? = some (x, y) := by
  rw [List.getElem?_zip_eq_some]; exact ⟨hx, hy⟩
set_option maxHeartbeats 4000000 in
set_option maxRecDepth 100000 in
/-- tallyref.RowFits (13). -/
theorem rowFits_any (ks : List Int) (r : List Val) (ka : Option Addr) (kc : Nat) (ra : Option Addr) (rc : Nat) (w : World) (hr : r.length ≤ 1048576) (hk : ks.length ≤ 1048576) (hK : IntsAt w ka ks) (hR : RowAt w ra r) :
    Calls Tryz.prog 13 #[.slice ka ks.length kc, .slice ra r.length rc] w fun e w' => e = .returned (.bool (rowB r ks)) ∧ Below w.heap.size w w' := by
  have HK := hide hK
  have HRW := hide hR
  obtain ⟨R, hRR⟩ : ∃ R, R = rowB r ks := ⟨_, rfl⟩
  rw [← hRR]
  unfold rowB at hRR
  
  clear hK hR
  by_cases hlen : r.length = ks.length
  case neg =>
    obtain rfl : R = false := by rw [hRR]; simp [hlen]
    have e0 : ((r.length : Int) != (ks.length : Int)) = true := by simp; omega
    clear hRR hlen
    go_enter Tryz.func13, Tryz.ntmps13
    go_wp2
    go_ret
    exact ⟨rfl, Below.refl _ _⟩
  have e0 : ((r.length : Int) != (ks.length : Int)) = false := by simp; omega
  have HRR : Hid (R = !(r.zip ks).any fun p => !fitV p.1 p.2) := by show _ = _; rw [hRR, decide_eq_true hlen]; rfl
  have HLEN := hide hlen
  clear hRR hlen
  go_enter Tryz.func13, Tryz.ntmps13
  go_wp2_with fail
  go_loopw [14] (fun i wr => ∃ k : Nat, k ≤ r.length ∧ i = .int .i64 (k : Int) ∧ Hid (((r.zip ks).take k).any (fun p => !fitV p.1 p.2) = false) ∧ Hid (Below w.heap.size w wr)) (fun i _ => r.length - (intOf i).toNat)
  case atStart => exact ⟨0, Nat.zero_le _, rfl, by show _ = _; rfl, Below.refl _ _⟩
  case round =>
    obtain ⟨k, hkr, rfl, HM, HBL⟩ := hrel
    by_cases hlt : k < r.length
    · have h9 : (k : Int) < (r.length : Int) := by omega
      have hkk : k < ks.length := by have := unhide HLEN; omega
      obtain ⟨x, hx⟩ : ∃ x, r[k]? = some x := ⟨_, List.getElem?_eq_getElem hlt⟩
      obtain ⟨b, off, ea, d0, d1, d2⟩ := ((unhide HRW).later (unhide HBL)).lo hx
      obtain ⟨y, hy⟩ : ∃ y, ks[k]? = some y := ⟨_, List.getElem?_eq_getElem (by omega)⟩
      obtain ⟨vb, vo, eka, d3⟩ := ((unhide HK).later (unhide HBL)).get hy
      have HZP := hide (zip_at hx hy)
      have HC := hide (rclean_any x (wr.alloc (.cells #[.int .i64 x.k, .int .i64 x.n, .string x.s] 65)))
      have hba := below_alloc (Below.refl _ wr) (.cells #[.int .i64 x.k, .int .i64 x.n, .string x.s] 65)
      have HBA := hide hba
      rw [ea, eka]
      obtain ⟨cx, hcx⟩ : ∃ cx, cx = cleanV x := ⟨_, rfl⟩
      obtain ⟨nb, hnb⟩ : ∃ nb, nb = !fitV x y := ⟨_, rfl⟩
      have HNB : Hid (nb = ((decide (¬ cx.k = 0) && decide (¬ cx.k = y)) || decide (1000 < cx.s.size))) := by show _ = _; rw [hnb, hcx]; unfold fitV; rw [Bool.not_not]
      have HNX := hide hnb
      rw [← hcx] at HC
      simp only [Val.open_] at HC
      clear hx hy hcx hnb hba
      go_upto_region 7 with (go_at_call 26; refine (unhide HC).mono ?_; rintro e w3 ⟨rfl, hb3⟩; obtain ⟨⟨g0, g1, g2⟩, z0, z1, z2⟩ := one_facts hb3)
      have HPO := hide (put_one cx ⟨g0, g1, g2⟩ (below_step (unhide HBA) hb3))
      have d3' : w3.cell? ⟨vb, vo + k, none⟩ = some (.int .i64 y) := clater d3 (below_step (unhide HBA) hb3)
      obtain ⟨wq, hwq⟩ : ∃ wq, wq = (((w3.setCell ⟨wr.heap.size, 0, none⟩ (.int .i64 cx.k)).setCell ⟨wr.heap.size, 1, none⟩ (.int .i64 cx.n)).setCell ⟨wr.heap.size, 2, none⟩ (.string cx.s)) := ⟨_, rfl⟩
      rw [← hwq] at HPO ⊢
      have d4 := clater d3 (unhide HPO).2
      obtain ⟨k0, k1, k2⟩ := (unhide HPO).1
      have HBQ := hide (below_step (unhide HBL) (unhide HPO).2)
      clear g0 g1 g2 z0 z1 z2 hb3 d0 d1 d2 d3 d3' hwq HPO HBA HC
      go_cut [38] (fun s wx => s = .bool nb ∧ Below wq.heap.size wq wx)
      case first =>
        have q0 := cell_regrown k0
        have q2 := cell_regrown k2
        have q3 := cell_regrown d4
        clear k0 k1 k2 d4
        by_cases a3 : 1000 < cx.s.size
        · have b3 : (1000 : Int) < (cx.s.size : Int) := by omega
          by_cases a1 : cx.k = 0
          · have b1 : (cx.k != 0) = false := by rw [a1]; rfl
            obtain rfl : nb = true := by rw [unhide HNB]; simp [*]
            clear HNB a1 a3
            refine wp_region_quiet_below (by kernel_rfl) (by kernel_rfl) ?_
            repeat (go_big_quiet_step (fail))
            refine wpQuiet_nil ?_
            intro w2 hw2
            have hB2 : Below wq.heap.size wq w2 := by obtain ⟨p, rfl⟩ := hw2; exact below_regrown _ _ _
            clear hw2
            go_wp2
            go_meet
            exact ⟨rfl, hB2⟩
          have b1 : (cx.k != 0) = true := by simpa using a1
          by_cases a2 : cx.k = y
          · have b2 : (cx.k != y) = false := by rw [a2]; simp
            obtain rfl : nb = true := by rw [unhide HNB]; simp [*]
            clear HNB a1 a2 a3
            refine wp_region_quiet_below (by kernel_rfl) (by kernel_rfl) ?_
            repeat (go_big_quiet_step (fail))
            refine wpQuiet_nil ?_
            intro w2 hw2
            have hB2 : Below wq.heap.size wq w2 := by obtain ⟨p, rfl⟩ := hw2; exact below_regrown _ _ _
            clear hw2
            go_wp2
            go_meet
            exact ⟨rfl, hB2⟩
          have b2 : (cx.k != y) = true := by simpa using a2
          obtain rfl : nb = true := by rw [unhide HNB]; simp [*]
          clear HNB a1 a2 a3
          refine wp_region_quiet_below (by kernel_rfl) (by kernel_rfl) ?_
          repeat (go_big_quiet_step (fail))
          refine wpQuiet_nil ?_
          intro w2 hw2
          have hB2 : Below wq.heap.size wq w2 := by obtain ⟨p, rfl⟩ := hw2; exact below_regrown _ _ _
          clear hw2
          go_wp2
          go_meet
          exact ⟨rfl, hB2⟩
        · have b3 : ¬ (1000 : Int) < (cx.s.size : Int) := by omega
          by_cases a1 : cx.k = 0
          · have b1 : (cx.k != 0) = false := by rw [a1]; rfl
            obtain rfl : nb = false := by rw [unhide HNB]; simp [*]
            clear HNB a1 a3
            refine wp_region_quiet_below (by kernel_rfl) (by kernel_rfl) ?_
            repeat (go_big_quiet_step (fail))
            refine wpQuiet_nil ?_
            intro w2 hw2
            have hB2 : Below wq.heap.size wq w2 := by obtain ⟨p, rfl⟩ := hw2; exact below_regrown _ _ _
            clear hw2
            go_wp2
            go_meet
            exact ⟨rfl, hB2⟩
          have b1 : (cx.k != 0) = true := by simpa using a1
          by_cases a2 : cx.k = y
          · have b2 : (cx.k != y) = false := by rw [a2]; simp
            obtain rfl : nb = false := by rw [unhide HNB]; simp [*]
            clear HNB a1 a2 a3
            refine wp_region_quiet_below (by kernel_rfl) (by kernel_rfl) ?_
            repeat (go_big_quiet_step (fail))
            refine wpQuiet_nil ?_
            intro w2 hw2
            have hB2 : Below wq.heap.size wq w2 := by obtain ⟨p, rfl⟩ := hw2; exact below_regrown _ _ _
            clear hw2
            go_wp2
            go_meet
            exact ⟨rfl, hB2⟩
          have b2 : (cx.k != y) = true := by simpa using a2
          obtain rfl : nb = true := by rw [unhide HNB]; simp [*]
          clear HNB a1 a2 a3
          refine wp_region_quiet_below (by kernel_rfl) (by kernel_rfl) ?_
          repeat (go_big_quiet_step (fail))
          refine wpQuiet_nil ?_
          intro w2 hw2
          have hB2 : Below wq.heap.size wq w2 := by obtain ⟨p, rfl⟩ := hw2; exact below_regrown _ _ _
          clear hw2
          go_wp2
          go_meet
          exact ⟨rfl, hB2⟩
      case rest =>
        obtain ⟨rfl, hbx⟩ := hcut
        have HBX := hide (below_step (unhide HBQ) hbx)
        clear hbx k0 k1 k2 d4 HNB
        cases nb
        · have HM2 := hide (any_snoc (p := fun p => !fitV p.1 p.2) (unhide HZP) (unhide HM) (unhide HNX).symm)
          clear HM HNX HZP
          go_wp2
          exact ⟨⟨k + 1, by omega, by go_num, unhide HM2, unhide HBX⟩, by simp [intOf]; omega⟩
        · have HZ : Hid (R = false) := by show _ = _; rw [unhide HRR, any_mem (p := fun p => !fitV p.1 p.2) (unhide HZP) (unhide HNX).symm]; rfl
          clear HM HNX HZP
          go_wp2
          exact bodyPost_ret (v := .bool false) (by simp [results, Tryz.results13, go_sem]) rfl ⟨by rw [unhide HZ], unhide HBX⟩
    · have h9 : ¬ (k : Int) < (r.length : Int) := by omega
      have HZ : Hid (R = true) := by
        have h1 := unhide HM
        rw [List.take_of_length_le (by rw [List.length_zip]; omega)] at h1
        show _ = _
        rw [unhide HRR, h1]; rfl
      clear HM
      go_wp2
      exact bodyPost_ret (v := .bool true) (by simp [results, Tryz.results13, go_sem]) rfl ⟨by rw [unhide HZ], unhide HBL⟩
set_option maxHeartbeats 4000000 in
set_option maxRecDepth 100000 in
/-- Fits (41). -/
theorem fits_any (cs : List (ByteArray × Int)) (r : List Val) (ka : Option Addr) (kc : Nat) (ra : Option Addr) (rc : Nat) (w : World) (hr : r.length ≤ 1048576) (hk : cs.length ≤ 1048576) (hK : ColsT w ka cs) (hR : RowAt w ra r) :
    Calls Tryz.prog 41 #[.slice ra r.length rc, .slice ka cs.length kc] w fun e w' => e = .returned (.bool (rowB r (cs.map Prod.snd))) ∧ Below w.heap.size w w' := by
  have HK := hide hK
  have HRW := hide hR
  obtain ⟨R, hRR⟩ : ∃ R, R = rowB r (cs.map Prod.snd) := ⟨_, rfl⟩
  rw [← hRR]
  unfold rowB at hRR
  rw [List.length_map] at hRR
  clear hK hR
  by_cases hlen : r.length = cs.length
  case neg =>
    obtain rfl : R = false := by rw [hRR]; simp [hlen]
    have e0 : ((r.length : Int) != (cs.length : Int)) = true := by simp; omega
    clear hRR hlen
    go_enter Tryz.func41, Tryz.ntmps41
    go_wp2
    go_ret
    exact ⟨rfl, Below.refl _ _⟩
  have e0 : ((r.length : Int) != (cs.length : Int)) = false := by simp; omega
  have HRR : Hid (R = !(r.zip (cs.map Prod.snd)).any fun p => !fitV p.1 p.2) := by show _ = _; rw [hRR, decide_eq_true hlen]; rfl
  have HLEN := hide hlen
  clear hRR hlen
  go_enter Tryz.func41, Tryz.ntmps41
  go_wp2_with fail
  go_loopw [14] (fun i wr => ∃ k : Nat, k ≤ r.length ∧ i = .int .i64 (k : Int) ∧ Hid (((r.zip (cs.map Prod.snd)).take k).any (fun p => !fitV p.1 p.2) = false) ∧ Hid (Below w.heap.size w wr)) (fun i _ => r.length - (intOf i).toNat)
  case atStart => exact ⟨0, Nat.zero_le _, rfl, by show _ = _; rfl, Below.refl _ _⟩
  case round =>
    obtain ⟨k, hkr, rfl, HM, HBL⟩ := hrel
    by_cases hlt : k < r.length
    · have h9 : (k : Int) < (r.length : Int) := by omega
      have hkk : k < cs.length := by have := unhide HLEN; omega
      obtain ⟨x, hx⟩ : ∃ x, r[k]? = some x := ⟨_, List.getElem?_eq_getElem hlt⟩
      obtain ⟨b, off, ea, d0, d1, d2⟩ := ((unhide HRW).later (unhide HBL)).lo hx
      obtain ⟨z, hz⟩ : ∃ z, cs[k]? = some z := ⟨_, List.getElem?_eq_getElem (by omega)⟩
      obtain ⟨vb, vo, eka, _, d3⟩ := ((unhide HK).later (unhide HBL)).get hz
      have hy : (cs.map Prod.snd)[k]? = some z.2 := by rw [List.getElem?_map, hz]; rfl
      obtain ⟨z1, y⟩ := z
      simp only at d3 hy
      have HZP := hide (zip_at hx hy)
      have HC := hide (clean_any x (wr.alloc (.cells #[.int .i64 x.k, .int .i64 x.n, .string x.s] 65)))
      have hba := below_alloc (Below.refl _ wr) (.cells #[.int .i64 x.k, .int .i64 x.n, .string x.s] 65)
      have HBA := hide hba
      rw [ea, eka]
      obtain ⟨cx, hcx⟩ : ∃ cx, cx = cleanV x := ⟨_, rfl⟩
      obtain ⟨nb, hnb⟩ : ∃ nb, nb = !fitV x y := ⟨_, rfl⟩
      have HNB : Hid (nb = ((decide (¬ cx.k = 0) && decide (¬ cx.k = y)) || decide (1000 < cx.s.size))) := by show _ = _; rw [hnb, hcx]; unfold fitV; rw [Bool.not_not]
      have HNX := hide hnb
      rw [← hcx] at HC
      simp only [Val.open_] at HC
      clear hx hy hcx hnb hba
      go_upto_region 7 with (go_at_call 69; refine (unhide HC).mono ?_; rintro e w3 ⟨rfl, hb3⟩; obtain ⟨⟨g0, g1, g2⟩, z0, z1, z2⟩ := one_facts hb3)
      have HPO := hide (put_one cx ⟨g0, g1, g2⟩ (below_step (unhide HBA) hb3))
      have d3' : w3.cell? ⟨vb, vo + k * 2 + 1, none⟩ = some (.int .i64 y) := clater d3 (below_step (unhide HBA) hb3)
      obtain ⟨wq, hwq⟩ : ∃ wq, wq = (((w3.setCell ⟨wr.heap.size, 0, none⟩ (.int .i64 cx.k)).setCell ⟨wr.heap.size, 1, none⟩ (.int .i64 cx.n)).setCell ⟨wr.heap.size, 2, none⟩ (.string cx.s)) := ⟨_, rfl⟩
      rw [← hwq] at HPO ⊢
      have d4 := clater d3 (unhide HPO).2
      obtain ⟨k0, k1, k2⟩ := (unhide HPO).1
      have HBQ := hide (below_step (unhide HBL) (unhide HPO).2)
      clear g0 g1 g2 z0 z1 z2 hb3 d0 d1 d2 d3 d3' hwq HPO HBA HC
      go_cut [39] (fun s wx => s = .bool nb ∧ Below wq.heap.size wq wx)
      case first =>
        have q0 := cell_regrown k0
        have q2 := cell_regrown k2
        have q3 := cell_regrown d4
        clear k0 k1 k2 d4
        by_cases a3 : 1000 < cx.s.size
        · have b3 : (1000 : Int) < (cx.s.size : Int) := by omega
          by_cases a1 : cx.k = 0
          · have b1 : (cx.k != 0) = false := by rw [a1]; rfl
            obtain rfl : nb = true := by rw [unhide HNB]; simp [*]
            clear HNB a1 a3
            refine wp_region_quiet_below (by kernel_rfl) (by kernel_rfl) ?_
            repeat (go_big_quiet_step (fail))
            refine wpQuiet_nil ?_
            intro w2 hw2
            have hB2 : Below wq.heap.size wq w2 := by obtain ⟨p, rfl⟩ := hw2; exact below_regrown _ _ _
            clear hw2
            go_wp2
            go_meet
            exact ⟨rfl, hB2⟩
          have b1 : (cx.k != 0) = true := by simpa using a1
          by_cases a2 : cx.k = y
          · have b2 : (cx.k != y) = false := by rw [a2]; simp
            obtain rfl : nb = true := by rw [unhide HNB]; simp [*]
            clear HNB a1 a2 a3
            refine wp_region_quiet_below (by kernel_rfl) (by kernel_rfl) ?_
            repeat (go_big_quiet_step (fail))
            refine wpQuiet_nil ?_
            intro w2 hw2
            have hB2 : Below wq.heap.size wq w2 := by obtain ⟨p, rfl⟩ := hw2; exact below_regrown _ _ _
            clear hw2
            go_wp2
            go_meet
            exact ⟨rfl, hB2⟩
          have b2 : (cx.k != y) = true := by simpa using a2
          obtain rfl : nb = true := by rw [unhide HNB]; simp [*]
          clear HNB a1 a2 a3
          refine wp_region_quiet_below (by kernel_rfl) (by kernel_rfl) ?_
          repeat (go_big_quiet_step (fail))
          refine wpQuiet_nil ?_
          intro w2 hw2
          have hB2 : Below wq.heap.size wq w2 := by obtain ⟨p, rfl⟩ := hw2; exact below_regrown _ _ _
          clear hw2
          go_wp2
          go_meet
          exact ⟨rfl, hB2⟩
        · have b3 : ¬ (1000 : Int) < (cx.s.size : Int) := by omega
          by_cases a1 : cx.k = 0
          · have b1 : (cx.k != 0) = false := by rw [a1]; rfl
            obtain rfl : nb = false := by rw [unhide HNB]; simp [*]
            clear HNB a1 a3
            refine wp_region_quiet_below (by kernel_rfl) (by kernel_rfl) ?_
            repeat (go_big_quiet_step (fail))
            refine wpQuiet_nil ?_
            intro w2 hw2
            have hB2 : Below wq.heap.size wq w2 := by obtain ⟨p, rfl⟩ := hw2; exact below_regrown _ _ _
            clear hw2
            go_wp2
            go_meet
            exact ⟨rfl, hB2⟩
          have b1 : (cx.k != 0) = true := by simpa using a1
          by_cases a2 : cx.k = y
          · have b2 : (cx.k != y) = false := by rw [a2]; simp
            obtain rfl : nb = false := by rw [unhide HNB]; simp [*]
            clear HNB a1 a2 a3
            refine wp_region_quiet_below (by kernel_rfl) (by kernel_rfl) ?_
            repeat (go_big_quiet_step (fail))
            refine wpQuiet_nil ?_
            intro w2 hw2
            have hB2 : Below wq.heap.size wq w2 := by obtain ⟨p, rfl⟩ := hw2; exact below_regrown _ _ _
            clear hw2
            go_wp2
            go_meet
            exact ⟨rfl, hB2⟩
          have b2 : (cx.k != y) = true := by simpa using a2
          obtain rfl : nb = true := by rw [unhide HNB]; simp [*]
          clear HNB a1 a2 a3
          refine wp_region_quiet_below (by kernel_rfl) (by kernel_rfl) ?_
          repeat (go_big_quiet_step (fail))
          refine wpQuiet_nil ?_
          intro w2 hw2
          have hB2 : Below wq.heap.size wq w2 := by obtain ⟨p, rfl⟩ := hw2; exact below_regrown _ _ _
          clear hw2
          go_wp2
          go_meet
          exact ⟨rfl, hB2⟩
      case rest =>
        obtain ⟨rfl, hbx⟩ := hcut
        have HBX := hide (below_step (unhide HBQ) hbx)
        clear hbx k0 k1 k2 d4 HNB
        cases nb
        · have HM2 := hide (any_snoc (p := fun p => !fitV p.1 p.2) (unhide HZP) (unhide HM) (unhide HNX).symm)
          clear HM HNX HZP
          go_wp2
          exact ⟨⟨k + 1, by omega, by go_num, unhide HM2, unhide HBX⟩, by simp [intOf]; omega⟩
        · have HZ : Hid (R = false) := by show _ = _; rw [unhide HRR, any_mem (p := fun p => !fitV p.1 p.2) (unhide HZP) (unhide HNX).symm]; rfl
          clear HM HNX HZP
          go_wp2
          exact bodyPost_ret (v := .bool false) (by simp [results, Tryz.results41, go_sem]) rfl ⟨by rw [unhide HZ], unhide HBX⟩
    · have h9 : ¬ (k : Int) < (r.length : Int) := by omega
      have HZ : Hid (R = true) := by
        have h1 := unhide HM
        rw [List.take_of_length_le (by rw [List.length_zip]; omega)] at h1
        show _ = _
        rw [unhide HRR, h1]; rfl
      clear HM
      go_wp2
      exact bodyPost_ret (v := .bool true) (by simp [results, Tryz.results41, go_sem]) rfl ⟨by rw [unhide HZ], unhide HBL⟩
end Go.Proofs.YtcpndojkfngioaaGreat

import Derived.Test.YtgmfbjehdcdioaaOhD
set_option linter.unusedSimpArgs false
set_option linter.unusedVariables false
set_option maxRecDepth 100000
namespace Go.Proofs.Ytgmfbjehdcdioaa
open Go.RowKit Go.Sort

theorem Of.tot_any {w W : World} {b k tot fl mb n : Nat} {S : Value} {E : Nat → Nat × Cn} {L : List (Vk × Nat)} (h : Of w b k tot fl mb S n E L) (hW : Below w.heap.size w W) : Calls Try.prog 12 #[.pointer (some ⟨b, 0, none⟩)] W fun e w' => e = .returned (.int .i64 tot) ∧ Below W.heap.size W w' := by
  refine (total_any (h.later hW)).mono ?_
  rintro e w' ⟨rfl, rfl⟩
  exact ⟨rfl, Below.refl _ _⟩

set_option maxHeartbeats 4000000 in
theorem often_any {w : World} {b k nb : Nat} {F : Ft} {LN xs : List (Vk × Nat)} (h : Lw w b k nb F LN xs) (hx : ClX xs) (hk1 : 1 ≤ k) (hk : k ≤ 1024) (x : Vk) :
    Calls Try.prog 10 #[.pointer (some ⟨b, 0, none⟩), .agg #[.map (some nb), .int .i64 (tot xs)], .int .i64 k, x.v] w fun e w' => e = .returned (.bool true) ∧ Below w.heap.size w w' := by
  obtain ⟨fl, L, hO, hL, hn⟩ := h.sk.1
  have ht := h.sk.2
  obtain ⟨T, hT⟩ : ∃ T, tot xs = T := ⟨_, rfl⟩
  obtain ⟨wd, hwd⟩ : ∃ wd, tot xs / (k + 1) = wd := ⟨_, rfl⟩
  obtain ⟨W0, hW0⟩ : ∃ W0, ((w.alloc (.cells #[.pointer (some ⟨b, 0, none⟩)] 23)).alloc (.cells #[.map (some nb), .int .i64 T] 27)).alloc (.cells #[.int .i64 x.k, .int .i64 x.n, .string x.s] 34) = W0 := ⟨_, rfl⟩
  have hB0 : Below w.heap.size w W0 := by rw [← hW0]; exact below_alloc (below_alloc (below_alloc (Below.refl _ _) _) _) _
  have a0 : W0.cell? ⟨w.heap.size, 0, none⟩ = some (.pointer (some ⟨b, 0, none⟩)) := by rw [← hW0]; simp [go_sem]
  have a1 : W0.cell? ⟨w.heap.size + 1, 0, none⟩ = some (.map (some nb)) := by rw [← hW0]; simp [go_sem]
  have a2 : W0.cell? ⟨w.heap.size + 1, 1, none⟩ = some (.int .i64 T) := by rw [← hW0]; simp [go_sem]
  have a3 : W0.cell? ⟨w.heap.size + 1 + 1, 0, none⟩ = some (.int .i64 x.k) := by rw [← hW0]; simp [go_sem]
  have a4 : W0.cell? ⟨w.heap.size + 1 + 1, 1, none⟩ = some (.int .i64 x.n) := by rw [← hW0]; simp [go_sem]
  have a5 : W0.cell? ⟨w.heap.size + 1 + 1, 2, none⟩ = some (.string x.s) := by rw [← hW0]; simp [go_sem]
  have HB0 := hide hB0
  have HTO : Hid (∀ W, Below w.heap.size w W → Calls Try.prog 12 #[.pointer (some ⟨b, 0, none⟩)] W fun e w' => e = .returned (.int .i64 T) ∧ Below W.heap.size W w') := fun W hW => by rw [← hT]; exact hO.tot_any hW
  have HAL : Hid (∀ W, Below w.heap.size w W → Calls Try.prog 11 #[.pointer (some ⟨b, 0, none⟩)] W fun e w' => ∃ S' ys, e = .returned S' ∧ Hid (OwnF w' W.heap.size S' ys ∧ AllOk k fl F.n F.E ys ∧ Below W.heap.size W w')) := fun W hW => by
    refine (all_any (hO.later hW) (by omega)).mono ?_
    rintro e w' ⟨S', ys, rfl, hA⟩
    exact ⟨S', ys, rfl, hA.own, all_ok hL hx hn hA.perm hA.rises, hA.bel⟩
  have HTD : Hid (∀ W ob cb wb (y : Vk), Below w.heap.size w W → TdB W ob cb wb b nb wd → Calls Try.prog 26 #[.agg #[.int .i64 y.k, .int .i64 y.n, .string y.s], .pointer (some ⟨ob, 0, none⟩), .pointer (some ⟨cb, 0, none⟩), .pointer (some ⟨wb, 0, none⟩)] W fun e w' => e = .returned (.bool true) ∧ Below W.heap.size W w') := fun W ob cb wb y hW hb => told_any (h.later hW) hb hwd.symm y
  have HTL : Hid (∀ W (y : Vk), cleanK y = y → Below w.heap.size w W → Calls Try.prog 27 #[.pointer (some ⟨b, 0, none⟩), .agg #[.int .i64 y.k, .int .i64 y.n, .string y.s]] W fun e w' => e = .returned (.tuple #[.int .i64 (loOf (cts F.E F.n) y), .int .i64 (hiOf fl (cts F.E F.n) y)]) ∧ Below W.heap.size W w') := fun W y hy hW => by
    refine (tell_any (hO.later hW) y).mono ?_
    rintro e w' ⟨r1, r2⟩
    have := loose_tell hL r1
    rw [hy] at this
    exact ⟨this, r2⟩
  have HMP : Hid (∀ W, Below w.heap.size w W → MpN W nb LN) := fun W hW => (h.later hW).mp
  have HOFT : Hid (∀ q ∈ LN, wd < q.2 → ∃ c ∈ cts F.E F.n, c.v = q.1) := fun q hq hlt => by
    have h1 := valN_mem h.ct.1 hq
    rw [h.ct.2] at h1
    rcases Classical.em (∃ c ∈ cts F.E F.n, c.v = q.1) with e | e
    · exact e
    · have := hL.rest q.1 fun c hc e' => e ⟨c, hc, e'⟩
      have := hL.floor
      omega
  have htT : T ≤ 4611686018427387904 := by omega
  have hwdT : wd ≤ T := by rw [← hwd, hT]; exact Nat.div_le_self _ _
  have hq1 : (T : Int) / ((k : Int) + 1) = (wd : Int) := by rw [← hwd, hT]; rfl
  have hq2 : (T : Int).tdiv ((k : Int) + 1) = (wd : Int) := by rw [Int.tdiv_eq_ediv_of_nonneg (by omega)]; exact hq1
  have hk0 : ¬ (k : Int) + 1 = 0 := by omega
  have hk3 : (k : Int) ≤ 1024 := by omega
  rw [hT]
  clear h hO hL hn ht hwd hT hB0 hx
  rw [x.open_]
  go_enter Try.func10, Try.ntmps10
  go_upto_region 1 with fail
  go_cut [23] (fun s23 wc => s23 = .bool false ∧ Hid (Below W0.heap.size W0 wc))
  case first =>
    have k0 := cell_regrown a0
    have k2 := cell_regrown a2
    refine wp_region_quiet_below (by kernel_rfl) (by kernel_rfl) ?_
    repeat (go_big_quiet_step (first | (go_at_call 12; exact Calls.regrown_of (unhide HTO _ (below_step (unhide HB0) (below_regrown _ _ _))))))
    refine wpQuiet_nil ?_
    intro w' hw'
    have HB : Hid (Below W0.heap.size W0 w') := by obtain ⟨p, rfl⟩ := hw'; exact below_regrown _ _ _
    clear hw' k0 k2
    go_wp2
    go_meet
    exact ⟨by simp, HB⟩
  case rest =>
  obtain ⟨rfl, HB⟩ := hcut
  have b0 := cell_later (unhide HB) a0
  have b1 := cell_later (unhide HB) a1
  have b2 := cell_later (unhide HB) a2
  have b3 := cell_later (unhide HB) a3
  have b4 := cell_later (unhide HB) a4
  have b5 := cell_later (unhide HB) a5
  have HBW := hide (below_step (unhide HB0) (unhide HB))
  clear a0 a1 a2 a3 a4 a5
  rename World => wb
  have hsz : w.heap.size + 1 + 1 < wb.heap.size := by
    have h1 := (unhide HB).size
    rw [← hW0] at h1
    simp at h1
    omega
  have hAB : Below wb.heap.size wb (wb.alloc (.cells #[.int .i64 wd] 2)) := below_alloc (Below.refl _ _) _
  have g0 := cell_later hAB b0
  clear hAB
  go_upto_region 6 with (go_at_call 11; refine (unhide HAL _ (below_alloc (unhide HBW) _)).mono ?_; rintro _ w4 ⟨S', ys, rfl, HS⟩)
  have hB4 : Below wb.heap.size wb w4 := (below_alloc (Below.refl _ _) _).trans ((unhide HS).2.2.mono (by simp))
  have d0 := cell_later hB4 b0
  have d1 := cell_later hB4 b1
  have d2 := cell_later hB4 b2
  have d3 := cell_later hB4 b3
  have d4 := cell_later hB4 b4
  have d5 := cell_later hB4 b5
  have d6 : w4.cell? ⟨wb.heap.size, 0, none⟩ = some (.int .i64 wd) := cell_later (unhide HS).2.2 (by simp [go_sem])
  have HW4 : Hid (Below w.heap.size w w4) := (unhide HBW).trans (hB4.mono (by have := (unhide HBW).size; omega))
  have HTB : Hid (TdB w4 w.heap.size (w.heap.size + 1) wb.heap.size b nb wd) := ⟨d0, d1, d6⟩
  have HALL := hide (unhide HS).2.1
  have HOW := hide (unhide HS).1
  obtain ⟨aS, cS, hS⟩ := (unhide HOW).slice
  have hyk : (ys.length : Int) ≤ (k : Int) := by have := (unhide HALL).few; omega
  have HT4 := hide (unhide HTD w4 w.heap.size (w.heap.size + 1) wb.heap.size x (unhide HW4) (unhide HTB))
  have hbn : wb.heap.size < w4.heap.size := World.block_lt_of_cell? _ _ d6
  subst hS
  clear b0 b1 b2 b3 b4 b5 hB4 HB HB0 HBW g0 HS HAL HTO hW0
  have hmm := @run_makeMap Try.prog
  go_upto_region 8 with (go_at_call 26; refine (unhide HT4).mono ?_; rintro _ w5 ⟨rfl, hb5⟩; replace hb5 := hide hb5)
  have HW5 := hide (below_step (unhide HW4) (unhide hb5))
  have HTB5 := hide ((unhide HTB).later (unhide hb5))
  have HOW5 := hide ((unhide HOW).later (unhide hb5))
  have HST5 := hide (OfS.start w5 ys)
  clear d0 d1 d2 d3 d4 d5 d6 HT4 HTB HW4 HOW hb5
  obtain ⟨N, hN⟩ : ∃ N, ys.length = N := ⟨_, rfl⟩
  obtain ⟨sb, hsb⟩ : ∃ sb, w5.heap.size = sb := ⟨_, rfl⟩
  rw [hsb] at HST5
  obtain ⟨o1, ho1⟩ : ∃ o1, w.heap.size = o1 := ⟨_, rfl⟩
  obtain ⟨wbs, hwbs⟩ : ∃ wbs, wb.heap.size = wbs := ⟨_, rfl⟩
  rw [hN] at hyk ⊢
  have HWW : Hid (∀ W, Below w5.heap.size w5 W → Below w.heap.size w W ∧ TdB W o1 (o1 + 1) wbs b nb wd ∧ OwnF W (wb.alloc (.cells #[.int .i64 wd] 2)).heap.size (.slice aS N cS) ys) := fun W hW => by
    have h1 := (unhide HTB5).later hW
    rw [ho1, hwbs] at h1
    have h2 := (unhide HOW5).later hW
    rw [hN] at h2
    exact ⟨below_step (unhide HW5) hW, h1, h2⟩
  have HN := hide hN
  clear hN hsz hbn HTB5 HOW5
  rw [ho1, hwbs]
  go_wp2_with fail
  try rw [hsb]
  go_loopw [13] (fun s13 wr => ∃ (i : Nat) (SL : List (Vk × Nat)), s13 = .int .i64 (i : Int) ∧ i ≤ N ∧ Hid (OfS w5 wr sb ys i SL)) (fun s _ => N - (intOf s).toNat)
  case atStart => exact ⟨0, [], rfl, Nat.zero_le _, HST5⟩
  case round =>
    obtain ⟨i, SL, rfl, hin, HS⟩ := hrel
    clear HST5
    obtain ⟨hw1, htd, how⟩ := unhide HWW wr (unhide HS).bel
    by_cases hi : i < N
    · obtain ⟨y, hy⟩ : ∃ y, ys[i]? = some y := ⟨_, List.getElem?_eq_getElem (by rw [unhide HN]; exact hi)⟩
      obtain ⟨g, hg⟩ : ∃ g, aS = some ⟨g, 0, none⟩ := by
        rcases how.2 with ⟨_, h0⟩ | ⟨g, cap, cur, e, _⟩
        · have := unhide HN; omega
        · injection e with e1 _ _; exact ⟨g, e1⟩
      subst hg
      obtain ⟨e0, e1, e2, e3, e4⟩ := how.facts hy
      obtain ⟨t1, t2, t3, t4⟩ := (unhide HALL).told i y hy
      obtain ⟨X, hX⟩ : ∃ X, wr.alloc (.cells #[.int .i64 y.k, .int .i64 y.n, .string y.s, .int .i64 y.lo, .int .i64 y.hi] 47) = X := ⟨_, rfl⟩
      obtain ⟨bx, hbx⟩ : ∃ bx, wr.heap.size = bx := ⟨_, rfl⟩
      have hbX : Below wr.heap.size wr X := by rw [← hX]; exact below_alloc (Below.refl _ _) _
      have x0 : X.cell? ⟨bx, 0, none⟩ = some (.int .i64 y.k) := by rw [← hX, ← hbx]; simp [go_sem]
      have x1 : X.cell? ⟨bx, 1, none⟩ = some (.int .i64 y.n) := by rw [← hX, ← hbx]; simp [go_sem]
      have x2 : X.cell? ⟨bx, 2, none⟩ = some (.string y.s) := by rw [← hX, ← hbx]; simp [go_sem]
      have x3 : X.cell? ⟨bx, 3, none⟩ = some (.int .i64 y.lo) := by rw [← hX, ← hbx]; simp [go_sem]
      have x4 : X.cell? ⟨bx, 4, none⟩ = some (.int .i64 y.hi) := by rw [← hX, ← hbx]; simp [go_sem]
      have xo := cell_later hbX htd.o
      have HSX := hide ((unhide HS).later hbX)
      have HT := hide (unhide HTL X y.key t1 (unhide HWW X (unhide HSX).bel).1)
      rw [t2, t3] at HT
      simp only [Cn.key] at HT
      have HY := hide hy
      have hsbx : sb ≠ bx := by have := (unhide HS).mp.lt; omega
      have HX2 : Hid (∀ W, Below X.heap.size X W → (W.cell? ⟨bx, 0, none⟩ = some (.int .i64 y.k) ∧ W.cell? ⟨bx, 1, none⟩ = some (.int .i64 y.n) ∧ W.cell? ⟨bx, 2, none⟩ = some (.string y.s) ∧ W.cell? ⟨bx, 3, none⟩ = some (.int .i64 y.lo) ∧ W.cell? ⟨bx, 4, none⟩ = some (.int .i64 y.hi)) ∧ Hid (OfS w5 W sb ys i SL)) := fun W hW => ⟨⟨cell_later hW x0, cell_later hW x1, cell_later hW x2, cell_later hW x3, cell_later hW x4⟩, (unhide HSX).later hW⟩
      obtain ⟨yk, hyk'⟩ : ∃ yk, y.k = yk := ⟨_, rfl⟩
      obtain ⟨yn, hyn⟩ : ∃ yn, y.n = yn := ⟨_, rfl⟩
      obtain ⟨ys', hys⟩ : ∃ ys', y.s = ys' := ⟨_, rfl⟩
      obtain ⟨ylo, hylo⟩ : ∃ ylo, y.lo = ylo := ⟨_, rfl⟩
      obtain ⟨yhi, hyhi⟩ : ∃ yhi, y.hi = yhi := ⟨_, rfl⟩
      rw [hyk', hyn, hys, hylo, hyhi] at HX2 hX
      rw [hyk', hyn, hys, hylo, hyhi] at HT
      rw [hyk'] at x0 e0
      rw [hyn] at x1 e1
      rw [hys] at x2 e2
      rw [hylo] at x3 e3 t4
      rw [hyhi] at x4 e4
      have HYE : Hid (y.key = ⟨yk, yn, ys'⟩) := by show _ = _; rw [← hyk', ← hyn, ← hys]; rfl
      have i1 : (i : Int) < (N : Int) := by omega
      have i2 : (0 : Int) < (ylo : Int) := by omega
      have i5 : ¬ ylo = 0 := by omega
      clear hw1 htd hy hbX t1 t2 t3 hyk' hyn hys hylo hyhi
      go_upto_region 14 with (go_at_call 27; refine (unhide HT).mono ?_; rintro _ w6 ⟨rfl, hb6⟩; clear x0 x1 x2 x3 x4 e0 e1 e2 e3 e4 xo; obtain ⟨⟨x0, x1, x2, x3, x4⟩, HS6⟩ := unhide HX2 w6 hb6; clear hb6)
      go_cut [89] (fun s89 wc => s89 = .bool false ∧ Hid (Below w6.heap.size w6 wc))
      case first =>
        have k0 := cell_regrown x0
        have k1 := cell_regrown x1
        have k2 := cell_regrown x2
        have k3 := cell_regrown x3
        have k4 := cell_regrown x4
        by_cases hi0 : i = 0
        · subst hi0
          refine wp_region_quiet_below (by kernel_rfl) (by kernel_rfl) ?_
          repeat (go_big_quiet_step (fail))
          refine wpQuiet_nil ?_
          intro w' hw'
          have HB7 : Hid (Below w6.heap.size w6 w') := by obtain ⟨p, rfl⟩ := hw'; exact below_regrown _ _ _
          clear hw' k0 k1 k2 k3 k4
          go_wp2
          go_meet
          exact ⟨rfl, HB7⟩
        · obtain ⟨i', hi'⟩ : ∃ i', i = i' + 1 := ⟨i - 1, by omega⟩
          obtain ⟨z, hz⟩ : ∃ z, ys[i']? = some z := ⟨_, List.getElem?_eq_getElem (by rw [unhide HN]; omega)⟩
          have hlt := (unhide HALL).rises i' z y hz (by rw [← hi']; exact unhide HY)
          obtain ⟨q0, q1, q2, q3, q4⟩ := (unhide HWW w6 (unhide HS6).bel).2.2.facts hz
          have HOR : Hid (∀ W, Calls Try.prog 28 #[.agg #[.int .i64 z.k, .int .i64 z.n, .string z.s], .agg #[.int .i64 yk, .int .i64 yn, .string ys']] W fun e w' => e = .returned (.int .i64 (ordV z.key y.key)) ∧ Below W.heap.size W w') := fun W => by
            have := order_up z.key y.key W
            rw [unhide HYE] at this ⊢
            exact this.mono fun e w' h => ⟨h.1, h.2.1⟩
          obtain ⟨r, hr⟩ : ∃ r, ordV z.key y.key = r := ⟨_, rfl⟩
          rw [hr] at hlt HOR
          have j1 : (i : Int) - 1 = (i' : Int) := by omega
          have j2 : (0 : Int) < (i : Int) := by omega
          have j3 : (i' : Int) < (N : Int) := by omega
          have j4 : ¬ (0 : Int) ≤ r := by omega
          have j6 : 0 < i := by omega
          have k5 := cell_regrown q0
          have k6 := cell_regrown q1
          have k7 := cell_regrown q2
          clear q0 q1 q2 q3 q4 hi' hr
          refine wp_region_quiet_below (by kernel_rfl) (by kernel_rfl) ?_
          repeat (go_big_quiet_step (first | (go_at_call 28; exact Calls.regrown_of (unhide HOR _))))
          refine wpQuiet_nil ?_
          intro w' hw'
          have HB7 : Hid (Below w6.heap.size w6 w') := by obtain ⟨p, rfl⟩ := hw'; exact below_regrown _ _ _
          clear hw' k0 k1 k2 k3 k4 k5 k6 k7
          go_wp2
          go_meet
          exact ⟨by simp, HB7⟩
      case rest =>
      obtain ⟨rfl, HB7⟩ := hcut
      rename World => w7
      have HS7 := hide ((unhide HS6).later (unhide HB7))
      have q0 := cell_later (unhide HB7) x0
      have q1 := cell_later (unhide HB7) x1
      have q2 := cell_later (unhide HB7) x2
      clear x0 x1 x2 x3 x4
      obtain ⟨c, hc⟩ : ∃ c, valN SL y.key = c := ⟨_, rfl⟩
      have hcs : c ≤ i := by rw [← hc]; exact (unhide HS7).small _
      have hadd : IntKind.i64.wrap ((c : Int) + 1) = (c : Int) + 1 := by rw [IntKind.wrap_i64]; omega
      have hm7 := ((unhide HS7).later (Below.refl _ _).drew).mp
      obtain ⟨o, st, hme, hmp, hst⟩ := entN map71 y.key hm7
      have hlk := lookN map71 hm7 y.key
      have hlk2 := lookN map71 hmp y.key
      rw [ensL_val (unhide HS7).nod] at hlk2
      rw [hc] at hme hlk hlk2
      have hat : (putO w7.drew sb o).heap[sb]? = some o := putO_at hm7.lt
      obtain ⟨o2, hes, hmp2⟩ := hst (putO w7.drew sb o) (c + 1) hat
      have HFIN : Hid (OfS w5 (putO (putO w7.drew sb o) sb o2) sb ys (i + 1) (setL SL y.key (valN SL y.key + 1))) := by
        refine (unhide HS7).put (unhide HY) (by rw [hc]; exact hmp2) ?_
        have hb7 := (unhide HS7).bel
        exact below_putO (below_putO hb7.drew (unhide HS7).new) (unhide HS7).new
      rw [unhide HYE] at hme hlk hlk2
      simp only [Vk.v, nv] at hme hlk hlk2
      have hes' : (Instr.entryStore 71 (.map (some sb)) (.int .i64 st) (.int .i64 ((c : Int) + 1))).run Try.prog (putO w7.drew sb o) = .ok () (putO (putO w7.drew sb o) sb o2) := hes
      have q0' : (putO w7.drew sb o).cell? ⟨bx, 0, none⟩ = some (.int .i64 yk) := by rw [← q0]; unfold World.cell?; rw [putO_ne (Ne.symm hsbx)]; rfl
      have q1' : (putO w7.drew sb o).cell? ⟨bx, 1, none⟩ = some (.int .i64 yn) := by rw [← q1]; unfold World.cell?; rw [putO_ne (Ne.symm hsbx)]; rfl
      have q2' : (putO w7.drew sb o).cell? ⟨bx, 2, none⟩ = some (.string ys') := by rw [← q2]; unfold World.cell?; rw [putO_ne (Ne.symm hsbx)]; rfl
      clear hmp hst hat hmp2 hes hm7 hcs
      go_upto_region 16 with fail
      refine wp_region_noPanic ?_
      refine wp_region_G (S := fun w' : World => w'.cell? ⟨bx, 0, none⟩ = some (.int .i64 yk) ∧ w'.cell? ⟨bx, 1, none⟩ = some (.int .i64 yn) ∧ w'.cell? ⟨bx, 2, none⟩ = some (.string ys') ∧ (Instr.lookup 71 (.map (some sb)) (.agg #[.int .i64 yk, .int .i64 yn, .string ys']) false).run Try.prog w' = .ok (.int .i64 (c : Int)) w') (k := 7) (by kernel_rfl) ?_
      have SS : (fun w' : World => w'.cell? ⟨bx, 0, none⟩ = some (.int .i64 yk) ∧ w'.cell? ⟨bx, 1, none⟩ = some (.int .i64 yn) ∧ w'.cell? ⟨bx, 2, none⟩ = some (.string ys') ∧ (Instr.lookup 71 (.map (some sb)) (.agg #[.int .i64 yk, .int .i64 yn, .string ys']) false).run Try.prog w' = .ok (.int .i64 (c : Int)) w') w7.drew := ⟨q0, q1, q2, hlk⟩
      change anyG _ _ _ _ _ _ _ _ _ w7.drew
      refine anyG_takel (i := 0) (v := (.map (some sb))) [3, 4, 5, 6, 7] rfl (by kernel_rfl) (by kernel_rfl) (by kernel_rfl) (by kernel_rfl) (fun _ _ _ h => h) (Or.inl ⟨by rfl, fun w' hSw => ?_⟩) SS ?_
      · dsimp only at hSw; obtain ⟨z0, z1, z2, z3⟩ := hSw; go_simp
      try simp only [Act.put, List.setIfInBounds_toArray, List.set_cons_zero, List.set_cons_succ]
      refine anyG_takel (i := 1) (v := (.pointer (some ⟨bx, 0, none⟩))) [2, 3, 4, 5, 6, 7] rfl (by kernel_rfl) (by kernel_rfl) (by kernel_rfl) (by kernel_rfl) (fun _ _ _ h => h) (Or.inl ⟨by rfl, fun w' hSw => ?_⟩) SS ?_
      · dsimp only at hSw; obtain ⟨z0, z1, z2, z3⟩ := hSw; go_simp
      try simp only [Act.put, List.setIfInBounds_toArray, List.set_cons_zero, List.set_cons_succ]
      refine anyG_takel (i := 2) (v := (.agg #[.int .i64 yk, .int .i64 yn, .string ys'])) [3, 4, 5, 6, 7] rfl (by kernel_rfl) (by kernel_rfl) (by kernel_rfl) (by kernel_rfl) (fun _ _ _ h => h) (Or.inl ⟨by rfl, fun w' hSw => ?_⟩) SS ?_
      · dsimp only at hSw; obtain ⟨z0, z1, z2, z3⟩ := hSw; go_simp
      try simp only [Act.put, List.setIfInBounds_toArray, List.set_cons_zero, List.set_cons_succ]
      refine anyG_takel (i := 3) (v := (.int .i64 (c : Int))) [4, 7] rfl (by kernel_rfl) (by kernel_rfl) (by kernel_rfl) (by kernel_rfl) (fun _ _ _ h => h) (Or.inl ⟨by rfl, fun w' hSw => ?_⟩) SS ?_
      · dsimp only at hSw; obtain ⟨z0, z1, z2, z3⟩ := hSw; go_simp
      try simp only [Act.put, List.setIfInBounds_toArray, List.set_cons_zero, List.set_cons_succ]
      refine anyG_takel (i := 4) (v := (.int .i64 ((c : Int) + 1))) [7] rfl (by kernel_rfl) (by kernel_rfl) (by kernel_rfl) (by kernel_rfl) (fun _ _ _ h => h) (Or.inl ⟨by rfl, fun w' hSw => ?_⟩) SS ?_
      · dsimp only at hSw; obtain ⟨z0, z1, z2, z3⟩ := hSw; go_simp
      try simp only [Act.put, List.setIfInBounds_toArray, List.set_cons_zero, List.set_cons_succ]
      refine anyG_one (i := 5) (by kernel_rfl) ?_
      refine wpOp_lit rfl (by rfl) fun K hK => ?_
      go_simp
      refine unhide hK _ _ ⟨fun _ => ⟨q0', q1', q2', hlk2⟩, ?_⟩
      clear hK K
      refine anyG_one (i := 6) (by kernel_rfl) ?_
      refine wpOp_lit rfl (by rfl) fun K hK => ?_
      go_simp
      refine unhide hK _ _ ⟨fun _ => ⟨q0', q1', q2', hlk2⟩, ?_⟩
      clear hK K
      refine anyG_one (i := 7) (by kernel_rfl) ?_
      refine wpOp_lit rfl (by rfl) fun K hK => ?_
      go_simp
      refine unhide hK _ _ ⟨fun hh => absurd hh (by decide), ?_⟩
      clear hK K
      refine anyG_done (by kernel_rfl) ?_ _
      refine NoPanic.normal ?_
      clear SS hme hlk hlk2 hes' q0' q1' q2' q0 q1 q2
      go_wp2
      go_roundw
      case rel => exact ⟨i + 1, _, by go_num, by omega, HFIN⟩
      case measure => simp [intOf]; omega
    · obtain rfl : i = N := by omega
      obtain ⟨o, hrg, hR⟩ := range_run map25 (unhide HMP wr hw1)
      have g1 := htd.m
      obtain ⟨rb, hrb⟩ : ∃ rb, wr.heap.size = rb := ⟨_, rfl⟩
      obtain ⟨Z, hZ⟩ : ∃ Z, wr.alloc o = Z := ⟨_, rfl⟩
      have hZB : Below wr.heap.size wr Z := by rw [← hZ]; exact below_alloc (Below.refl _ _) _
      have HZB := hide hZB
      rw [hrb, hZ] at hrg hR
      have HR0 := hide hR
      have HLE : Hid (∀ q ∈ LN, q ∈ LN) := fun q hq => hq
      have HPK : Hid (∀ W, Below wr.heap.size wr W → Below w.heap.size w W ∧ TdB W o1 (o1 + 1) wbs b nb wd ∧ MpN W sb SL) := fun W hW => by
        have h1 := (unhide HS).later hW
        obtain ⟨r1, r2, _⟩ := unhide HWW W h1.bel
        exact ⟨r1, r2, h1.mp⟩
      have HPB : Hid (∀ (W : World) (o : Obj), Below wr.heap.size wr W → Below wr.heap.size wr (putO W rb o)) := fun W o hW => below_putO hW (by omega)
      have HSN : Hid (∀ q ∈ LN, wd < q.2 → 0 < valN SL q.1) := fun q hq hlt => by
        obtain ⟨c, hc, e⟩ := unhide HOFT q hq hlt
        obtain ⟨j, y, hj, e2⟩ := (unhide HALL).all c hc
        have hjl := (List.getElem?_eq_some_iff.1 hj).1
        have := (unhide HS).has j y (by rw [← unhide HN]; exact hjl) hj
        rw [e2, e] at this
        exact this
      clear hw1 htd how hR hrb hZ hZB HWW HTL HMP HALL HOFT HS
      go_wp2_with fail
      go_loopw [100] (fun _ wq => ∃ todo, Hid (Rg wq nb rb LN todo) ∧ Hid (Below wr.heap.size wr wq) ∧ Hid (∀ q ∈ todo, q ∈ LN)) (fun _ wq => rgLeft wq nb rb)
      case atStart => exact ⟨LN, HR0, HZB, HLE⟩
      case round =>
        obtain ⟨todo, HR, HB, HQ⟩ := hrel
        clear HR0 HZB HLE hrg g1
        rcases next_run (unhide HR) 0 with ⟨e, hnx⟩ | ⟨pre, q, post, w1, o', e, hw1, hnx, hE⟩
        · have HF := hide (unhide HPK _ (unhide HB)).1
          clear e HPK HPB HSN HQ
          go_wp2
          go_ret
          exact ⟨rfl, unhide HF⟩
        · have hq : q ∈ LN := unhide HQ q (by rw [e]; simp)
          have HB8 := hide (unhide HPB w1 o' (by rcases hw1 with h | h <;> rw [h]; exact unhide HB; exact (unhide HB).drew))
          have HSUB : Hid (∀ z ∈ pre ++ post, z ∈ LN) := fun z hz => unhide HQ z (by rw [e]; rcases List.mem_append.1 hz with h | h; exact List.mem_append_left _ h; exact List.mem_append_right _ (List.mem_cons_of_mem _ h))
          have HLEN : Hid (rgLeft wr nb rb = (pre ++ post).length + 1) := by
            show _ = _
            rw [(unhide HR).left, e]; simp; omega
          have hsn := unhide HSN q hq
          obtain ⟨W8, hW8⟩ : ∃ W8, putO w1 rb o' = W8 := ⟨_, rfl⟩
          rw [hW8] at hnx hE HB8
          have hent := entry_run hE
          obtain ⟨qv, qn⟩ := q
          simp only [Vk.v, nv] at hnx hent hsn
          obtain ⟨kb, hkb⟩ : ∃ kb, W8.heap.size = kb := ⟨_, rfl⟩
          obtain ⟨X9, hX9⟩ : ∃ X9, W8.alloc (.cells #[.int .i64 qv.k, .int .i64 qv.n, .string qv.s] 34) = X9 := ⟨_, rfl⟩
          have hb9 : Below W8.heap.size W8 X9 := by rw [← hX9]; exact below_alloc (Below.refl _ _) _
          have x0 : X9.cell? ⟨kb, 0, none⟩ = some (.int .i64 qv.k) := by rw [← hX9, ← hkb]; simp [go_sem]
          have x1 : X9.cell? ⟨kb, 1, none⟩ = some (.int .i64 qv.n) := by rw [← hX9, ← hkb]; simp [go_sem]
          have x2 : X9.cell? ⟨kb, 2, none⟩ = some (.string qv.s) := by rw [← hX9, ← hkb]; simp [go_sem]
          have HB9 := hide (below_step (unhide HB8) hb9)
          have HR9 := hide (hE.rg.later hb9)
          have HT9 := hide (unhide HTD X9 o1 (o1 + 1) wbs qv (unhide HPK X9 (unhide HB9)).1 (unhide HPK X9 (unhide HB9)).2.1)
          have H10 : Hid (∀ W, Below X9.heap.size X9 W → (W.cell? ⟨kb, 0, none⟩ = some (.int .i64 qv.k) ∧ W.cell? ⟨kb, 1, none⟩ = some (.int .i64 qv.n) ∧ W.cell? ⟨kb, 2, none⟩ = some (.string qv.s)) ∧ W.cell? ⟨wbs, 0, none⟩ = some (.int .i64 wd) ∧ (Instr.lookup 71 (.map (some sb)) (.agg #[.int .i64 qv.k, .int .i64 qv.n, .string qv.s]) false).run Try.prog W = .ok (.int .i64 (valN SL qv)) W ∧ Hid (Rg W nb rb LN (pre ++ post)) ∧ Hid (Below _ _ W)) := fun W hW =>
            ⟨⟨cell_later hW x0, cell_later hW x1, cell_later hW x2⟩, (unhide HPK W (below_step (unhide HB9) hW)).2.1.w, lookN map71 (unhide HPK W (below_step (unhide HB9) hW)).2.2 qv, (unhide HR9).later hW, below_step (unhide HB9) hW⟩
          obtain ⟨sn, hsn'⟩ : ∃ sn, valN SL qv = sn := ⟨_, rfl⟩
          rw [hsn'] at H10 hsn
          clear hE hb9 e hw1 hq hW8 HPK HPB HSN HQ HB8 HB9 HR9 hsn'
          by_cases hlt : wd < qn
          · have s1 := hsn hlt
            have s2 : ¬ sn = 0 := by omega
            have s3 : (wd : Int) < (qn : Int) := by omega
            have s4 : (0 : Int) < (sn : Int) := by omega
            go_wp2_with (go_at_call 26; refine (unhide HT9).mono ?_; rintro _ w9 ⟨rfl, hb⟩; clear x0 x1 x2; obtain ⟨⟨x0, x1, x2⟩, x3, x4, HR9, HB9⟩ := unhide H10 w9 hb; clear hb)
            go_roundw
            case rel => exact ⟨pre ++ post, HR9, HB9, HSUB⟩
            case measure => rw [(unhide HR9).left, unhide HLEN]; omega
          · have s3 : ¬ (wd : Int) < (qn : Int) := by omega
            go_wp2_with (go_at_call 26; refine (unhide HT9).mono ?_; rintro _ w9 ⟨rfl, hb⟩; clear x0 x1 x2; obtain ⟨⟨x0, x1, x2⟩, x3, x4, HR9, HB9⟩ := unhide H10 w9 hb; clear hb)
            go_roundw
            case rel => exact ⟨pre ++ post, HR9, HB9, HSUB⟩
            case measure => rw [(unhide HR9).left, unhide HLEN]; omega
end Go.Proofs.Ytgmfbjehdcdioaa

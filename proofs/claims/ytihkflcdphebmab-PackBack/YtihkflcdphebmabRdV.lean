import Derived.Test.YtihkflcdphebmabRdU
set_option linter.unusedSimpArgs false
set_option linter.unusedVariables false
namespace Go.Proofs.Ytihkflcdphebmab
open Go.RowKit Go.Sort

theorem OwnN.lis {w : World} {base : Nat} {v : Value} {ns : List Nat} (h : OwnN w base v ns) : ∃ a c, v = .slice a ns.length c ∧ LisAt w a (ns.map fun n : Nat => Value.int .i64 (n : Int)) := by
  obtain ⟨a, c, h1, h2, _⟩ := lis_of_own h
  exact ⟨a, c, h1, h2⟩
/-- The boxes of reads. -/
structure RS (W : World) (X : Vc) (p q : Sl) (y : Val) (gp gy gq : Nat) : Prop where
  bp : W.rowIs gp 27 4 (box4 (.int .i64 X.k) (.slice p.a1 X.nl.length p.c1) (.slice p.a2 X.ns.length p.c2) (.slice p.a3 X.ss.length p.c3))
  bY : W.rowIs gy 40 3 (box3 y)
  bq : W.rowIs gq 27 4 (box4 (.int .i64 X.k) (.slice q.a1 X.nl.length q.c1) (.slice q.a2 X.ns.length q.c2) (.slice q.a3 X.ss.length q.c3))
  vp : VecAt W X p
  vq : VecAt W X q
theorem RS.later {W W' : World} {X : Vc} {p q : Sl} {y : Val} {gp gy gq : Nat} (h : RS W X p q y gp gy gq) (hb : Below W.heap.size W W') : RS W' X p q y gp gy gq :=
  ⟨rowIs_later h.bp hb, rowIs_later h.bY hb, rowIs_later h.bq hb, h.vp.later hb, h.vq.later hb⟩
set_option maxHeartbeats 800000 in
set_option maxRecDepth 100000 in
theorem reads_any {s : ByteArray} {sch : Nat} {X : Vc} {p : Sl} (hs : small X) (hg : goodB X = true) (hl : X.nl.length ≤ 4096) (hop : Opens s sch X.k (valsV X)) (hf : fromV X.k (valsV X) = (X, 0)) (i op : Int) (y : Val) (w : World) (hp : VecAt w X p) :
    Calls Try.prog 31 #[.string s, vecV X p, .int .i64 i, .int .i64 op, y.v] w fun e w' => e = .returned (.bool true) ∧ Below w.heap.size w w' := by
  have hvl : (valsV X).length = X.nl.length := vals_len hg
  have HR := hide (fun W => pread_any hop (by omega) hf W)
  have HV : Hid (∀ W q, VecAt W X q → Calls Try.prog 18 #[vecV X q] W fun e w' => ∃ a c, e = .returned (.slice a (valsV X).length c) ∧ RowAt w' a (valsV X) ∧ Below W.heap.size W w') := fun W q hq => by
    refine (values_any X q W hs hq).mono ?_
    rintro e w' ⟨v, rfl, ho, hb⟩
    obtain ⟨a, c, rfl, _, _, hr⟩ := ownV_slice ho
    exact ⟨a, c, rfl, hr, hb⟩
  have HL := hide (fun W => plen_any hop W)
  have HSR := hide (fun W a b c d => samerow_same a b c d (valsV X) W (by omega))
  have HAT := hide (fun W k x => pat_any (k := k) (x := x) hop (by omega) (w := W))
  have HFI := hide (fun W (o : Int) h1 h2 => find_any hop (by omega) o h1 h2 y W)
  have HP := hide hp
  simp only [vecV_open] at HR HV ⊢
  rw [y.open_]
  simp only [y.open_] at HFI
  have hvl2 : (valsV X).length ≤ 4096 := by omega
  generalize valsV X = xs at *
  clear hop hf hp hvl
  go_enter Try.func31, Try.ntmps31
  go_upto_region 2 with (first
    | (go_at_call 47; refine (unhide HR _).mono ?_; rintro e w1 ⟨q, rfl, hv1, hfr1, hb1⟩))
  have hB1 : Below w.heap.size w w1 := below_step (below_alloc (below_alloc (Below.refl _ _) _) _) hb1
  obtain ⟨W, hW⟩ : ∃ W, Hid (W = w1.alloc (.cells #[.int .i64 X.k, .slice q.a1 X.nl.length q.c1, .slice q.a2 X.ns.length q.c2, .slice q.a3 X.ss.length q.c3] 27)) := ⟨_, rfl⟩
  have hRS : RS W X p q y w.heap.size (w.heap.size + 1) w1.heap.size := by
    rw [unhide hW]
    have hba := below_alloc (Below.refl _ w1) (.cells #[.int .i64 X.k, .slice q.a1 X.nl.length q.c1, .slice q.a2 X.ns.length q.c2, .slice q.a3 X.ss.length q.c3] 27)
    refine ⟨rowIs_later (rowIs_later (World.rowIs.alloc (box4_alloc w _ _ _ _) _) hb1) hba, ?_, box4_alloc w1 _ _ _ _, (unhide HP).later (below_step hB1 hba), hv1.later hba⟩
    have h2 := box3_alloc (w.alloc (.cells #[.int .i64 X.k, .slice p.a1 X.nl.length p.c1, .slice p.a2 X.ns.length p.c2, .slice p.a3 X.ss.length p.c3] 27)) y
    have e : (w.alloc (.cells #[.int .i64 X.k, .slice p.a1 X.nl.length p.c1, .slice p.a2 X.ns.length p.c2, .slice p.a3 X.ss.length p.c3] 27)).heap.size = w.heap.size + 1 := by simp
    rw [e] at h2
    exact rowIs_later (rowIs_later h2 hb1) hba
  have hBW : Below w.heap.size w W := by rw [unhide hW]; exact below_alloc hB1 _
  rw [← unhide hW]
  clear hW hb1 hfr1 hv1 hB1 HP HR
  obtain ⟨r0, r1, r2, r3, _⟩ := box_facts hRS.bp
  have HRS := hide hRS
  have HBW := hide hBW
  clear hRS hBW
  go_upto_region 3 with (first
    | (go_at_call 18; refine (unhide HV _ p (unhide HRS).vp).mono ?_; rintro e w2 ⟨a2, c2, rfl, hrow2, hb2⟩))
  have HRS2 := hide ((unhide HRS).later hb2)
  have HB2 := hide (below_step (unhide HBW) hb2)
  have HROW2 := hide hrow2
  obtain ⟨q0, q1, q2, q3, _⟩ := box_facts (unhide HRS2).bq
  clear hb2 HRS HBW r0 r1 r2 r3 hrow2
  go_upto_if 53 with (first
    | (go_at_call 18; refine (unhide HV _ q (unhide HRS2).vq).mono ?_; rintro e w3 ⟨a3, c3, rfl, hrow3, hb3⟩)
    | (go_at_call 48; refine (unhide HSR _ _ _ _ _ hrow3 ((unhide HROW2).later hb3)).mono ?_; rintro e w4 ⟨rfl, hb4⟩; have hB4 := below_step hb3 hb4; have hRS4 := (unhide HRS2).later hB4; obtain ⟨k0, _⟩ := box_facts hRS4.bq; obtain ⟨j0, _⟩ := box_facts hRS4.bp; replace hRS4 := hide hRS4)
    | (go_at_call 49; refine (unhide HL _).mono ?_; rintro e w5 ⟨rfl, hb5⟩; have hB5 := below_step hB4 hb5))
  have HRS5 := hide ((unhide HRS2).later hB5)
  have HB5 := hide (below_step (unhide HB2) hB5)
  have HROW5 := hide ((unhide HROW2).later hB5)
  clear hb3 hb4 hb5 hB4 hB5 hrow3 hRS4 k0 j0 q0 q1 q2 q3 HRS2 HB2 HROW2 HV HL HSR
  have HS := hide (fun (x : Val) => (by simp [sameB] : sameB x x = true))
  go_cut [73] (fun _ wx => Below w5.heap.size w5 wx)
  case first =>
    by_cases h0 : xs.length = 0
    · have h0i : ¬ (0 : Int) < (xs.length : Int) := by omega
      clear h0
      go_wp2_with fail
      go_meet
      exact Below.refl _ _
    · have h0i : (0 : Int) < (xs.length : Int) := by omega
      have HM := hide (fun W => mod_any i xs.length (by omega) hvl2 W)
      clear HFI
      go_upto_region 7 with (first
        | (go_at_call 50; refine (unhide HM _).mono ?_; rintro e w6 ⟨⟨k, hk, rfl⟩, rfl⟩))
      obtain ⟨x, hx⟩ : ∃ x, xs[k]? = some x := ⟨_, List.getElem?_eq_getElem hk⟩
      have HA1 := hide (unhide HAT w6 k x hx)
      have HX := hide hx
      have hki : (k : Int) < (xs.length : Int) := by omega
      clear HM HAT hx
      go_upto_region 8 with (first
        | (go_at_call 51; refine (unhide HA1).mono ?_; rintro e w7 ⟨rfl, hb7⟩; rw [Val.open_]))
      obtain ⟨W7, hW7⟩ : ∃ W7, Hid (W7 = w7.alloc (.cells #[.int .i64 x.k, .int .i64 x.n, .string x.s] 40)) := ⟨_, rfl⟩
      have hB7 : Below w6.heap.size w6 W7 := by rw [unhide hW7]; exact below_alloc hb7 _
      obtain ⟨b0, b1, b2, _, _, _⟩ := box3_facts (show W7.rowIs w7.heap.size 40 3 (box3 x) by rw [unhide hW7]; exact box3_alloc w7 x)
      obtain ⟨vb, vo, rfl, c0, c1, c2⟩ := ((unhide HROW5).later hB7).lo (unhide HX)
      rw [← unhide hW7]
      clear hW7 hb7
      go_quiet (fail)
      go_wp2
      go_meet
      exact below_drewN hB7 _
  case rest =>
    rename World => wx
    have hbx : Below w5.heap.size w5 wx := hcut
    have HRSX := hide ((unhide HRS5).later hbx)
    have HBX := hide (below_step (unhide HB5) hbx)
    have HROWX := hide ((unhide HROW5).later hbx)
    have HM := hide (fun W => mod_any op 6 (by omega) (by omega) W)
    obtain ⟨y0, y1, y2, _, _, _⟩ := box3_facts (unhide HRSX).bY
    clear hcut hbx HRS5 HB5 HROW5 HAT HS
    go_upto_region 11 with (first
      | (go_at_call 50; refine (unhide HM _).mono ?_; rintro e w6 ⟨⟨k6, hk6, rfl⟩, rfl⟩))
    obtain ⟨o, ho⟩ : ∃ o : Int, 12 + (k6 : Int) = o := ⟨_, rfl⟩
    have ho1 : 12 ≤ o := by omega
    have ho2 : o ≤ 17 := by omega
    have HF := hide (unhide HFI w6 o ho1 ho2)
    rw [ho]
    clear HM HFI ho hk6
    go_wp2_with (first
      | (go_at_call 52; refine (unhide HF).mono ?_; rintro e w7 ⟨v7, rfl, ho7, hb7⟩; obtain ⟨pa, pc, rfl, hlis⟩ := OwnN.lis ho7))
    have HRS7 := hide ((unhide HRSX).later hb7)
    have HB7 := hide (below_step (unhide HBX) hb7)
    have HROW7 := hide ((unhide HROWX).later hb7)
    have HLIS := hide hlis
    clear hb7 ho7 hlis HRSX HBX HROWX y0 y1 y2
    go_loopw [18, 86] (fun n i wr => ∃ k : Nat, k ≤ xs.length ∧ i = .int .i64 (k : Int) ∧ n = .int .i64 ((fT (hitF o y xs) k).length : Nat) ∧ Below w7.heap.size w7 wr) (fun _ i _ => xs.length - (intOf i).toNat)
    case atStart => exact ⟨0, Nat.zero_le _, rfl, rfl, Below.refl _ _⟩
    case round =>
      obtain ⟨k, hk, rfl, rfl, hb⟩ := hrel
      have hfl := fT_len (hitF o y xs) k
      have hfN := fT_len (hitF o y xs) xs.length
      by_cases hlt : k < xs.length
      · have h9 : (k : Int) < (xs.length : Int) := by omega
        obtain ⟨x, hx⟩ : ∃ x, xs[k]? = some x := ⟨_, List.getElem?_eq_getElem hlt⟩
        obtain ⟨vb, vo, rfl, c0, c1, c2⟩ := ((unhide HROW7).later hb).lo hx
        obtain ⟨y0, y1, y2, _, _, _⟩ := box3_facts (World.rowIs.alloc (rowIs_later (unhide HRS7).bY hb) (.cells #[.int .i64 x.k, .int .i64 x.n, .string x.s] 40))
        have HT := hide (test_o o x y (wr.alloc (.cells #[.int .i64 x.k, .int .i64 x.n, .string x.s] 40)))
        have HH := hide (true_any (testV o x y))
        have hnx : (fT (hitF o y xs) (k + 1)).length = (fT (hitF o y xs) k).length + (if hitB o y x then 1 else 0) := by
          rw [fT_next, hitF_at hx, List.length_append]
          cases hitB o y x <;> rfl
        have hat : hitB o y x = true → (fT (hitF o y xs) xs.length)[(fT (hitF o y xs) k).length]? = some k := fun h => fT_at hlt (by rw [hitF_at hx]; exact h)
        have HB2 := hide hb
        have hhd : trueB (testV o x y) = hitB o y x := rfl
        rw [hhd] at HH
        have HLI := hide ((unhide HLIS).later hb)
        have hNX := hide hnx
        have hAT := hide hat
        generalize fT (hitF o y xs) xs.length = L at *
        generalize (fT (hitF o y xs) k).length = m at *
        generalize testV o x y = tv at HT HH
        clear hx hb hhd hnx hat
        cases hh : hitB o y x
        · rw [hh] at HH hNX
          clear hh
          go_wp2_with (first
            | (go_at_call 53; refine (unhide HT).mono ?_; rintro e w8 ⟨rfl, hb8⟩)
            | (go_at_call 44; refine (unhide HH _).mono ?_; rintro e w9 ⟨rfl, hb9⟩))
          go_roundw
          case rel => exact ⟨k + 1, by omega, by go_num, by rw [unhide hNX]; rfl, below_step (unhide HB2) (below_step (below_one hb8) hb9)⟩
          case measure => simp [intOf]; omega
        · have hat2 := unhide hAT hh
          rw [hh] at HH hNX
          obtain ⟨lb, lo, rfl, cl⟩ := (unhide HLI).get (k := m) (x := .int .i64 (k : Int)) (by rw [List.getElem?_map, hat2]; rfl)
          have hmN : m < L.length := (List.getElem?_eq_some_iff.1 hat2).1
          have hmi : (m : Int) < (L.length : Int) := by omega
          have HCL := hide cl
          clear hh hat2 cl hmN
          go_wp2_with (first
            | (go_at_call 53; refine (unhide HT).mono ?_; rintro e w8 ⟨rfl, hb8⟩)
            | (go_at_call 44; refine (unhide HH _).mono ?_; rintro e w9 ⟨rfl, hb9⟩; have hB9 := below_step (below_one hb8) hb9; have cl9 := cell_later hB9 (unhide HCL)))
          go_roundw
          case rel => exact ⟨k + 1, by omega, by go_num, by rw [unhide hNX]; go_num, below_step (unhide HB2) hB9⟩
          case measure => simp [intOf]; omega
      · have h9 : ¬ (k : Int) < (xs.length : Int) := by omega
        have ek : k = xs.length := by omega
        rw [ek]
        have HB2 := hide (below_step (unhide HB7) hb)
        generalize fT (hitF o y xs) xs.length = L at *
        clear hb ek hfl
        go_wp2
        go_ret
        exact ⟨by simp, unhide HB2⟩
end Go.Proofs.Ytihkflcdphebmab

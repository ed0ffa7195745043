import Derived.Test.YtmgnndbcbalafaaMdU
set_option linter.unusedSimpArgs false
set_option linter.unusedVariables false
namespace Go.Proofs.Ytmgnndbcbalafaa
open Go.RowKit Go.Sort

set_option maxHeartbeats 1000000 in
set_option maxRecDepth 100000 in
theorem law_good (w : World) (c : Nat) (a : Option Addr) (ca : Nat) (ss : List Cm) (aq : Option Addr) (cq : Nat) (qs : List Int) (hc : okC c = true) (hss : ScAt w a ss) (hqs : NumAt w aq qs) (hsl : ss.length ≤ 140737488355328) (hql : qs.length ≤ 140737488355328) (hN : ∀ x ∈ ss, x.N ≤ 9223372036854775807) :
    Calls Try.prog 3 #[.int .i64 c, .slice a ss.length ca, .slice aq qs.length cq] w fun e w' => e = .returned (.bool true) ∧ Below w.heap.size w w' := by
  have K4 := hide (fun W => new_good c W hc)
  have K5 := hide (fun W b => merge_nil W b)
  simp only [okC, Bool.and_eq_true, decide_eq_true_eq] at hc
  obtain ⟨⟨h1, h2⟩, h3⟩ := hc
  have h1' : ¬ (c : Int) < 2 := by omega
  have h2' : ¬ (1024 : Int) < (c : Int) := by omega
  have h3' : ((c : Int) % 2 != 0) = false := by simpa using h3
  have HC : Hid (c % 2 = 0 ∧ 2 ≤ c ∧ c ≤ 1024) := ⟨by omega, by omega, by omega⟩
  have HSC := hide hss
  have HQS := hide hqs
  have HN := hide hN
  have HST := hide (St.start w c)
  clear hss hqs hN h1 h2 h3
  obtain ⟨bl, hbl⟩ : ∃ bl, w.heap.size = bl := ⟨_, rfl⟩
  go_enter Try.func3, Try.ntmps3
  go_wp2_with fail
  go_loopw [9] (fun s9 wr => ∃ (q : Nat) (bx : Nat → Nat) (Ss : Nat → Value) (Lss : Nat → List Value), q ≤ 3 ∧ s9 = .int .i64 (q : Int) ∧ Hid (St w wr c q bl (bl + 1) bx Ss Lss (fun _ => .slice none 0 0) (fun _ => []) (fun _ => []))) (fun s _ => 3 - (intOf s).toNat)
  case atStart =>
    refine ⟨0, fun _ => 0, fun _ => .slice none 0 0, fun _ => [], by omega, rfl, ?_⟩
    rw [← hbl]; exact HST
  case round =>
    obtain ⟨q, bx, Ss, Lss, hq, rfl, HS⟩ := hrel
    by_cases hlt : q < 3
    · have i1 : (q : Int) < 3 := by omega
      have i2 : (0 : Int) ≤ (q : Int) := by omega
      clear HST
      go_wp2_with (first
        | (go_at_call 4; refine (unhide K4 _).mono ?_; rintro _ w2 ⟨b, S, Ls, rfl, HK2, hb2, HF2⟩; replace hb2 := hide hb2; replace HK2 := hide HK2; replace HF2 := hide HF2)
        | (go_at_call 5; refine (unhide K5 _ _).mono ?_; rintro _ w3 ⟨rfl, hb3⟩; replace hb3 := hide hb3; have HS3 := hide ((unhide HS).later (below_step (unhide hb2) (unhide hb3))); obtain ⟨m0, m1⟩ := And.intro ((unhide HS3).l.cell (i := q) hlt) ((unhide HS3).l.frozen q)))
      go_roundw
      case rel =>
        refine ⟨q + 1, up bx q b, up Ss q S, up Lss q Ls, by omega, by go_num, ?_⟩
        have hk3 := (unhide HK2).keep fun k hk => (unhide hb3).block k ((unhide HK2).lt hk)
        have := (unhide HS).make hlt (below_step (unhide hb2) (unhide hb3)) hk3 (unhide HF2)
        rw [up_const] at this
        exact this
      case measure => simp [intOf]; omega
    · have i1 : ¬ (q : Int) < 3 := by omega
      have hq3 : q = 3 := by omega
      have HA : Hid (At w wr c bl (bl + 1) 0) := by
        have h := unhide HS
        rw [hq3] at h
        exact ⟨bx, Ss, Lss, _, _, h, fun i _ => ⟨by simp, fun z hz => by cases hz⟩⟩
      clear HS HST K4 K5 hlt hq hq3
      go_wp2_with fail
      clear i1
      go_loopw [12] (fun s12 wr => ∃ r : Nat, r ≤ 2000 ∧ r ≤ ss.length ∧ s12 = .int .i64 (r : Int) ∧ Hid (At w wr c bl (bl + 1) r)) (fun s _ => 2000 - (intOf s).toNat)
      case atStart => exact ⟨0, by omega, by omega, rfl, HA⟩
      case round =>
        obtain ⟨r, hr, hrl, rfl, HR⟩ := hrel
        by_cases hlt : r < ss.length ∧ r < 2000
        · obtain ⟨hl1, hl2⟩ := hlt
          have i1 : (r : Int) < (ss.length : Int) := by omega
          have i2 : (r : Int) < 2000 := by omega
          obtain ⟨x, hx⟩ : ∃ x, ss[r]? = some x := ⟨_, List.getElem?_eq_getElem hl1⟩
          have hxN := unhide HN x (List.mem_of_getElem? hx)
          obtain ⟨bx1, Ss1, Lss1, Ms1, Xs1, hSt, hLn⟩ := unhide HR
          rcases (unhide HSC).later hSt.bel with e | ⟨sb, so, rfl, hcel⟩
          · rw [e] at hx; simp at hx
          obtain ⟨d0, d1, d2, d3, d4, d5, d6⟩ := hcel r x hx
          clear hcel
          obtain ⟨W, hW⟩ : ∃ W, wr.alloc (.cells #[.int .i64 x.k, .int .i64 x.n, .string x.s, .int .i64 x.N, .bool x.m, .int .i64 x.A, .int .i64 x.B] 34) = W := ⟨_, rfl⟩
          obtain ⟨bs, hbs⟩ : ∃ bs, wr.heap.size = bs := ⟨_, rfl⟩
          have hBW : Below wr.heap.size wr W := by rw [← hW]; exact below_alloc (Below.refl _ _) _
          have e3 : W.cell? ⟨bs, 3, none⟩ = some (.int .i64 x.N) := by rw [← hW, ← hbs]; simp [go_sem]
          have e4 : W.cell? ⟨bs, 4, none⟩ = some (.bool x.m) := by rw [← hW, ← hbs]; simp [go_sem]
          have e5 : W.cell? ⟨bs, 5, none⟩ = some (.int .i64 x.A) := by rw [← hW, ← hbs]; simp [go_sem]
          have e6 : W.cell? ⟨bs, 6, none⟩ = some (.int .i64 x.B) := by rw [← hW, ← hbs]; simp [go_sem]
          obtain ⟨A, hA⟩ : ∃ A, modN x.A 3 = A := ⟨_, rfl⟩
          obtain ⟨B, hB⟩ : ∃ B, modN x.B 3 = B := ⟨_, rfl⟩
          have hA3 : A < 3 := by rw [← hA]; exact modN_lt _ (by decide)
          have hB3 : B < 3 := by rw [← hB]; exact modN_lt _ (by decide)
          have K6A : Hid (∀ W', Calls Try.prog 6 #[.int .i64 x.A, .int .i64 3] W' fun e w' => e = .returned (.int .i64 (A : Int)) ∧ Below W'.heap.size W' w') := fun W' => by
            have := mod_any x.A 3 (by decide) (by decide) W'
            rw [hA] at this
            exact this.mono fun e w' ⟨q1, q2⟩ => ⟨q1, by rw [q2]; exact Below.refl _ _⟩
          have K6B : Hid (∀ W', Calls Try.prog 6 #[.int .i64 x.B, .int .i64 3] W' fun e w' => e = .returned (.int .i64 (B : Int)) ∧ Below W'.heap.size W' w') := fun W' => by
            have := mod_any x.B 3 (by decide) (by decide) W'
            rw [hB] at this
            exact this.mono fun e w' ⟨q1, q2⟩ => ⟨q1, by rw [q2]; exact Below.refl _ _⟩
          have HBSF : Hid (∀ k, foot (bx1 B) (Ss1 B) (Lss1 B) k → k ≠ bs) := fun k hk => by have := (hSt.sk B hB3).lt hk; omega
          have HSt := hide (hSt.later hBW)
          have HLn := hide hLn
          clear hSt hLn hA hB hx HR hBW
          go_upto_region 16 with fail
          go_cut [14, 15] (fun s14 s15 wc => s14 = .int .i64 (A : Int) ∧ s15 = .int .i64 (B : Int) ∧ Hid (Below W.heap.size W wc))
          case first =>
            have k5 := cell_regrown e5
            have k6 := cell_regrown e6
            clear e3 e4 e5 e6 d0 d1 d2 d3 d4 d5 d6
            refine wp_region_quiet_below (by kernel_rfl) (by kernel_rfl) ?_
            repeat (go_big_quiet_step (first
              | (go_at_call_of 6 (Value.int IntKind.i64 x.A); exact Calls.regrown_of (unhide K6A _))
              | (go_at_call_of 6 (Value.int IntKind.i64 x.B); exact Calls.regrown_of (unhide K6B _))))
            refine wpQuiet_nil ?_
            intro w' hw'
            have hB' : Below W.heap.size W w' := by obtain ⟨p, rfl⟩ := hw'; exact below_regrown _ _ _
            clear hw' k5 k6
            go_wp2
            go_meet
            exact ⟨rfl, rfl, hB'⟩
          case rest =>
            obtain ⟨rfl, rfl, HBW⟩ := hcut
            have HSt2 := hide ((unhide HSt).later (unhide HBW))
            obtain ⟨aA, kkA, eA, hnA, hnnA, hfA⟩ := (unhide HSt2).ms A hA3
            obtain ⟨aB, kkB, eB, hnB, hnnB, hfB⟩ := (unhide HSt2).ms B hB3
            have mA := (unhide HSt2).m.cell (i := A) hA3
            have mB := (unhide HSt2).m.cell (i := B) hB3
            rw [eA] at mA
            rw [eB] at mB
            have g3 := cell_later (unhide HBW) e3
            have g4 := cell_later (unhide HBW) e4
            obtain ⟨la, hla⟩ : ∃ la, (Xs1 A).length = la := ⟨_, rfl⟩
            obtain ⟨lb, hlb⟩ : ∃ lb, (Xs1 B).length = lb := ⟨_, rfl⟩
            have hla2 : la ≤ 22000 := by have := (unhide HLn A hA3).1; omega
            have hlb2 : lb ≤ 22000 := by have := (unhide HLn B hB3).1; omega
            rw [hla] at mA
            rw [hlb] at mB
            have iA : (A : Int) < 3 := by omega
            have iB : (B : Int) < 3 := by omega
            have HEA := hide eA
            have HEB := hide eB
            have HNA := hide hnA
            have HNB := hide hnB
            have HLA := hide hla
            have HLB := hide hlb
            clear e3 e4 e5 e6 d0 d1 d2 d3 d4 d5 d6 eA eB hnA hnB hla hlb K6A K6B HSt
            go_upto_region 17 with fail
            go_cut [91] (fun s91 wd => ∃ fl : Bool, s91 = .bool fl ∧ Hid (fl = true → la + lb ≤ 20000) ∧ Hid (Below wc.heap.size wc wd))
            case first =>
              have k4 := cell_regrown g4
              have kA := cell_regrown mA
              have kB := cell_regrown mB
              clear g3 g4 mA mB
              cases hm : x.m
              · rw [hm] at k4
                refine wp_region_quiet_below (by kernel_rfl) (by kernel_rfl) ?_
                repeat (go_big_quiet_step (fail))
                refine wpQuiet_nil ?_
                intro w' hw'
                have hB' : Below wc.heap.size wc w' := by obtain ⟨p, rfl⟩ := hw'; exact below_regrown _ _ _
                clear hw' k4 kA kB
                go_wp2
                go_meet
                exact ⟨false, rfl, fun e => (by cases e), hB'⟩
              · rw [hm] at k4
                by_cases hsum : la + lb ≤ 20000
                · have j1 : (la : Int) + (lb : Int) ≤ 20000 := by omega
                  refine wp_region_quiet_below (by kernel_rfl) (by kernel_rfl) ?_
                  repeat (go_big_quiet_step (fail))
                  refine wpQuiet_nil ?_
                  intro w' hw'
                  have hB' : Below wc.heap.size wc w' := by obtain ⟨p, rfl⟩ := hw'; exact below_regrown _ _ _
                  clear hw' k4 kA kB
                  go_wp2
                  go_meet
                  exact ⟨true, by simp [hsum], fun _ => hsum, hB'⟩
                · have j1 : ¬ (la : Int) + (lb : Int) ≤ 20000 := by omega
                  refine wp_region_quiet_below (by kernel_rfl) (by kernel_rfl) ?_
                  repeat (go_big_quiet_step (fail))
                  refine wpQuiet_nil ?_
                  intro w' hw'
                  have hB' : Below wc.heap.size wc w' := by obtain ⟨p, rfl⟩ := hw'; exact below_regrown _ _ _
                  clear hw' k4 kA kB
                  go_wp2
                  go_meet
                  exact ⟨false, rfl, fun e => (by cases e), hB'⟩
            case rest =>
              obtain ⟨fl, rfl, HFL, HBD⟩ := hcut
              obtain ⟨wd, hwd⟩ : ∃ wd, wc = wd := ⟨_, rfl⟩
              subst hwd
              have HSt3 := hide ((unhide HSt2).later (unhide HBD))
              have lA := (unhide HSt3).l.cell (i := A) hA3
              have lB := (unhide HSt3).l.cell (i := B) hB3
              rw [if_pos hA3] at lA
              rw [if_pos hB3] at lB
              have g3' := cell_later (unhide HBD) g3
              have HSE := hide (And.intro (unhide HNA) (unhide HNB))
              clear g3 g4 mA mB
              cases fl
              · -- Add
                have HLB' := hide hlb2
                have KAD : Hid (Calls Try.prog 7 #[.pointer (some ⟨bx1 B, 0, none⟩), .int .i64 x.N] wc.drew fun e w' => e = .returned (.int .i64 0) ∧ ∃ S' Ls', St w w' c 3 bl (bl + 1) bx1 (up Ss1 B S') (up Lss1 B Ls') Ms1 (up Xs1 B (Xs1 B ++ [x.N])) Xs1 ∧ w'.cell? ⟨bs, 3, none⟩ = some (.int .i64 x.N)) := by
                  have h3 := (unhide HSt3).later (Below.refl _ wc).drew
                  have hc := unhide HC
                  refine (add_any wc.drew (bx1 B) c (Ss1 B) (Lss1 B) (Xs1 B) x.N (h3.sk B hB3) hc.1 hc.2.1 hc.2.2 (by rw [unhide HLB]; omega)).mono ?_
                  rintro e w' ⟨rfl, S', Ls', q1, q2, q3⟩
                  exact ⟨rfl, S', Ls', h3.op hB3 q1 q2 q3, q2.cell (show wc.drew.cell? ⟨bs, 3, none⟩ = _ from g3') fun hf => unhide HBSF bs hf rfl⟩
                have SS : wc.drew.cell? ⟨bl, B, none⟩ = some (.pointer (some ⟨bx1 B, 0, none⟩)) ∧ wc.drew.cell? ⟨bs, 3, none⟩ = some (.int .i64 x.N) := ⟨lB, g3'⟩
                go_upto_region 21 with fail
                go_cut [117] (fun s wz => s = .bool false ∧ ∃ S' Ls', St w wz c 3 bl (bl + 1) bx1 (up Ss1 B S') (up Lss1 B Ls') Ms1 (up Xs1 B (Xs1 B ++ [x.N])) Xs1 ∧ wz.cell? ⟨bs, 3, none⟩ = some (.int .i64 x.N))
                case first =>
                  refine wp_region_noPanic ?_
                  refine wp_region_G (S := fun w' : World => w'.cell? ⟨bl, B, none⟩ = some (.pointer (some ⟨bx1 B, 0, none⟩)) ∧ w'.cell? ⟨bs, 3, none⟩ = some (.int .i64 x.N)) (k := 5) (by kernel_rfl) ?_
                  change anyG _ _ _ _ _ _ _ _ _ wc.drew
                  refine anyG_takel (i := 0) (v := (.int .i64 (B : Int))) [1, 2, 5, 6] rfl (by kernel_rfl) (by kernel_rfl) (by kernel_rfl) (by kernel_rfl) (fun _ _ _ h => h) (Or.inl ⟨by rfl, fun w' hSw => ?_⟩) SS ?_
                  · dsimp only at hSw; obtain ⟨hS1, hS2⟩ := hSw; go_simp
                  try simp only [Act.put, List.setIfInBounds_toArray, List.set_cons_zero, List.set_cons_succ]
                  refine anyG_takel (i := 1) (v := (.pointer (some ⟨bl, B, none⟩))) [2, 5, 6] rfl (by kernel_rfl) (by kernel_rfl) (by kernel_rfl) (by kernel_rfl) (fun _ _ _ h => h) (Or.inl ⟨by rfl, fun w' hSw => ?_⟩) SS ?_
                  · dsimp only at hSw; obtain ⟨hS1, hS2⟩ := hSw; go_simp
                  try simp only [Act.put, List.setIfInBounds_toArray, List.set_cons_zero, List.set_cons_succ]
                  refine anyG_takel (i := 2) (v := (.pointer (some ⟨bx1 B, 0, none⟩))) [5, 6] rfl (by kernel_rfl) (by kernel_rfl) (by kernel_rfl) (by kernel_rfl) (fun _ _ _ h => h) (Or.inl ⟨by rfl, fun w' hSw => ?_⟩) SS ?_
                  · dsimp only at hSw; obtain ⟨hS1, hS2⟩ := hSw; go_simp
                  try simp only [Act.put, List.setIfInBounds_toArray, List.set_cons_zero, List.set_cons_succ]
                  refine anyG_takel (i := 3) (v := (.pointer (some ⟨bs, 3, none⟩))) [4, 5, 6] rfl (by kernel_rfl) (by kernel_rfl) (by kernel_rfl) (by kernel_rfl) (fun _ _ _ h => h) (Or.inl ⟨by rfl, fun w' hSw => ?_⟩) SS ?_
                  · dsimp only at hSw; obtain ⟨hS1, hS2⟩ := hSw; go_simp
                  try simp only [Act.put, List.setIfInBounds_toArray, List.set_cons_zero, List.set_cons_succ]
                  refine anyG_takel (i := 4) (v := (.int .i64 x.N)) [5, 6] rfl (by kernel_rfl) (by kernel_rfl) (by kernel_rfl) (by kernel_rfl) (fun _ _ _ h => h) (Or.inl ⟨by rfl, fun w' hSw => ?_⟩) SS ?_
                  · dsimp only at hSw; obtain ⟨hS1, hS2⟩ := hSw; go_simp
                  try simp only [Act.put, List.setIfInBounds_toArray, List.set_cons_zero, List.set_cons_succ]
                  refine anyG_one (i := 5) (by kernel_rfl) ?_
                  refine wpOp_lit rfl (by rfl) fun K hK => ?_
                  go_simp
                  refine (unhide KAD).mono ?_
                  rintro e w5 ⟨rfl, HS5⟩
                  replace HS5 := hide HS5
                  go_simp
                  refine unhide hK _ _ ⟨fun hh => absurd hh (by decide), ?_⟩
                  clear hK K
                  refine anyG_one (i := 6) (by kernel_rfl) ?_
                  refine wpOp_lit rfl (by rfl) fun K hK => ?_
                  go_simp
                  refine unhide hK _ _ ⟨fun hh => absurd hh (by decide), ?_⟩
                  clear hK K
                  refine anyG_done (by kernel_rfl) ?_ _
                  refine NoPanic.normal ?_
                  go_wp2
                  go_meet
                  exact ⟨rfl, HS5⟩
                case rest =>
                  obtain ⟨rfl, S', Ls', HS5, HBS⟩ := hcut
                  obtain ⟨we, hwe⟩ : ∃ we, we = wc := ⟨_, rfl⟩
                  obtain ⟨XB, hXB⟩ : ∃ XB, Xs1 B = XB := ⟨_, rfl⟩
                  obtain ⟨XA, hXA⟩ : ∃ XA, Xs1 A = XA := ⟨_, rfl⟩
                  have hXBl : XB.length = lb := by rw [← hXB]; exact unhide HLB
                  have hXAl : XA.length = la := by rw [← hXA]; exact unhide HLA
                  obtain ⟨Y, hY⟩ : ∃ Y, XB ++ [x.N] = Y := ⟨_, rfl⟩
                  have HS5' := hide HS5
                  rw [hXB, hY] at HS5'
                  clear HS5
                  rw [← hwe] at HS5'
                  rw [← hwe] at HBS
                  have HNB6 : Hid (∀ W', Below we.heap.size we W' → NumAt W' aB XB) := fun W' hW' => by
                    obtain ⟨a', k', e', h1, _⟩ := (unhide HS5').ms B hB3
                    rw [unhide HEB] at e'; cases e'
                    rw [hXB] at h1; exact h1.later hW'
                  have HNA6 : Hid (∀ W', Below we.heap.size we W' → NumAt W' aA XA) := fun W' hW' => by
                    obtain ⟨a', k', e', h1, _⟩ := (unhide HS5').ms A hA3
                    rw [unhide HEA] at e'; cases e'
                    rw [hXA] at h1; exact h1.later hW'
                  have HNNB : Hid (aB = none → XB = [] ∧ kkB = 0) := by rw [← hXB]; exact hnnB
                  have HNNA : Hid (aA = none → XA = [] ∧ kkA = 0) := by rw [← hXA]; exact hnnA
                  have HSS : Hid (∀ W', Below we.heap.size we W' → W'.cell? ⟨bl + 1, B, none⟩ = some (.slice aB lb kkB) ∧ W'.cell? ⟨bs, 3, none⟩ = some (.int .i64 x.N)) := fun W' hW' => by
                    have h1 := (unhide HS5').m.cell (i := B) hB3
                    have h2 := (unhide HS5').m.cell (i := A) hA3
                    rw [unhide HEB, unhide HLB] at h1
                    rw [unhide HEA, unhide HLA] at h2
                    exact ⟨cell_later hW' h1, cell_later hW' HBS⟩
                  have HFZ : Hid (∀ W', Below we.heap.size we W' → W'.frozen? ⟨bl + 1, B, none⟩ = false) := fun W' hW' => (rowIs_later (unhide HS5').m hW').frozen B
                  have HY := hide hY
                  have HFIN : Hid (∀ w8 a8 c8, Below we.heap.size we w8 → w8.ownsRow we.heap.size 2 1 (.slice a8 Y.length c8) Y.length (ints Y) → At w (w8.setCell ⟨bl + 1, B, none⟩ (.slice a8 Y.length c8)) c bl (bl + 1) (r + 1)) := fun w8 a8 c8 h1 h2 => by
                    refine At.put (unhide HS5') hB3 h1 h2 (unhide HLn) ?_ ?_
                    · rw [← hY, List.length_append]; have := (unhide HLn B hB3).1; rw [hXB] at this; simp; omega
                    · intro z hz
                      rw [← hY] at hz
                      rcases List.mem_append.1 hz with q | q
                      · exact (unhide HLn B hB3).2 z (by rw [hXB]; exact q)
                      · simp at q; rw [q]; exact hxN
                  have SS := unhide HSS we.drew (Below.refl _ _).drew
                  have hlb3 : XB.length ≤ 22000 := by omega
                  have hla3 : XA.length ≤ 22000 := by omega
                  rw [← hwe]
                  clear hY hwe HSt2 HSt3 HNA HNB HSE HBD HBW HFL
                  go_upto_region 23 with fail
                  refine wp_region_noPanic ?_
                  refine wp_region_G (S := fun W' : World => W'.cell? ⟨bl + 1, B, none⟩ = some (.slice aB lb kkB) ∧ W'.cell? ⟨bs, 3, none⟩ = some (.int .i64 x.N)) (k := 11) (by kernel_rfl) ?_
                  change anyG _ _ _ _ _ _ _ _ _ we.drew
                  refine anyG_takel (i := 0) (v := (.int .i64 (B : Int))) [10, 11] rfl (by kernel_rfl) (by kernel_rfl) (by kernel_rfl) (by kernel_rfl) (fun _ _ _ h => h) (Or.inl ⟨by rfl, fun w' hSw => ?_⟩) SS ?_
                  · dsimp only at hSw; obtain ⟨hS1, hS2⟩ := hSw; go_simp
                  try simp only [Act.put, List.setIfInBounds_toArray, List.set_cons_zero, List.set_cons_succ]
                  refine anyG_takel (i := 2) (v := (.int .i64 (B : Int))) [3, 4, 5, 9, 10, 11] rfl (by kernel_rfl) (by kernel_rfl) (by kernel_rfl) (by kernel_rfl) (fun _ _ _ h => h) (Or.inl ⟨by rfl, fun w' hSw => ?_⟩) SS ?_
                  · dsimp only at hSw; obtain ⟨hS1, hS2⟩ := hSw; go_simp
                  try simp only [Act.put, List.setIfInBounds_toArray, List.set_cons_zero, List.set_cons_succ]
                  refine anyG_takel (i := 3) (v := (.pointer (some ⟨bl + 1, B, none⟩))) [4, 5, 9, 10, 11] rfl (by kernel_rfl) (by kernel_rfl) (by kernel_rfl) (by kernel_rfl) (fun _ _ _ h => h) (Or.inl ⟨by rfl, fun w' hSw => ?_⟩) SS ?_
                  · dsimp only at hSw; obtain ⟨hS1, hS2⟩ := hSw; go_simp
                  try simp only [Act.put, List.setIfInBounds_toArray, List.set_cons_zero, List.set_cons_succ]
                  refine anyG_takel (i := 4) (v := (.slice aB lb kkB)) [5, 9, 10, 11] rfl (by kernel_rfl) (by kernel_rfl) (by kernel_rfl) (by kernel_rfl) (fun _ _ _ h => h) (Or.inl ⟨by rfl, fun w' hSw => ?_⟩) SS ?_
                  · dsimp only at hSw; obtain ⟨hS1, hS2⟩ := hSw; go_simp
                  try simp only [Act.put, List.setIfInBounds_toArray, List.set_cons_zero, List.set_cons_succ]
                  refine anyG_takel (i := 6) (v := (.pointer (some ⟨bs, 3, none⟩))) [7, 8, 9, 10, 11] rfl (by kernel_rfl) (by kernel_rfl) (by kernel_rfl) (by kernel_rfl) (fun _ _ _ h => h) (Or.inl ⟨by rfl, fun w' hSw => ?_⟩) SS ?_
                  · dsimp only at hSw; obtain ⟨hS1, hS2⟩ := hSw; go_simp
                  try simp only [Act.put, List.setIfInBounds_toArray, List.set_cons_zero, List.set_cons_succ]
                  refine anyG_takel (i := 7) (v := (.int .i64 x.N)) [8, 9, 10, 11] rfl (by kernel_rfl) (by kernel_rfl) (by kernel_rfl) (by kernel_rfl) (fun _ _ _ h => h) (Or.inl ⟨by rfl, fun w' hSw => ?_⟩) SS ?_
                  · dsimp only at hSw; obtain ⟨hS1, hS2⟩ := hSw; go_simp
                  try simp only [Act.put, List.setIfInBounds_toArray, List.set_cons_zero, List.set_cons_succ]
                  refine anyG_many [1, 8] (by kernel_rfl) (by simp) ?_
                  intro i hi
                  simp only [List.mem_cons, List.not_mem_nil, or_false] at hi
                  rcases hi with rfl | rfl
                  · refine wpOp_lit rfl (by rfl) fun K hK => ?_
                    go_simp
                    obtain ⟨w6, hw6⟩ : ∃ w6, (we.alloc (.cells #[] 2)).drew = w6 := ⟨_, rfl⟩
                    have HBw6 : Hid (Below we.heap.size we w6) := by rw [← hw6]; exact (below_alloc (Below.refl _ _) _).drew
                    obtain ⟨h1, hh1⟩ : ∃ h1, we.heap.size = h1 := ⟨_, rfl⟩
                    have HO1 : Hid (w6.ownsRow we.heap.size 2 1 (.slice (some ⟨h1, 0, none⟩) ([] : List Int).length 0) ([] : List Int).length (ints [])) := by rw [← hw6, ← hh1]; exact World.ownsRow.drew (own_empty we _ (Nat.le_refl _))
                    have SSw6 := unhide HSS w6 (unhide HBw6)
                    try rw [hw6]
                    try rw [hh1]
                    have HH1 : Hid (h1 < w6.heap.size) := by rw [← hw6, ← hh1]; show _ < _; simp
                    clear hw6 hh1
                    refine unhide hK _ _ ⟨fun _ => SSw6, ?_⟩
                    clear hK K
                    refine anyG_many [5, 8] (by kernel_rfl) (by simp) ?_
                    intro i hi
                    simp only [List.mem_cons, List.not_mem_nil, or_false] at hi
                    rcases hi with rfl | rfl
                    · refine wpOp_lit rfl (by rfl) fun K hK => ?_
                      refine wp_app_base we.heap.size (.tmp 119) (.tmp 122) rfl (.slice (some ⟨h1, 0, none⟩) ([] : List Int).length 0) [] (by simp [Act.eval, Act.put]) (unhide HO1) (unhide HBw6).size aB kkB XB (by simp [Act.eval, Act.put, hXBl]) (unhide HNB6 w6 (unhide HBw6)) (unhide HNNB) (by simp; omega) XB rfl ?_
                      intro a7 c7 w7 ho7 hb7 hg7
                      have HO7 := hide ho7
                      have HB7 := hide (show Below we.heap.size we w7 from (unhide HBw6).trans hb7)
                      have SS7 := unhide HSS w7 (unhide HB7)
                      clear ho7 hb7 hg7
                      refine unhide hK _ _ ⟨fun _ => SS7, ?_⟩
                      clear hK K
                      simp only [Act.put, List.setIfInBounds_toArray, List.set_cons_zero, List.set_cons_succ]
                      refine anyG_one (i := 8) (by kernel_rfl) ?_
                      refine wpOp_lit rfl (by rfl) fun K hK => ?_
                      go_simp
                      obtain ⟨w9, hw9⟩ : ∃ w9, w7.alloc (.cells #[.int .i64 x.N] 2) = w9 := ⟨_, rfl⟩
                      obtain ⟨h8, hh8⟩ : ∃ h8, w7.heap.size = h8 := ⟨_, rfl⟩
                      have HB9 : Hid (Below we.heap.size we w9) := by rw [← hw9]; exact below_alloc (unhide HB7) _
                      have HN8 : Hid (NumAt w9 (some ⟨h8, 0, none⟩) [x.N]) := one_at (by rw [← hw9, ← hh8]; show (w7.heap.push _)[w7.heap.size]? = _; rw [Array.getElem?_push_size])
                      have HO9 : Hid (w9.ownsRow we.heap.size 2 1 (.slice a7 XB.length c7) XB.length (ints XB)) := by rw [← hw9]; exact World.ownsRow.alloc (unhide HO7) _
                      have SS9 := unhide HSS w9 (unhide HB9)
                      rw [hw9, hh8]
                      clear hw9 hh8 HO7 HB7
                      have HO7 := HO9
                      have HB7 := HB9
                      refine unhide hK _ _ ⟨fun _ => SS9, ?_⟩
                      clear hK K
                      refine anyG_one (i := 9) (by kernel_rfl) ?_
                      refine wpOp_lit rfl (by rfl) fun K hK => ?_
                      refine wp_app_base we.heap.size (.tmp 123) (.tmp 126) rfl (.slice a7 XB.length c7) XB (by simp [Act.eval, Act.put, hXBl]) (unhide HO7) (unhide HB7).size (some ⟨h8, 0, none⟩) 1 [x.N] (by simp [Act.eval, Act.put]) (unhide HN8) (fun e => by cases e) (by simp; omega) Y (unhide HY) ?_
                      intro a8 c8 w8 ho8 hb8 _
                      have HO8 := hide ho8
                      have HB8 := hide (show Below we.heap.size we w8 from (unhide HB7).trans hb8)
                      have SS8 := unhide HSS w8 (unhide HB8)
                      clear ho8 hb8
                      refine unhide hK _ _ ⟨fun _ => SS8, ?_⟩
                      clear hK K
                      simp only [Act.put, List.setIfInBounds_toArray, List.set_cons_zero, List.set_cons_succ]
                      refine anyG_takel (i := 10) (v := (.pointer (some ⟨bl + 1, B, none⟩))) [11] rfl (by kernel_rfl) (by kernel_rfl) (by kernel_rfl) (by kernel_rfl) (fun _ _ _ h => h) (Or.inl ⟨by rfl, fun w' hSw => ?_⟩) SS8 ?_
                      · dsimp only at hSw; obtain ⟨hS1, hS2⟩ := hSw; go_simp
                      try simp only [Act.put, List.setIfInBounds_toArray, List.set_cons_zero, List.set_cons_succ]
                      obtain ⟨s1, s2⟩ := SS8
                      have f8 := unhide HFZ w8 (unhide HB8)
                      refine anyG_one (i := 11) (by kernel_rfl) ?_
                      refine wpOp_lit rfl (by rfl) fun K hK => ?_
                      go_simp
                      refine unhide hK _ _ ⟨fun hh => absurd hh (by decide), ?_⟩
                      clear hK K
                      refine anyG_done (by kernel_rfl) ?_ _
                      refine NoPanic.normal ?_
                      have HAT := hide (unhide HFIN w8 a8 c8 (unhide HB8) (unhide HO8))
                      clear s1 s2 f8
                      go_wp2
                      go_roundw
                      case rel => exact ⟨r + 1, by omega, by omega, by go_num, HAT⟩
                      case measure => simp [intOf]; omega
                    · refine wpOp_lit rfl (by rfl) fun K hK => ?_
                      go_simp
                      obtain ⟨w5, hw5⟩ : ∃ w5, w6.alloc (.cells #[.int .i64 x.N] 2) = w5 := ⟨_, rfl⟩
                      obtain ⟨h8, hh8⟩ : ∃ h8, w6.heap.size = h8 := ⟨_, rfl⟩
                      have HBw5 : Hid (Below we.heap.size we w5) := by rw [← hw5]; exact below_alloc (unhide HBw6) _
                      have HN5 : Hid (NumAt w5 (some ⟨h8, 0, none⟩) [x.N] ∧ h8 < w5.heap.size ∧ h1 < h8) := ⟨one_at (by rw [← hw5, ← hh8]; show (w6.heap.push _)[w6.heap.size]? = _; rw [Array.getElem?_push_size]), by rw [← hw5, ← hh8]; simp, by have := unhide HH1; omega⟩
                      have HO5 : Hid (w5.ownsRow we.heap.size 2 1 (.slice (some ⟨h1, 0, none⟩) ([] : List Int).length 0) ([] : List Int).length (ints [])) := by rw [← hw5]; exact World.ownsRow.alloc (unhide HO1) _
                      have SS5 := unhide HSS w5 (unhide HBw5)
                      rw [hw5, hh8]
                      clear hw5 hh8 HO1
                      have HO1 := HO5
                      refine unhide hK _ _ ⟨fun _ => SS5, ?_⟩
                      clear hK K
                      refine anyG_one (i := 5) (by kernel_rfl) ?_
                      refine wpOp_lit rfl (by rfl) fun K hK => ?_
                      refine wp_app_base we.heap.size (.tmp 119) (.tmp 122) rfl (.slice (some ⟨h1, 0, none⟩) ([] : List Int).length 0) [] (by simp [Act.eval, Act.put]) (unhide HO1) (unhide HBw5).size aB kkB XB (by simp [Act.eval, Act.put, hXBl]) (unhide HNB6 w5 (unhide HBw5)) (unhide HNNB) (by simp; omega) XB rfl ?_
                      intro a7 c7 w7 ho7 hb7 hg7
                      have HO7 := hide ho7
                      have HB7 := hide (show Below we.heap.size we w7 from (unhide HBw5).trans hb7)
                      have SS7 := unhide HSS w7 (unhide HB7)
                      have HN8 : Hid (NumAt w7 (some ⟨h8, 0, none⟩) [x.N]) := (unhide HN5).1.kept fun ad had => by
                        cases had
                        refine hg7.block h8 (unhide HN5).2.1 fun e => ?_
                        have := (unhide HN5).2.2
                        simp [Value.ownBlock] at e; omega
                      clear ho7 hb7 hg7
                      refine unhide hK _ _ ⟨fun _ => SS7, ?_⟩
                      clear hK K
                      simp only [Act.put, List.setIfInBounds_toArray, List.set_cons_zero, List.set_cons_succ]
                      refine anyG_one (i := 9) (by kernel_rfl) ?_
                      refine wpOp_lit rfl (by rfl) fun K hK => ?_
                      refine wp_app_base we.heap.size (.tmp 123) (.tmp 126) rfl (.slice a7 XB.length c7) XB (by simp [Act.eval, Act.put, hXBl]) (unhide HO7) (unhide HB7).size (some ⟨h8, 0, none⟩) 1 [x.N] (by simp [Act.eval, Act.put]) (unhide HN8) (fun e => by cases e) (by simp; omega) Y (unhide HY) ?_
                      intro a8 c8 w8 ho8 hb8 _
                      have HO8 := hide ho8
                      have HB8 := hide (show Below we.heap.size we w8 from (unhide HB7).trans hb8)
                      have SS8 := unhide HSS w8 (unhide HB8)
                      clear ho8 hb8
                      refine unhide hK _ _ ⟨fun _ => SS8, ?_⟩
                      clear hK K
                      simp only [Act.put, List.setIfInBounds_toArray, List.set_cons_zero, List.set_cons_succ]
                      refine anyG_takel (i := 10) (v := (.pointer (some ⟨bl + 1, B, none⟩))) [11] rfl (by kernel_rfl) (by kernel_rfl) (by kernel_rfl) (by kernel_rfl) (fun _ _ _ h => h) (Or.inl ⟨by rfl, fun w' hSw => ?_⟩) SS8 ?_
                      · dsimp only at hSw; obtain ⟨hS1, hS2⟩ := hSw; go_simp
                      try simp only [Act.put, List.setIfInBounds_toArray, List.set_cons_zero, List.set_cons_succ]
                      obtain ⟨s1, s2⟩ := SS8
                      have f8 := unhide HFZ w8 (unhide HB8)
                      refine anyG_one (i := 11) (by kernel_rfl) ?_
                      refine wpOp_lit rfl (by rfl) fun K hK => ?_
                      go_simp
                      refine unhide hK _ _ ⟨fun hh => absurd hh (by decide), ?_⟩
                      clear hK K
                      refine anyG_done (by kernel_rfl) ?_ _
                      refine NoPanic.normal ?_
                      have HAT := hide (unhide HFIN w8 a8 c8 (unhide HB8) (unhide HO8))
                      clear s1 s2 f8
                      go_wp2
                      go_roundw
                      case rel => exact ⟨r + 1, by omega, by omega, by go_num, HAT⟩
                      case measure => simp [intOf]; omega
                  · refine wpOp_lit rfl (by rfl) fun K hK => ?_
                    go_simp
                    obtain ⟨w6, hw6⟩ : ∃ w6, (we.alloc (.cells #[.int .i64 x.N] 2)).drew = w6 := ⟨_, rfl⟩
                    obtain ⟨h8, hh8⟩ : ∃ h8, we.heap.size = h8 := ⟨_, rfl⟩
                    have HBw6 : Hid (Below we.heap.size we w6) := by rw [← hw6]; exact (below_alloc (Below.refl _ _) _).drew
                    have HN6 : Hid (w6.heap[h8]? = some (.cells #[.int .i64 x.N] 2 (0, 0)) ∧ h8 < w6.heap.size) := ⟨by rw [← hw6, ← hh8]; show (we.heap.push _)[we.heap.size]? = _; rw [Array.getElem?_push_size], by rw [← hw6, ← hh8]; show _ < (we.heap.push _).size; simp⟩
                    have SSw6 := unhide HSS w6 (unhide HBw6)
                    try rw [hw6]
                    have HH8 := hide hh8
                    try rw [hh8]
                    clear hw6 hh8
                    refine unhide hK _ _ ⟨fun _ => SSw6, ?_⟩
                    clear hK K
                    refine anyG_one (i := 1) (by kernel_rfl) ?_
                    refine wpOp_lit rfl (by rfl) fun K hK => ?_
                    go_simp
                    obtain ⟨w5, hw5⟩ : ∃ w5, w6.alloc (.cells #[] 2) = w5 := ⟨_, rfl⟩
                    obtain ⟨h1, hh1⟩ : ∃ h1, w6.heap.size = h1 := ⟨_, rfl⟩
                    have HBw5 : Hid (Below we.heap.size we w5) := by rw [← hw5]; exact below_alloc (unhide HBw6) _
                    have HO1 : Hid (w5.ownsRow we.heap.size 2 1 (.slice (some ⟨h1, 0, none⟩) ([] : List Int).length 0) ([] : List Int).length (ints [])) := by rw [← hw5, ← hh1]; exact own_empty _ _ (unhide HBw6).size
                    have HN5 : Hid (NumAt w5 (some ⟨h8, 0, none⟩) [x.N] ∧ h8 < w5.heap.size ∧ h8 < h1) := by
                      have h6 := unhide HN6
                      rw [← hw5, ← hh1]
                      exact ⟨one_at (((below_alloc (Below.refl _ w6) _).block h8 h6.2).trans h6.1), by have := h6.2; simp; omega, h6.2⟩
                    have SS5 := unhide HSS w5 (unhide HBw5)
                    rw [hw5, hh1]
                    clear hw5 hh1
                    refine unhide hK _ _ ⟨fun _ => SS5, ?_⟩
                    clear hK K
                    refine anyG_one (i := 5) (by kernel_rfl) ?_
                    refine wpOp_lit rfl (by rfl) fun K hK => ?_
                    refine wp_app_base we.heap.size (.tmp 119) (.tmp 122) rfl (.slice (some ⟨h1, 0, none⟩) ([] : List Int).length 0) [] (by simp [Act.eval, Act.put]) (unhide HO1) (unhide HBw5).size aB kkB XB (by simp [Act.eval, Act.put, hXBl]) (unhide HNB6 w5 (unhide HBw5)) (unhide HNNB) (by simp; omega) XB rfl ?_
                    intro a7 c7 w7 ho7 hb7 hg7
                    have HO7 := hide ho7
                    have HB7 := hide (show Below we.heap.size we w7 from (unhide HBw5).trans hb7)
                    have SS7 := unhide HSS w7 (unhide HB7)
                    have HN8 : Hid (NumAt w7 (some ⟨h8, 0, none⟩) [x.N]) := (unhide HN5).1.kept fun ad had => by
                      cases had
                      refine hg7.block h8 (unhide HN5).2.1 fun e => ?_
                      have := (unhide HN5).2.2
                      simp [Value.ownBlock] at e; omega
                    clear ho7 hb7 hg7
                    refine unhide hK _ _ ⟨fun _ => SS7, ?_⟩
                    clear hK K
                    simp only [Act.put, List.setIfInBounds_toArray, List.set_cons_zero, List.set_cons_succ]
                    refine anyG_one (i := 9) (by kernel_rfl) ?_
                    refine wpOp_lit rfl (by rfl) fun K hK => ?_
                    refine wp_app_base we.heap.size (.tmp 123) (.tmp 126) rfl (.slice a7 XB.length c7) XB (by simp [Act.eval, Act.put, hXBl]) (unhide HO7) (unhide HB7).size (some ⟨h8, 0, none⟩) 1 [x.N] (by simp [Act.eval, Act.put]) (unhide HN8) (fun e => by cases e) (by simp; omega) Y (unhide HY) ?_
                    intro a8 c8 w8 ho8 hb8 _
                    have HO8 := hide ho8
                    have HB8 := hide (show Below we.heap.size we w8 from (unhide HB7).trans hb8)
                    have SS8 := unhide HSS w8 (unhide HB8)
                    clear ho8 hb8
                    refine unhide hK _ _ ⟨fun _ => SS8, ?_⟩
                    clear hK K
                    simp only [Act.put, List.setIfInBounds_toArray, List.set_cons_zero, List.set_cons_succ]
                    refine anyG_takel (i := 10) (v := (.pointer (some ⟨bl + 1, B, none⟩))) [11] rfl (by kernel_rfl) (by kernel_rfl) (by kernel_rfl) (by kernel_rfl) (fun _ _ _ h => h) (Or.inl ⟨by rfl, fun w' hSw => ?_⟩) SS8 ?_
                    · dsimp only at hSw; obtain ⟨hS1, hS2⟩ := hSw; go_simp
                    try simp only [Act.put, List.setIfInBounds_toArray, List.set_cons_zero, List.set_cons_succ]
                    obtain ⟨s1, s2⟩ := SS8
                    have f8 := unhide HFZ w8 (unhide HB8)
                    refine anyG_one (i := 11) (by kernel_rfl) ?_
                    refine wpOp_lit rfl (by rfl) fun K hK => ?_
                    go_simp
                    refine unhide hK _ _ ⟨fun hh => absurd hh (by decide), ?_⟩
                    clear hK K
                    refine anyG_done (by kernel_rfl) ?_ _
                    refine NoPanic.normal ?_
                    have HAT := hide (unhide HFIN w8 a8 c8 (unhide HB8) (unhide HO8))
                    clear s1 s2 f8
                    go_wp2
                    go_roundw
                    case rel => exact ⟨r + 1, by omega, by omega, by go_num, HAT⟩
                    case measure => simp [intOf]; omega
              · -- Merge
                have hsum := unhide HFL rfl
                have KM : Hid (Calls Try.prog 5 #[.pointer (some ⟨bx1 B, 0, none⟩), .pointer (some ⟨bx1 A, 0, none⟩)] wc.drew fun e w' => e = .returned (.int .i64 0) ∧ ∃ S' Ls', St w w' c 3 bl (bl + 1) bx1 (up Ss1 B S') (up Lss1 B Ls') Ms1 (up Xs1 B (Xs1 B ++ Xs1 A)) Xs1) := by
                  have h3 := (unhide HSt3).later (Below.refl _ wc).drew
                  have hc := unhide HC
                  have e1 := unhide HLA
                  have e2 := unhide HLB
                  by_cases hAB : B = A
                  · subst hAB
                    refine (merge_self wc.drew (bx1 B) c (Ss1 B) (Lss1 B) (Xs1 B) (h3.sk B hB3) hc.1 hc.2.1 hc.2.2 (by omega)).mono ?_
                    rintro e w' ⟨rfl, S', Ls', q1, q2, q3⟩
                    exact ⟨rfl, S', Ls', h3.op hB3 q1 q2 q3⟩
                  · refine (merge_other wc.drew (bx1 B) c (bx1 A) (Ss1 B) (Ss1 A) (Lss1 B) (Lss1 A) (Xs1 B) (Xs1 A) (h3.sk B hB3) (h3.sk A hA3) (h3.far B A hB3 hA3 hAB) hc.1 hc.2.1 hc.2.2 (by omega)).mono ?_
                    rintro e w' ⟨rfl, S', Ls', q1, q2, q3⟩
                    exact ⟨rfl, S', Ls', h3.op hB3 q1 q2 q3⟩
                have SS : wc.drew.cell? ⟨bl, B, none⟩ = some (.pointer (some ⟨bx1 B, 0, none⟩)) ∧ wc.drew.cell? ⟨bl, A, none⟩ = some (.pointer (some ⟨bx1 A, 0, none⟩)) := ⟨lB, lA⟩
                go_upto_region 18 with fail
                go_cut [99] (fun s wz => s = .bool false ∧ ∃ S' Ls', St w wz c 3 bl (bl + 1) bx1 (up Ss1 B S') (up Lss1 B Ls') Ms1 (up Xs1 B (Xs1 B ++ Xs1 A)) Xs1)
                case first =>
                  refine wp_region_noPanic ?_
                  refine wp_region_G (S := fun w' : World => w'.cell? ⟨bl, B, none⟩ = some (.pointer (some ⟨bx1 B, 0, none⟩)) ∧ w'.cell? ⟨bl, A, none⟩ = some (.pointer (some ⟨bx1 A, 0, none⟩))) (k := 6) (by kernel_rfl) ?_
                  change anyG _ _ _ _ _ _ _ _ _ wc.drew
                  refine anyG_takel (i := 0) (v := (.int .i64 (B : Int))) [1, 2, 6, 7] rfl (by kernel_rfl) (by kernel_rfl) (by kernel_rfl) (by kernel_rfl) (fun _ _ _ h => h) (Or.inl ⟨by rfl, fun w' hSw => ?_⟩) SS ?_
                  · dsimp only at hSw; obtain ⟨hS1, hS2⟩ := hSw; go_simp
                  try simp only [Act.put, List.setIfInBounds_toArray, List.set_cons_zero, List.set_cons_succ]
                  refine anyG_takel (i := 1) (v := (.pointer (some ⟨bl, B, none⟩))) [2, 6, 7] rfl (by kernel_rfl) (by kernel_rfl) (by kernel_rfl) (by kernel_rfl) (fun _ _ _ h => h) (Or.inl ⟨by rfl, fun w' hSw => ?_⟩) SS ?_
                  · dsimp only at hSw; obtain ⟨hS1, hS2⟩ := hSw; go_simp
                  try simp only [Act.put, List.setIfInBounds_toArray, List.set_cons_zero, List.set_cons_succ]
                  refine anyG_takel (i := 2) (v := (.pointer (some ⟨bx1 B, 0, none⟩))) [6, 7] rfl (by kernel_rfl) (by kernel_rfl) (by kernel_rfl) (by kernel_rfl) (fun _ _ _ h => h) (Or.inl ⟨by rfl, fun w' hSw => ?_⟩) SS ?_
                  · dsimp only at hSw; obtain ⟨hS1, hS2⟩ := hSw; go_simp
                  try simp only [Act.put, List.setIfInBounds_toArray, List.set_cons_zero, List.set_cons_succ]
                  refine anyG_takel (i := 3) (v := (.int .i64 (A : Int))) [4, 5, 6, 7] rfl (by kernel_rfl) (by kernel_rfl) (by kernel_rfl) (by kernel_rfl) (fun _ _ _ h => h) (Or.inl ⟨by rfl, fun w' hSw => ?_⟩) SS ?_
                  · dsimp only at hSw; obtain ⟨hS1, hS2⟩ := hSw; go_simp
                  try simp only [Act.put, List.setIfInBounds_toArray, List.set_cons_zero, List.set_cons_succ]
                  refine anyG_takel (i := 4) (v := (.pointer (some ⟨bl, A, none⟩))) [5, 6, 7] rfl (by kernel_rfl) (by kernel_rfl) (by kernel_rfl) (by kernel_rfl) (fun _ _ _ h => h) (Or.inl ⟨by rfl, fun w' hSw => ?_⟩) SS ?_
                  · dsimp only at hSw; obtain ⟨hS1, hS2⟩ := hSw; go_simp
                  try simp only [Act.put, List.setIfInBounds_toArray, List.set_cons_zero, List.set_cons_succ]
                  refine anyG_takel (i := 5) (v := (.pointer (some ⟨bx1 A, 0, none⟩))) [6, 7] rfl (by kernel_rfl) (by kernel_rfl) (by kernel_rfl) (by kernel_rfl) (fun _ _ _ h => h) (Or.inl ⟨by rfl, fun w' hSw => ?_⟩) SS ?_
                  · dsimp only at hSw; obtain ⟨hS1, hS2⟩ := hSw; go_simp
                  try simp only [Act.put, List.setIfInBounds_toArray, List.set_cons_zero, List.set_cons_succ]
                  refine anyG_one (i := 6) (by kernel_rfl) ?_
                  refine wpOp_lit rfl (by rfl) fun K hK => ?_
                  go_simp
                  refine (unhide KM).mono ?_
                  rintro e w5 ⟨rfl, HS5⟩
                  replace HS5 := hide HS5
                  go_simp
                  refine unhide hK _ _ ⟨fun hh => absurd hh (by decide), ?_⟩
                  clear hK K
                  refine anyG_one (i := 7) (by kernel_rfl) ?_
                  refine wpOp_lit rfl (by rfl) fun K hK => ?_
                  go_simp
                  refine unhide hK _ _ ⟨fun hh => absurd hh (by decide), ?_⟩
                  clear hK K
                  refine anyG_done (by kernel_rfl) ?_ _
                  refine NoPanic.normal ?_
                  go_wp2
                  go_meet
                  exact ⟨rfl, HS5⟩
                case rest =>
                  obtain ⟨rfl, S', Ls', HS5⟩ := hcut
                  obtain ⟨we, hwe⟩ : ∃ we, we = wc := ⟨_, rfl⟩
                  obtain ⟨XB, hXB⟩ : ∃ XB, Xs1 B = XB := ⟨_, rfl⟩
                  obtain ⟨XA, hXA⟩ : ∃ XA, Xs1 A = XA := ⟨_, rfl⟩
                  have hXBl : XB.length = lb := by rw [← hXB]; exact unhide HLB
                  have hXAl : XA.length = la := by rw [← hXA]; exact unhide HLA
                  obtain ⟨Y, hY⟩ : ∃ Y, XB ++ XA = Y := ⟨_, rfl⟩
                  have HS5' := hide HS5
                  rw [hXB, hXA, hY] at HS5'
                  clear HS5
                  rw [← hwe] at HS5'
                  skip
                  have HNB6 : Hid (∀ W', Below we.heap.size we W' → NumAt W' aB XB) := fun W' hW' => by
                    obtain ⟨a', k', e', h1, _⟩ := (unhide HS5').ms B hB3
                    rw [unhide HEB] at e'; cases e'
                    rw [hXB] at h1; exact h1.later hW'
                  have HNA6 : Hid (∀ W', Below we.heap.size we W' → NumAt W' aA XA) := fun W' hW' => by
                    obtain ⟨a', k', e', h1, _⟩ := (unhide HS5').ms A hA3
                    rw [unhide HEA] at e'; cases e'
                    rw [hXA] at h1; exact h1.later hW'
                  have HNNB : Hid (aB = none → XB = [] ∧ kkB = 0) := by rw [← hXB]; exact hnnB
                  have HNNA : Hid (aA = none → XA = [] ∧ kkA = 0) := by rw [← hXA]; exact hnnA
                  have HSS : Hid (∀ W', Below we.heap.size we W' → W'.cell? ⟨bl + 1, B, none⟩ = some (.slice aB lb kkB) ∧ W'.cell? ⟨bl + 1, A, none⟩ = some (.slice aA la kkA)) := fun W' hW' => by
                    have h1 := (unhide HS5').m.cell (i := B) hB3
                    have h2 := (unhide HS5').m.cell (i := A) hA3
                    rw [unhide HEB, unhide HLB] at h1
                    rw [unhide HEA, unhide HLA] at h2
                    exact ⟨cell_later hW' h1, cell_later hW' h2⟩
                  have HFZ : Hid (∀ W', Below we.heap.size we W' → W'.frozen? ⟨bl + 1, B, none⟩ = false) := fun W' hW' => (rowIs_later (unhide HS5').m hW').frozen B
                  have HY := hide hY
                  have HFIN : Hid (∀ w8 a8 c8, Below we.heap.size we w8 → w8.ownsRow we.heap.size 2 1 (.slice a8 Y.length c8) Y.length (ints Y) → At w (w8.setCell ⟨bl + 1, B, none⟩ (.slice a8 Y.length c8)) c bl (bl + 1) (r + 1)) := fun w8 a8 c8 h1 h2 => by
                    refine At.put (unhide HS5') hB3 h1 h2 (unhide HLn) ?_ ?_
                    · rw [← hY, List.length_append]; omega
                    · intro z hz
                      rw [← hY] at hz
                      rcases List.mem_append.1 hz with q | q
                      · exact (unhide HLn B hB3).2 z (by rw [hXB]; exact q)
                      · exact (unhide HLn A hA3).2 z (by rw [hXA]; exact q)
                  have SS := unhide HSS we.drew (Below.refl _ _).drew
                  have hlb3 : XB.length ≤ 22000 := by omega
                  have hla3 : XA.length ≤ 22000 := by omega
                  rw [← hwe]
                  clear hY hwe HSt2 HSt3 HNA HNB HSE HBD HBW HFL
                  go_upto_region 20 with fail
                  refine wp_region_noPanic ?_
                  refine wp_region_G (S := fun W' : World => W'.cell? ⟨bl + 1, B, none⟩ = some (.slice aB lb kkB) ∧ W'.cell? ⟨bl + 1, A, none⟩ = some (.slice aA la kkA)) (k := 11) (by kernel_rfl) ?_
                  change anyG _ _ _ _ _ _ _ _ _ we.drew
                  refine anyG_takel (i := 0) (v := (.int .i64 (B : Int))) [10, 11] rfl (by kernel_rfl) (by kernel_rfl) (by kernel_rfl) (by kernel_rfl) (fun _ _ _ h => h) (Or.inl ⟨by rfl, fun w' hSw => ?_⟩) SS ?_
                  · dsimp only at hSw; obtain ⟨hS1, hS2⟩ := hSw; go_simp
                  try simp only [Act.put, List.setIfInBounds_toArray, List.set_cons_zero, List.set_cons_succ]
                  refine anyG_takel (i := 2) (v := (.int .i64 (B : Int))) [3, 4, 5, 9, 10, 11] rfl (by kernel_rfl) (by kernel_rfl) (by kernel_rfl) (by kernel_rfl) (fun _ _ _ h => h) (Or.inl ⟨by rfl, fun w' hSw => ?_⟩) SS ?_
                  · dsimp only at hSw; obtain ⟨hS1, hS2⟩ := hSw; go_simp
                  try simp only [Act.put, List.setIfInBounds_toArray, List.set_cons_zero, List.set_cons_succ]
                  refine anyG_takel (i := 3) (v := (.pointer (some ⟨bl + 1, B, none⟩))) [4, 5, 9, 10, 11] rfl (by kernel_rfl) (by kernel_rfl) (by kernel_rfl) (by kernel_rfl) (fun _ _ _ h => h) (Or.inl ⟨by rfl, fun w' hSw => ?_⟩) SS ?_
                  · dsimp only at hSw; obtain ⟨hS1, hS2⟩ := hSw; go_simp
                  try simp only [Act.put, List.setIfInBounds_toArray, List.set_cons_zero, List.set_cons_succ]
                  refine anyG_takel (i := 4) (v := (.slice aB lb kkB)) [5, 9, 10, 11] rfl (by kernel_rfl) (by kernel_rfl) (by kernel_rfl) (by kernel_rfl) (fun _ _ _ h => h) (Or.inl ⟨by rfl, fun w' hSw => ?_⟩) SS ?_
                  · dsimp only at hSw; obtain ⟨hS1, hS2⟩ := hSw; go_simp
                  try simp only [Act.put, List.setIfInBounds_toArray, List.set_cons_zero, List.set_cons_succ]
                  refine anyG_takel (i := 6) (v := (.int .i64 (A : Int))) [7, 8, 9, 10, 11] rfl (by kernel_rfl) (by kernel_rfl) (by kernel_rfl) (by kernel_rfl) (fun _ _ _ h => h) (Or.inl ⟨by rfl, fun w' hSw => ?_⟩) SS ?_
                  · dsimp only at hSw; obtain ⟨hS1, hS2⟩ := hSw; go_simp
                  try simp only [Act.put, List.setIfInBounds_toArray, List.set_cons_zero, List.set_cons_succ]
                  refine anyG_takel (i := 7) (v := (.pointer (some ⟨bl + 1, A, none⟩))) [8, 9, 10, 11] rfl (by kernel_rfl) (by kernel_rfl) (by kernel_rfl) (by kernel_rfl) (fun _ _ _ h => h) (Or.inl ⟨by rfl, fun w' hSw => ?_⟩) SS ?_
                  · dsimp only at hSw; obtain ⟨hS1, hS2⟩ := hSw; go_simp
                  try simp only [Act.put, List.setIfInBounds_toArray, List.set_cons_zero, List.set_cons_succ]
                  refine anyG_takel (i := 8) (v := (.slice aA la kkA)) [9, 10, 11] rfl (by kernel_rfl) (by kernel_rfl) (by kernel_rfl) (by kernel_rfl) (fun _ _ _ h => h) (Or.inl ⟨by rfl, fun w' hSw => ?_⟩) SS ?_
                  · dsimp only at hSw; obtain ⟨hS1, hS2⟩ := hSw; go_simp
                  try simp only [Act.put, List.setIfInBounds_toArray, List.set_cons_zero, List.set_cons_succ]
                  refine anyG_one (i := 1) (by kernel_rfl) ?_
                  refine wpOp_lit rfl (by rfl) fun K hK => ?_
                  go_simp
                  obtain ⟨w6, hw6⟩ : ∃ w6, (we.alloc (.cells #[] 2)).drew = w6 := ⟨_, rfl⟩
                  have HB6 : Hid (Below we.heap.size we w6) := by rw [← hw6]; exact (below_alloc (Below.refl _ _) _).drew
                  have HO6 : Hid (w6.ownsRow we.heap.size 2 1 (.slice (some ⟨we.heap.size, 0, none⟩) ([] : List Int).length 0) ([] : List Int).length (ints [])) := by rw [← hw6]; exact World.ownsRow.drew (own_empty we _ (Nat.le_refl _))
                  have SS6 := unhide HSS w6 (unhide HB6)
                  try rw [hw6]
                  clear hw6
                  refine unhide hK _ _ ⟨fun _ => SS6, ?_⟩
                  clear hK K
                  refine anyG_one (i := 5) (by kernel_rfl) ?_
                  refine wpOp_lit rfl (by rfl) fun K hK => ?_
                  refine wp_app_base we.heap.size (.tmp 101) (.tmp 104) rfl (.slice (some ⟨we.heap.size, 0, none⟩) ([] : List Int).length 0) [] (by simp [Act.eval, Act.put]) (unhide HO6) (unhide HB6).size aB kkB XB (by simp [Act.eval, Act.put, hXBl]) (unhide HNB6 w6 (unhide HB6)) (unhide HNNB) (by simp; omega) XB rfl ?_
                  intro a7 c7 w7 ho7 hb7 _
                  have HO7 := hide ho7
                  have HB7 := hide (show Below we.heap.size we w7 from (unhide HB6).trans hb7)
                  have SS7 := unhide HSS w7 (unhide HB7)
                  clear ho7 hb7
                  refine unhide hK _ _ ⟨fun _ => SS7, ?_⟩
                  clear hK K
                  simp only [Act.put, List.setIfInBounds_toArray, List.set_cons_zero, List.set_cons_succ]
                  refine anyG_one (i := 9) (by kernel_rfl) ?_
                  refine wpOp_lit rfl (by rfl) fun K hK => ?_
                  refine wp_app_base we.heap.size (.tmp 105) (.tmp 108) rfl (.slice a7 XB.length c7) XB (by simp [Act.eval, Act.put, hXBl]) (unhide HO7) (unhide HB7).size aA kkA XA (by simp [Act.eval, Act.put, hXAl]) (unhide HNA6 w7 (unhide HB7)) (unhide HNNA) (by omega) Y (unhide HY) ?_
                  intro a8 c8 w8 ho8 hb8 _
                  have HO8 := hide ho8
                  have HB8 := hide (show Below we.heap.size we w8 from (unhide HB7).trans hb8)
                  have SS8 := unhide HSS w8 (unhide HB8)
                  clear ho8 hb8
                  refine unhide hK _ _ ⟨fun _ => SS8, ?_⟩
                  clear hK K
                  simp only [Act.put, List.setIfInBounds_toArray, List.set_cons_zero, List.set_cons_succ]
                  refine anyG_takel (i := 10) (v := (.pointer (some ⟨bl + 1, B, none⟩))) [11] rfl (by kernel_rfl) (by kernel_rfl) (by kernel_rfl) (by kernel_rfl) (fun _ _ _ h => h) (Or.inl ⟨by rfl, fun w' hSw => ?_⟩) SS8 ?_
                  · dsimp only at hSw; obtain ⟨hS1, hS2⟩ := hSw; go_simp
                  try simp only [Act.put, List.setIfInBounds_toArray, List.set_cons_zero, List.set_cons_succ]
                  obtain ⟨s1, s2⟩ := SS8
                  have f8 := unhide HFZ w8 (unhide HB8)
                  refine anyG_one (i := 11) (by kernel_rfl) ?_
                  refine wpOp_lit rfl (by rfl) fun K hK => ?_
                  go_simp
                  refine unhide hK _ _ ⟨fun hh => absurd hh (by decide), ?_⟩
                  clear hK K
                  refine anyG_done (by kernel_rfl) ?_ _
                  refine NoPanic.normal ?_
                  have HAT := hide (unhide HFIN w8 a8 c8 (unhide HB8) (unhide HO8))
                  clear s1 s2 f8
                  go_wp2
                  go_roundw
                  case rel => exact ⟨r + 1, by omega, by omega, by go_num, HAT⟩
                  case measure => simp [intOf]; omega
        · have HA2 : Hid (At w wr c bl (bl + 1) r) := HR
          have hout : ¬ (r < ss.length ∧ r < 2000) := hlt
          clear HA HR hlt
          have htest : ((r : Int) < (ss.length : Int) ∧ ¬ (r : Int) < 2000) ∨ ¬ (r : Int) < (ss.length : Int) := by omega
          have HL : Hid (r ≤ 2000) := hr
          clear hout hr hrl HSC HN
          have HGO : Hid (∃ bx Ss Lss Ms Xs, St w wr c 3 bl (bl + 1) bx Ss Lss Ms Xs Xs ∧ ∀ i, i < 3 → (Xs i).length ≤ 22000 ∧ ∀ z ∈ Xs i, z ≤ 9223372036854775807) := by
            obtain ⟨bx, Ss, Lss, Ms, Xs, h1, h2⟩ := unhide HA2
            exact ⟨bx, Ss, Lss, Ms, Xs, h1, fun i hi => ⟨by have := (h2 i hi).1; have := unhide HL; omega, (h2 i hi).2⟩⟩
          clear HA2 HL
          obtain ⟨bx, Ss, Lss, Ms, Xs, HS0, HX0⟩ := unhide HGO
          have HX := hide HX0
          have HS := hide HS0
          clear HGO HS0 HX0
          rcases htest with ⟨j1, j2⟩ | j1
          all_goals
            go_wp2_with fail
            clear j1
            try clear j2
            go_loopw [16] (fun s16 wz => ∃ i : Nat, i ≤ 3 ∧ s16 = .int .i64 (i : Int) ∧ Hid (St w wz c 3 bl (bl + 1) bx Ss Lss Ms Xs Xs)) (fun s _ => 3 - (intOf s).toNat)
            case atStart => exact ⟨0, by omega, rfl, HS⟩
            case round =>
              obtain ⟨i, hi, rfl, HSi⟩ := hrel
              by_cases hi3 : i < 3
              · have i1 : (i : Int) < 3 := by omega
                go_wp2_with fail
                go_loopw [17] (fun s17 wz => ∃ k : Nat, k ≤ 50 ∧ s17 = .int .i64 (k : Int) ∧ Hid (St w wz c 3 bl (bl + 1) bx Ss Lss Ms Xs Xs)) (fun s _ => 50 - (intOf s).toNat)
                case atStart => exact ⟨0, by omega, rfl, HSi⟩
                case round =>
                  obtain ⟨k, hk, rfl, HSk⟩ := hrel
                  have lI := (unhide HSk).l.cell (i := i) hi3
                  rw [if_pos hi3] at lI
                  obtain ⟨a1, k1, eM, hn1, _, _⟩ := (unhide HSk).ms i hi3
                  have mI := (unhide HSk).m.cell (i := i) hi3
                  rw [eM] at mI
                  have K8 : Hid (∀ W', Below wr.heap.size wr W' → ∀ x y : Int, Calls Try.prog 8 #[.pointer (some ⟨bx i, 0, none⟩), .slice a1 (Xs i).length k1, .int .i64 (c : Int), .int .i64 x, .int .i64 y] W' fun e w' => e = .returned (.bool true) ∧ Below W'.heap.size W' w') := fun W' hW' x y => by
                    have h3 := (unhide HSk).later hW'
                    have hc := unhide HC
                    have hx := unhide HX i hi3
                    exact ranked_any W' (bx i) c (Ss i) (Lss i) (Xs i) x y a1 k1 (h3.sk i hi3) (hn1.later hW') hc.2.1 hc.2.2 (by omega) hx.2
                  obtain ⟨lx, hlx⟩ : ∃ lx, (Xs i).length = lx := ⟨_, rfl⟩
                  rw [hlx] at mI K8
                  have HQ := hide ((unhide HQS).later (unhide HSk).bel)
                  clear eM hn1 hlx
                  by_cases hlt : k < qs.length ∧ k < 50
                  · obtain ⟨hl1, hl2⟩ := hlt
                    have j1 : (k : Int) < (qs.length : Int) := by omega
                    have j2 : (k : Int) < 50 := by omega
                    rcases unhide HQ with e | ⟨qb, qo, rfl, hcel⟩
                    · rw [e] at hl1; simp at hl1
                    have c0 := hcel k _ (atZ_some hl1)
                    obtain ⟨t, ht⟩ : ∃ t, modN ((k : Int) + 1) qs.length = t := ⟨_, rfl⟩
                    have htl : t < qs.length := by rw [← ht]; exact modN_lt _ (by omega)
                    have j3 : (t : Int) < (qs.length : Int) := by omega
                    have c1 := hcel t _ (atZ_some htl)
                    have K6 : Hid (∀ W', Calls Try.prog 6 #[.int .i64 ((k : Int) + 1), .int .i64 (qs.length : Int)] W' fun e w' => e = .returned (.int .i64 (t : Int)) ∧ Below W'.heap.size W' w') := fun W' => by
                      have := mod_any ((k : Int) + 1) qs.length (by omega) (by omega) W'
                      rw [ht] at this
                      exact this.mono fun e w' ⟨q1, q2⟩ => ⟨q1, by rw [q2]; exact Below.refl _ _⟩
                    generalize atZ qs k = x0 at *
                    generalize atZ qs t = y0 at *
                    clear hcel ht
                    go_upto_region 30 with fail
                    have kl := cell_regrown lI
                    have km := cell_regrown mI
                    have k0 := cell_regrown c0
                    have k2 := cell_regrown c1
                    clear lI mI c0 c1
                    refine wp_region_quiet_below (by kernel_rfl) (by kernel_rfl) ?_
                    repeat (go_big_quiet_step (first
                      | (go_at_call 6; exact Calls.regrown_of (unhide K6 _))
                      | (go_at_call 8; exact Calls.regrown_of (unhide K8 _ (below_regrown _ _ _) _ _))))
                    refine wpQuiet_nil ?_
                    intro w' hw'
                    have hB' : Below wr.heap.size wr w' := by obtain ⟨p, rfl⟩ := hw'; exact below_regrown _ _ _
                    have HS' := hide ((unhide HSk).later hB')
                    clear hw' hB' kl km k0 k2
                    go_wp2
                    go_roundw
                    case rel => exact ⟨k + 1, by omega, by go_num, HS'⟩
                    case measure => simp [intOf]; omega
                  · have hout : ((k : Int) < (qs.length : Int) ∧ ¬ (k : Int) < 50) ∨ ¬ (k : Int) < (qs.length : Int) := by omega
                    clear hlt
                    rcases hout with ⟨j1, j2⟩ | j1
                    all_goals
                      go_upto_region 32 with fail
                      have kl := cell_regrown lI
                      have km := cell_regrown mI
                      clear lI mI
                      refine wp_region_quiet_below (by kernel_rfl) (by kernel_rfl) ?_
                      repeat (go_big_quiet_step (first
                        | (go_at_call 8; exact Calls.regrown_of (unhide K8 _ (below_regrown _ _ _) _ _))))
                      refine wpQuiet_nil ?_
                      intro w' hw'
                      have hB' : Below wr.heap.size wr w' := by obtain ⟨p, rfl⟩ := hw'; exact below_regrown _ _ _
                      have HS' := hide ((unhide HSk).later hB')
                      clear hw' hB' kl km
                      go_wp2
                      go_roundw
                      case rel => exact ⟨i + 1, by omega, by go_num, HS'⟩
                      case measure => simp [intOf]; omega
              · have i1 : ¬ (i : Int) < 3 := by omega
                go_wp2
                go_ret
                exact ⟨rfl, by rw [← hbl]; exact (unhide HSi).bel⟩
end Go.Proofs.Ytmgnndbcbalafaa

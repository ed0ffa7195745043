import Derived.Test.YtgmfbjehdcdioaaOiC
set_option linter.unusedSimpArgs false
set_option linter.unusedVariables false
set_option maxRecDepth 100000
namespace Go.Proofs.Ytgmfbjehdcdioaa
open Go.RowKit Go.Sort

theorem setCell_alloc {X : World} {a : Addr} {v : Value} {o : Obj} (h : a.block < X.heap.size) : (X.alloc o).setCell a v = (X.setCell a v).alloc o := by
  unfold World.setCell World.alloc
  congr 1
  apply Array.ext_getElem?
  intro i
  simp only [Array.getElem?_modify, Array.getElem?_push, Array.size_modify]
  by_cases e : i = X.heap.size
  · subst e; rw [if_neg (by omega), if_pos rfl, if_pos rfl]
  · rw [if_neg e, if_neg e]
theorem up_const {β : Type} (v : β) (q : Nat) : up (fun _ : Nat => v) q v = fun _ => v := by funext j; unfold up; split <;> rfl
theorem St.cells {w0 w : World} {k bl bm : Nat} {bx nb : Nat → Nat} {F : Nat → Ft} {LN XS YS : Nat → List (Vk × Nat)} {TS : Nat → Nat} (h : St w0 w k 3 bl bm bx nb F LN XS YS TS) {p : Nat} (hp : p < 3) :
    w.cell? ⟨bl, p, none⟩ = some (.pointer (some ⟨bx p, 0, none⟩)) ∧ w.cell? ⟨bm, p * 2, none⟩ = some (.map (some (nb p))) ∧ w.cell? ⟨bm, p * 2 + 1, none⟩ = some (.int .i64 (TS p)) ∧ w.frozen? ⟨bm, p * 2 + 1, none⟩ = false := by
  have h1 := h.l.cell (i := p) hp
  have h2 := h.m.cell (i := p * 2) (by omega)
  have h3 := h.m.cell (i := p * 2 + 1) (by omega)
  unfold mC at h2 h3
  rw [if_pos (by omega), show p * 2 / 2 = p by omega, if_pos (by omega)] at h2
  rw [if_neg (by omega), show (p * 2 + 1) / 2 = p by omega] at h3
  rw [if_pos hp] at h1
  exact ⟨h1, h2, h3, h.m.frozen _⟩

set_option maxHeartbeats 40000000 in
theorem law_good (w : World) (k : Nat) (a : Option Addr) (ca : Nat) (ss : List Cm) (hk1 : 1 ≤ k) (hk : k ≤ 1024) (hss : ScAt w a ss) (hsl : ss.length ≤ 140737488355328) (hN : ∀ x ∈ ss, x.N ≤ 9223372036854775807) :
    Calls Try.prog 3 #[.int .i64 k, .slice a ss.length ca] w fun e w' => e = .returned (.bool true) ∧ Below w.heap.size w w' := by
  have K5 := hide (fun W => new_good k W hk1 hk)
  have K6 := hide (fun W b => merge_nil W b)
  have h1' : ¬ (k : Int) < 1 := by omega
  have h2' : ¬ (1024 : Int) < (k : Int) := by omega
  have HSC := hide hss
  have HN := hide hN
  have HST := hide (St.start w k)
  have hmm := @run_makeMap Try.prog
  clear hss hN
  obtain ⟨bl, hbl⟩ : ∃ bl, w.heap.size = bl := ⟨_, rfl⟩
  rw [hbl] at HST
  go_enter Try.func3, Try.ntmps3
  go_wp2_with fail
  go_loopw [7] (fun s7 wr => ∃ (q : Nat) (bx nb : Nat → Nat) (F : Nat → Ft), q ≤ 3 ∧ s7 = .int .i64 (q : Int) ∧ Hid (St w wr k q bl (bl + 1) bx nb F (fun _ => []) (fun _ => []) (fun _ => []) (fun _ => 0))) (fun s _ => 3 - (intOf s).toNat)
  case atStart => exact ⟨0, _, _, _, by omega, rfl, HST⟩
  case round =>
    obtain ⟨q, bx, nb, F, hq, rfl, HS⟩ := hrel
    by_cases hlt : q < 3
    · have i1 : (q : Int) < 3 := by omega
      have i2 : (0 : Int) ≤ (q : Int) := by omega
      have HMK : Hid (∀ w2 w3 b Fq, SkO w2 b k Fq [] → Below wr.heap.size wr w2 → (∀ z, foot b Fq z → wr.heap.size ≤ z) → Below w2.heap.size w2 w3 → (∃ v, w3.cell? ⟨bl, q, none⟩ = some v) ∧ w3.frozen? ⟨bl, q, none⟩ = false ∧ (∃ v, w3.cell? ⟨bl + 1, q * 2, none⟩ = some v) ∧ w3.frozen? ⟨bl + 1, q * 2, none⟩ = false ∧ (∃ v, ((w3.setCell ⟨bl, q, none⟩ (.pointer (some ⟨b, 0, none⟩))).alloc (.map #[] 0)).cell? ⟨bl + 1, q * 2, none⟩ = some v) ∧ ((w3.setCell ⟨bl, q, none⟩ (.pointer (some ⟨b, 0, none⟩))).alloc (.map #[] 0)).frozen? ⟨bl + 1, q * 2, none⟩ = false ∧
          Hid (St w (((w3.setCell ⟨bl, q, none⟩ (.pointer (some ⟨b, 0, none⟩))).alloc (.map #[] 0)).setCell ⟨bl + 1, q * 2, none⟩ (.map (some w3.heap.size))) k (q + 1) bl (bl + 1) (up bx q b) (up nb q w3.heap.size) (up F q Fq) (fun _ => []) (fun _ => []) (fun _ => []) (fun _ => 0))) := fun w2 w3 b Fq h1 h2 h3 h4 => by
        have hb := below_step h2 h4
        have h5 := (unhide HS).later hb
        have h6 := (unhide HS).make hlt hb (h1.keep fun z hz => h4.block z (h1.lt hz)) h3 rfl
        rw [up_const] at h6
        have hlm : bl + 1 ≠ bl := by omega
        have h7 := World.rowIs.alloc (h5.m.setOther (a := ⟨bl, q, none⟩) hlm (.pointer (some ⟨b, 0, none⟩))) (.map #[] 0)
        have h8 := h6
        rw [← setCell_alloc (by have := h5.m.lt; simpa [World.setCell] using this)] at h8
        exact ⟨⟨_, h5.l.cell (i := q) hlt⟩, h5.l.frozen q, ⟨_, h5.m.cell (i := q * 2) (by omega)⟩, h5.m.frozen _, ⟨_, h7.cell (i := q * 2) (by omega)⟩, h7.frozen _, h8⟩
      clear HST
      go_wp2_with (first
        | (go_at_call 5; refine (unhide K5 _).mono ?_; rintro _ w2 ⟨b, Fq, rfl, HK2, hb2, HF2⟩; replace hb2 := hide hb2; replace HK2 := hide HK2; replace HF2 := hide HF2)
        | (go_at_call 6; refine (unhide K6 _ _).mono ?_; rintro _ w3 ⟨rfl, hb3⟩; obtain ⟨⟨v1, m1⟩, m2, ⟨v2, m3⟩, m4, ⟨v5, m5⟩, m6, HNX⟩ := unhide HMK w2 w3 b Fq (unhide HK2) (unhide hb2) (unhide HF2) hb3; clear hb3))
      go_roundw
      case rel => exact ⟨q + 1, _, _, _, by omega, by go_num, by first | exact HNX | (rw [← setCell_alloc]; exact HNX)⟩
      case measure => simp [intOf]; omega
    · have i1 : ¬ (q : Int) < 3 := by omega
      have hq3 : q = 3 := by omega
      have HA : Hid (At w wr k bl (bl + 1)) := by
        have h := unhide HS
        rw [hq3] at h
        exact ⟨bx, nb, F, _, _, h⟩
      clear HS HST K5 K6 hlt hq hq3
      go_wp2_with fail
      clear i1
      go_loopw [10] (fun s10 wr => ∃ r : Nat, r ≤ 2000 ∧ r ≤ ss.length ∧ s10 = .int .i64 (r : Int) ∧ Hid (At w wr k bl (bl + 1))) (fun s _ => 2000 - (intOf s).toNat)
      case atStart => exact ⟨0, by omega, by omega, rfl, HA⟩
      case round =>
        obtain ⟨r, hr, hrl, rfl, HR⟩ := hrel
        clear HA
        by_cases hlt : r < ss.length ∧ r < 2000
        · obtain ⟨hl1, hl2⟩ := hlt
          have i1 : (r : Int) < (ss.length : Int) := by omega
          have i2 : (r : Int) < 2000 := by omega
          obtain ⟨x, hx⟩ : ∃ x, ss[r]? = some x := ⟨_, List.getElem?_eq_getElem hl1⟩
          have hxN := unhide HN x (List.mem_of_getElem? hx)
          obtain ⟨bx1, nb1, F1, LN1, XS1, hSt⟩ := unhide HR
          rcases (unhide HSC).later hSt.bel with e | ⟨sb, so, rfl, hcel⟩
          · rw [e] at hx; simp at hx
          obtain ⟨d0, d1, d2, d3, d4, d5, d6⟩ := hcel r x hx
          clear hcel
          obtain ⟨W, hW⟩ : ∃ W, wr.alloc (.cells #[.int .i64 x.k, .int .i64 x.n, .string x.s, .int .i64 x.N, .bool x.m, .int .i64 x.A, .int .i64 x.B] 36) = W := ⟨_, rfl⟩
          obtain ⟨bs, hbs⟩ : ∃ bs, wr.heap.size = bs := ⟨_, rfl⟩
          have hBW : Below wr.heap.size wr W := by rw [← hW]; exact below_alloc (Below.refl _ _) _
          have hbW : W.rowIs bs 36 7 (fun j => match j with | 0 => .int .i64 x.k | 1 => .int .i64 x.n | 2 => .string x.s | 3 => .int .i64 x.N | 4 => .bool x.m | 5 => .int .i64 x.A | _ => .int .i64 x.B) := by
            rw [← hW, ← hbs]
            refine World.rowIs_alloc wr _ 36 _ fun i hi => ?_
            match i, hi with
            | 0, _ => rfl
            | 1, _ => rfl
            | 2, _ => rfl
            | 3, _ => rfl
            | 4, _ => rfl
            | 5, _ => rfl
            | 6, _ => rfl
          obtain ⟨A, hA⟩ : ∃ A, modN x.A 3 = A := ⟨_, rfl⟩
          obtain ⟨B, hB⟩ : ∃ B, modN x.B 3 = B := ⟨_, rfl⟩
          have hA3 : A < 3 := by rw [← hA]; exact modN_lt _ (by decide)
          have hB3 : B < 3 := by rw [← hB]; exact modN_lt _ (by decide)
          have K7A : Hid (∀ W', Calls Try.prog 7 #[.int .i64 x.A, .int .i64 3] W' fun e w' => e = .returned (.int .i64 (A : Int)) ∧ Below W'.heap.size W' w') := fun W' => by
            have := mod_any x.A 3 (by decide) (by decide) W'
            rw [hA] at this
            exact this.mono fun e w' ⟨q1, q2⟩ => ⟨q1, by rw [q2]; exact Below.refl _ _⟩
          have K7B : Hid (∀ W', Calls Try.prog 7 #[.int .i64 x.B, .int .i64 3] W' fun e w' => e = .returned (.int .i64 (B : Int)) ∧ Below W'.heap.size W' w') := fun W' => by
            have := mod_any x.B 3 (by decide) (by decide) W'
            rw [hB] at this
            exact this.mono fun e w' ⟨q1, q2⟩ => ⟨q1, by rw [q2]; exact Below.refl _ _⟩
          have HBX := hide hbW
          have HSt := hide (hSt.later hBW)
          have HBS : Hid (∀ i, i < 3 → (∀ z, foot (bx1 i) (F1 i) z → z ≠ bs) ∧ nb1 i ≠ bs) := fun i hi => ⟨fun z hz => by have := (hSt.sk i hi).lt hz; omega, by have := (hSt.mp i hi).1.lt; omega⟩
          have e5 := hbW.cell (i := 5) (by omega)
          have e6 := hbW.cell (i := 6) (by omega)
          have hbmbs : bl + 1 ≠ bs := by have := hSt.m.lt; omega
          clear hSt hA hB hx HR hBW hbW
          go_upto_region 17 with fail
          go_cut [12, 13] (fun s12 s13 wc => s12 = .int .i64 (A : Int) ∧ s13 = .int .i64 (B : Int) ∧ Hid (Below W.heap.size W wc))
          case first =>
            as_aux_lemma =>
              have k5 := cell_regrown e5
              have k6 := cell_regrown e6
              clear e5 e6 d0 d1 d2 d3 d4 d5 d6
              refine wp_region_quiet_below (by kernel_rfl) (by kernel_rfl) ?_
              repeat (go_big_quiet_step (first
                | (go_at_call_of 7 (Value.int IntKind.i64 x.A); exact Calls.regrown_of (unhide K7A _))
                | (go_at_call_of 7 (Value.int IntKind.i64 x.B); exact Calls.regrown_of (unhide K7B _))))
              refine wpQuiet_nil ?_
              intro w' hw'
              have hB' : Below W.heap.size W w' := by obtain ⟨p, rfl⟩ := hw'; exact below_regrown _ _ _
              clear hw' k5 k6
              go_wp2
              go_meet
              exact ⟨rfl, rfl, hB'⟩
          case rest =>
            obtain ⟨rfl, rfl, HBW⟩ := hcut
            have HSt2 := hide ((unhide HSt).later (unhide HBW))
            have HBX2 := hide (rowIs_later (unhide HBX) (unhide HBW))
            have e4 := (unhide HBX2).cell (i := 4) (by omega)
            have iA : (A : Int) < 3 := by omega
            have iB : (B : Int) < 3 := by omega
            clear e5 e6 d0 d1 d2 d3 d4 d5 d6 K7A K7B HSt HBX HBW
            rename World => wq
            obtain ⟨xm, hxm⟩ : ∃ b, x.m = b := ⟨_, rfl⟩
            simp only at e4
            rw [hxm] at e4
            go_upto_if 81 with fail
            go_cut [] (fun wd => Hid (At w wd k bl (bl + 1)) ∧ Hid (wd.rowIs bs 36 7 (fun j => match j with | 0 => .int .i64 x.k | 1 => .int .i64 x.n | 2 => .string x.s | 3 => .int .i64 x.N | 4 => .bool x.m | 5 => .int .i64 x.A | _ => .int .i64 x.B)))
            case first =>
              as_aux_lemma =>
                obtain ⟨cB, dB, tB, fB⟩ := (unhide HSt2).cells hB3
                obtain ⟨cA, dA, tA, fA⟩ := (unhide HSt2).cells hA3
                obtain ⟨pB, hpB⟩ : ∃ p, bx1 B = p := ⟨_, rfl⟩
                obtain ⟨pA, hpA⟩ : ∃ p, bx1 A = p := ⟨_, rfl⟩
                obtain ⟨TB, hTB⟩ : ∃ T, tot (XS1 B) = T := ⟨_, rfl⟩
                obtain ⟨TA, hTA⟩ : ∃ T, tot (XS1 A) = T := ⟨_, rfl⟩
                have hTB2 : TB ≤ 4611686018427387904 := by rw [← hTB]; exact ((unhide HSt2).sk B hB3).2
                have hTA2 : TA ≤ 4611686018427387904 := by rw [← hTA]; exact ((unhide HSt2).sk A hA3).2
                rw [hpB] at cB
                rw [hpA] at cA
                rw [hTB] at tB
                rw [hTA] at tA
                obtain ⟨nB, hnB⟩ : ∃ n, nb1 B = n := ⟨_, rfl⟩
                obtain ⟨nA, hnA⟩ : ∃ n, nb1 A = n := ⟨_, rfl⟩
                rw [hnB] at dB
                rw [hnA] at dA
                obtain ⟨hfB, hnbB⟩ := unhide HBS B hB3
                clear e4
                cases xm with
                | true =>
                  as_aux_lemma =>
                    by_cases hle : TB + TA ≤ 4611686018427387904
                    · have HMG : Hid (∀ W, Below wq.heap.size wq W → Calls Try.prog 6 #[.pointer (some ⟨pB, 0, none⟩), .pointer (some ⟨pA, 0, none⟩)] W fun e w' => e = .returned (.int .i64 0) ∧ ((∃ F', St w w' k 3 bl (bl + 1) bx1 nb1 (up F1 B F') LN1 (up XS1 B (XS1 B ++ XS1 A)) XS1 (fun i => tot (XS1 i))) ∧ w'.rowIs bs 36 7 (fun j => match j with | 0 => .int .i64 x.k | 1 => .int .i64 x.n | 2 => .string x.s | 3 => .int .i64 x.N | 4 => .bool x.m | 5 => .int .i64 x.A | _ => .int .i64 x.B))) := fun W hW => by
                        have hS := (unhide HSt2).later hW
                        rw [← hpB, ← hpA]
                        refine (merge_any (hS.sk B hB3) (hS.sk A hA3) hk).mono ?_
                        rintro e w' (⟨h1, _⟩ | ⟨_, rfl, F', h2, h3, h4⟩)
                        · omega
                        · have hbb : foot (bx1 B) (F1 B) (bx1 B) := .inl rfl
                          refine ⟨rfl, ⟨F', hS.op hB3 h2 (fun q hq => ?_) (h3.less fun i _ hi => by rw [hi]; exact hbb) fun z hz => ?_⟩, ?_⟩
                          · rcases List.mem_append.1 hq with hq | hq
                            · exact hS.cl B hB3 q hq
                            · exact hS.cl A hA3 q hq
                          · rcases h4 z hz with g | g
                            · exact .inl (by rw [g]; exact hbb)
                            · exact .inr g
                          · have hr := rowIs_later (unhide HBX2) hW
                            exact hr.of_block (h3.block bs hr.lt fun e => hfB _ hbb e.symm)
                      go_upto_region 19 with fail
                      go_cut [14] (fun s14 wd => s14 = .int .i64 0 ∧ Hid ((∃ F', St w wd k 3 bl (bl + 1) bx1 nb1 (up F1 B F') LN1 (up XS1 B (XS1 B ++ XS1 A)) XS1 (fun i => tot (XS1 i))) ∧ wd.rowIs bs 36 7 (fun j => match j with | 0 => .int .i64 x.k | 1 => .int .i64 x.n | 2 => .string x.s | 3 => .int .i64 x.N | 4 => .bool x.m | 5 => .int .i64 x.A | _ => .int .i64 x.B)))
                      case first =>
                        as_aux_lemma =>
                          refine wp_region_noPanic ?_
                          refine wp_region_G (S := fun w' : World => Below wq.heap.size wq w') (k := 6) (by kernel_rfl) ?_
                          have SS : (fun w' : World => Below wq.heap.size wq w') wq.drew := (Below.refl _ _).drew
                          change anyG _ _ _ _ _ _ _ _ _ wq.drew
                          refine anyG_takel (i := 0) (v := (.int .i64 (B : Int))) [1, 2, 6, 7] rfl (by kernel_rfl) (by kernel_rfl) (by kernel_rfl) (by kernel_rfl) (fun _ _ _ h => h) (Or.inl ⟨by rfl, fun w' hSw => ?_⟩) SS ?_
                          · dsimp only at hSw; go_simp
                          try simp only [Act.put, List.setIfInBounds_toArray, List.set_cons_zero, List.set_cons_succ]
                          refine anyG_takel (i := 1) (v := (.pointer (some ⟨bl, B, none⟩))) [2, 6, 7] rfl (by kernel_rfl) (by kernel_rfl) (by kernel_rfl) (by kernel_rfl) (fun _ _ _ h => h) (Or.inl ⟨by rfl, fun w' hSw => ?_⟩) SS ?_
                          · dsimp only at hSw; go_simp
                          try simp only [Act.put, List.setIfInBounds_toArray, List.set_cons_zero, List.set_cons_succ]
                          refine anyG_takel (i := 2) (v := (.pointer (some ⟨pB, 0, none⟩))) [6, 7] rfl (by kernel_rfl) (by kernel_rfl) (by kernel_rfl) (by kernel_rfl) (fun _ _ _ h => h) (Or.inl ⟨by rfl, fun w' hSw => ?_⟩) SS ?_
                          · dsimp only at hSw; have z2 := cell_later hSw cB; go_simp
                          try simp only [Act.put, List.setIfInBounds_toArray, List.set_cons_zero, List.set_cons_succ]
                          refine anyG_takel (i := 3) (v := (.int .i64 (A : Int))) [4, 5, 6, 7] rfl (by kernel_rfl) (by kernel_rfl) (by kernel_rfl) (by kernel_rfl) (fun _ _ _ h => h) (Or.inl ⟨by rfl, fun w' hSw => ?_⟩) SS ?_
                          · dsimp only at hSw; go_simp
                          try simp only [Act.put, List.setIfInBounds_toArray, List.set_cons_zero, List.set_cons_succ]
                          refine anyG_takel (i := 4) (v := (.pointer (some ⟨bl, A, none⟩))) [5, 6, 7] rfl (by kernel_rfl) (by kernel_rfl) (by kernel_rfl) (by kernel_rfl) (fun _ _ _ h => h) (Or.inl ⟨by rfl, fun w' hSw => ?_⟩) SS ?_
                          · dsimp only at hSw; go_simp
                          try simp only [Act.put, List.setIfInBounds_toArray, List.set_cons_zero, List.set_cons_succ]
                          refine anyG_takel (i := 5) (v := (.pointer (some ⟨pA, 0, none⟩))) [6, 7] rfl (by kernel_rfl) (by kernel_rfl) (by kernel_rfl) (by kernel_rfl) (fun _ _ _ h => h) (Or.inl ⟨by rfl, fun w' hSw => ?_⟩) SS ?_
                          · dsimp only at hSw; have z2 := cell_later hSw cA; go_simp
                          try simp only [Act.put, List.setIfInBounds_toArray, List.set_cons_zero, List.set_cons_succ]
                          refine anyG_one (i := 6) (by kernel_rfl) ?_
                          refine wpOp_lit rfl (by rfl) fun K hK => ?_
                          go_simp
                          refine (unhide HMG _ SS).mono ?_
                          rintro e w5 ⟨rfl, HS5⟩
                          replace HS5 := hide HS5
                          go_simp
                          refine unhide hK _ _ ⟨fun hh => absurd hh (by decide), ?_⟩
                          clear hK K
                          refine anyG_one (i := 7) (by kernel_rfl) ?_
                          refine wpOp_lit rfl (by rfl) fun K hK => ?_
                          go_simp
                          refine unhide hK _ _ ⟨fun hh => absurd hh (by decide), ?_⟩
                          clear hK K
                          refine anyG_done (by kernel_rfl) ?_ _
                          refine NoPanic.normal ?_
                          go_wp2
                          go_meet
                          exact ⟨rfl, HS5⟩
                      case rest =>
                      obtain ⟨rfl, HS5⟩ := hcut
                      rename World => wt
                      obtain ⟨⟨F', hS5⟩, hbx5⟩ := unhide HS5
                      have t2 := (hS5.cells hB3).2.2.1
                      have t1 := (hS5.cells hA3).2.2.1
                      rw [hTB] at t2
                      rw [hTA] at t1
                      have j1 : ¬ 4611686018427387904 - (TB : Int) < (TA : Int) := by omega
                      have j2 : (TB : Int) ≤ 4611686018427387904 := by omega
                      have HS6 := hide hS5
                      have HBX6 := hide hbx5
                      clear hS5 hbx5 HS5 HMG cB cA tB tA dB dA
                      go_upto_region 20 with fail
                      go_cut [101] (fun s101 wd => s101 = .bool false ∧ Hid (Below wt.heap.size wt wd))
                      case first =>
                        as_aux_lemma =>
                          have k1 := cell_regrown t1
                          have k2 := cell_regrown t2
                          refine wp_region_quiet_below (by kernel_rfl) (by kernel_rfl) ?_
                          repeat (go_big_quiet_step (fail))
                          refine wpQuiet_nil ?_
                          intro w' hw'
                          have hB' : Below wt.heap.size wt w' := by obtain ⟨p, rfl⟩ := hw'; exact below_regrown _ _ _
                          clear hw' k1 k2
                          go_wp2
                          go_meet
                          exact ⟨by simp [j1], hB'⟩
                      case rest =>
                      obtain ⟨rfl, HB6⟩ := hcut
                      rename World => wm
                      have HS7 := hide ((unhide HS6).later (unhide HB6))
                      have HBX7 := hide (rowIs_later (unhide HBX6) (unhide HB6))
                      obtain ⟨V1, hV1⟩ : ∃ V1, wm.alloc (.map #[] 0) = V1 := ⟨_, rfl⟩
                      obtain ⟨ab, hab⟩ : ∃ ab, wm.heap.size = ab := ⟨_, rfl⟩
                      have hbV1 : Below wm.heap.size wm V1 := by rw [← hV1]; exact below_alloc (Below.refl _ _) _
                      have g1 := cell_later hbV1 ((unhide HS7).cells hA3).2.1
                      obtain ⟨o, hrg, hR⟩ := range_run map25 (((unhide HS7).later hbV1).mp A hA3).1
                      rw [hnA] at hrg hR g1
                      obtain ⟨rb, hrb⟩ : ∃ rb, V1.heap.size = rb := ⟨_, rfl⟩
                      obtain ⟨V2, hV2⟩ : ∃ V2, V1.alloc o = V2 := ⟨_, rfl⟩
                      have hbV2 : Below V1.heap.size V1 V2 := by rw [← hV2]; exact below_alloc (Below.refl _ _) _
                      rw [hrb, hV2] at hrg hR
                      have hnAl : nA < wm.heap.size := by rw [← hnA]; exact ((unhide HS7).mp A hA3).1.lt
                      have hmp0 : MpN V1 ab [] := ⟨#[], 0, by rw [← hV1, ← hab]; exact heap_alloc_new _ _, by simp [EntsN], by simp, by simp⟩
                      have HCP : Hid (Cp wm V2 nA ab rb (LN1 A) [] (LN1 A)) := ⟨hR, hmp0.later hbV2, by simp, below_step hbV1 hbV2, by omega, by have := hbV1.size; omega, hnAl⟩
                      have HLa : Hid (((LN1 A).map (·.1)).Nodup) := ((unhide HS7).mp A hA3).2.1
                      have hnBab : nB ≠ ab := by have := ((unhide HS7).mp B hB3).1.lt; rw [hnB] at this; omega
                      have HNA := hide hnA
                      have HNB := hide hnB
                      clear hnA hnB hR hbV1 hbV2 hnAl hmp0 t1 t2 HS6 HBX6 HB6
                      go_wp2_with fail
                      go_loopw [110] (fun _ wq => ∃ AC todo, Hid (Cp wm wq nA ab rb (LN1 A) AC todo)) (fun _ wq => rgLeft wq nA rb)
                      case atStart => exact ⟨[], LN1 A, HCP⟩
                      case round =>
                        obtain ⟨AC, todo, HC⟩ := hrel
                        rename World => wv
                        clear HCP hrg g1
                        rcases range_step (unhide HC).rg with ⟨e, hnx⟩ | ⟨pre, q, post, W8, e, hnx, hent, hX⟩
                        · subst e
                          have HP : Hid (AC.Perm (LN1 A)) := by have := (unhide HC).perm; rw [List.append_nil] at this; exact this
                          have hSv := (unhide HS7).later (unhide HC).bel
                          have HSv := hide hSv
                          have HBXv := hide (rowIs_later (unhide HBX7) (unhide HC).bel)
                          obtain ⟨o3, hrg3, hR3⟩ := range_run map25 (unhide HC).mp
                          obtain ⟨rb2, hrb2⟩ : ∃ rb2, wv.heap.size = rb2 := ⟨_, rfl⟩
                          obtain ⟨V3, hV3⟩ : ∃ V3, wv.alloc o3 = V3 := ⟨_, rfl⟩
                          have hbV3 : Below wv.heap.size wv V3 := by rw [← hV3]; exact below_alloc (Below.refl _ _) _
                          rw [hrb2, hV3] at hrg3 hR3
                          have hmB := (hSv.later hbV3).mp B hB3
                          have HCB : Hid (CtsOf (LN1 B) (XS1 B)) := hmB.2
                          have HVA : Hid (∀ v, valN AC v = cnt (XS1 A) v) := fun v => by rw [valN_perm (unhide HP) (unhide HLa)]; exact (hSv.mp A hA3).2.2 v
                          have HSM : Hid (∀ v, valN (LN1 B) v + valN AC v ≤ 4611686018427387904) := fun v => by
                            rw [(unhide HCB).2, unhide HVA]
                            have := cnt_le (XS1 B) v
                            have := cnt_le (XS1 A) v
                            omega
                          have HM0 : Hid (Mg2 wv V3 nB ab rb2 (LN1 B) AC (LN1 B) AC) := ⟨hR3, by rw [← unhide HNB]; exact hmB.1, hmB.2.1, ((unhide HP).map (·.1)).nodup_iff.2 (unhide HLa), fun v => rfl, Ky.of_below hbV3, by omega, hnBab⟩
                          clear hSv hR3 hbV3 hmB HC
                          go_wp2_with fail
                          go_loopw [120] (fun _ wq => ∃ Lc todo, Hid (Mg2 wv wq nB ab rb2 (LN1 B) AC Lc todo)) (fun _ wq => rgLeft wq ab rb2)
                          case atStart => exact ⟨LN1 B, AC, HM0⟩
                          case round =>
                            obtain ⟨Lc, todo, HM⟩ := hrel
                            rename World => wu
                            clear HM0 hrg3 hnx
                            rcases range_step (unhide HM).rg with ⟨e, hnx⟩ | ⟨pre, q, post, W8, e, hnx, hent, hX⟩
                            · subst e
                              have hct := (unhide HM).done (unhide HCB) (unhide HVA)
                              have hky := (unhide HM).ky
                              have hmp := (unhide HM).mp
                              rw [← unhide HNB] at hky hmp
                              have hSf := (unhide HSv).cnt hB3 hmp hct hky
                              have hbxf : wu.rowIs bs 36 7 (fun j => match j with | 0 => .int .i64 x.k | 1 => .int .i64 x.n | 2 => .string x.s | 3 => .int .i64 x.N | 4 => .bool x.m | 5 => .int .i64 x.A | _ => .int .i64 x.B) := (unhide HBXv).of_block (hky.block bs (unhide HBXv).lt (Ne.symm hnbB))
                              have hbmB : (bl + 1) ≠ bs := hbmbs
                              have HFI : Hid (∀ (Y : World) (t : Int), Below wu.heap.size wu Y → t = ((TB + TA : Nat) : Int) → At w (Y.setCell ⟨bl + 1, B * 2 + 1, none⟩ (.int .i64 t)) k bl (bl + 1) ∧ (Y.setCell ⟨bl + 1, B * 2 + 1, none⟩ (.int .i64 t)).rowIs bs 36 7 (fun j => match j with | 0 => .int .i64 x.k | 1 => .int .i64 x.n | 2 => .string x.s | 3 => .int .i64 x.N | 4 => .bool x.m | 5 => .int .i64 x.A | _ => .int .i64 x.B)) := fun Y t hY ht => by
                                have h1 := (hSf.later hY).total hB3 ht
                                have e1 : up (fun i => tot (XS1 i)) B (TB + TA) = fun i => tot (up XS1 B (XS1 B ++ XS1 A) i) := by
                                  funext i
                                  by_cases e2 : i = B
                                  · subst e2; rw [up_same, up_same, tot_app, hTB, hTA]
                                  · rw [up_ne e2, up_ne e2]
                                rw [e1] at h1
                                exact ⟨⟨_, _, _, _, _, h1⟩, (rowIs_later hbxf hY).setOther (Ne.symm hbmB) _⟩
                              have t2 := (hSf.cells hB3).2.2.1
                              have t1 := (hSf.cells hA3).2.2.1
                              have tf := (hSf.cells hB3).2.2.2
                              rw [hTB] at t2
                              rw [hTA] at t1
                              have hadd : IntKind.i64.wrap ((TB : Int) + (TA : Int)) = (TB : Int) + (TA : Int) := by rw [IntKind.wrap_i64]; omega
                              clear hct hky hmp hSf hbxf HM
                              go_upto_region 32 with fail
                              go_region_law (fail)
                              all_goals
                                go_wp2
                                go_meet
                                exact unhide HFI _ _ (Below.refl _ _).drew (by first | omega | (rw [IntKind.wrap_i64]; omega))
                            · obtain ⟨X9, hX9⟩ : ∃ X9, W8.alloc (.cells #[.int .i64 q.1.k, .int .i64 q.1.n, .string q.1.s] 34) = X9 := ⟨_, rfl⟩
                              obtain ⟨kb, hkb⟩ : ∃ kb, W8.heap.size = kb := ⟨_, rfl⟩
                              rw [hX9, hkb] at hX
                              obtain ⟨hsum, hnk, hmX, hfin⟩ := (unhide HM).step e hX (unhide HSM)
                              have HLEN : Hid (rgLeft wu ab rb2 = (pre ++ post).length + 1) := by
                                show _ = _
                                rw [(unhide HM).rg.left, e]; simp; omega
                              have x0 := hX.k0
                              have x1 := hX.k1
                              have x2 := hX.k2
                              have hxs := hX.size
                              have hdB := ((unhide HSv).cells hB3).2.1
                              rw [unhide HNB] at hdB
                              have hu : wu.cell? ⟨bl + 1, B * 2, none⟩ = some (.map (some nB)) := (unhide HM).ky.cell hdB (by have := ((unhide HSv).nb0 B hB3).2.2; rw [unhide HNB] at this; exact Ne.symm this)
                              have hul : bl + 1 < wv.heap.size := World.block_lt_of_cell? _ _ hdB
                              have hxo : X9.heap[bl + 1]? = wu.heap[bl + 1]? := hX.oth (bl + 1) (World.block_lt_of_cell? _ _ hu) (by have := (unhide HM).nr; omega)
                              have x3 : X9.cell? ⟨bl + 1, B * 2, none⟩ = some (.map (some nB)) := by rw [← hu]; unfold World.cell?; rw [hxo]
                              have hnbm : bl + 1 ≠ nB := by have := ((unhide HSv).nb0 B hB3).2.2; rw [unhide HNB] at this; exact Ne.symm this
                              obtain ⟨c, hc⟩ : ∃ c, valN Lc q.1 = c := ⟨_, rfl⟩
                              rw [hc] at hsum hfin
                              have hadd : IntKind.i64.wrap ((c : Int) + (q.2 : Int)) = (c : Int) + (q.2 : Int) := by rw [IntKind.wrap_i64]; omega
                              have hm7 := hmX.later (Below.refl _ X9).drew
                              obtain ⟨o, st, hme, hmp, hst⟩ := entN map25 q.1 hm7
                              have hlk := lookN map25 hm7 q.1
                              have hlk2 := lookN map25 hmp q.1
                              rw [ensL_val (unhide HM).nod] at hlk2
                              rw [hc] at hme hlk hlk2
                              have hat : (putO X9.drew nB o).heap[nB]? = some o := putO_at hm7.lt
                              obtain ⟨o2, hes, hmp2⟩ := hst (putO X9.drew nB o) (c + q.2) hat
                              have HFI := hide (hfin _ hmp2 ((((Ky.of_below (F := fun z => z = nB) (Below.refl _ X9).drew).trans (ky_putO (F := fun z => z = nB) X9.drew nB o rfl) fun i hi => .inl hi)).trans (ky_putO (F := fun z => z = nB) _ nB o2 rfl) fun i hi => .inl hi))
                              simp only [Vk.v, nv] at hme hlk hlk2
                              have hes' : (Instr.entryStore 25 (.map (some nB)) (.int .i64 st) (.int .i64 ((c : Int) + (q.2 : Int)))).run Try.prog (putO X9.drew nB o) = .ok () (putO (putO X9.drew nB o) nB o2) := hes
                              have x0' : (putO X9.drew nB o).cell? ⟨kb, 0, none⟩ = some (.int .i64 q.1.k) := by rw [← x0]; unfold World.cell?; rw [putO_ne (Ne.symm hnk)]; rfl
                              have x1' : (putO X9.drew nB o).cell? ⟨kb, 1, none⟩ = some (.int .i64 q.1.n) := by rw [← x1]; unfold World.cell?; rw [putO_ne (Ne.symm hnk)]; rfl
                              have x2' : (putO X9.drew nB o).cell? ⟨kb, 2, none⟩ = some (.string q.1.s) := by rw [← x2]; unfold World.cell?; rw [putO_ne (Ne.symm hnk)]; rfl
                              have x3' : (putO X9.drew nB o).cell? ⟨bl + 1, B * 2, none⟩ = some (.map (some nB)) := by rw [← x3]; unfold World.cell?; rw [putO_ne hnbm]; rfl
                              clear hmp hst hat hmp2 hes hm7 hX hfin hmX HM hxs hdB hu hul hxo hsum e HSM HCB HVA HP
                              go_upto_region 31 with fail
                              refine wp_region_noPanic ?_
                              refine wp_region_G (S := fun w' : World => w'.cell? ⟨bl + 1, B * 2, none⟩ = some (.map (some nB)) ∧ w'.cell? ⟨kb, 0, none⟩ = some (.int .i64 q.1.k) ∧ w'.cell? ⟨kb, 1, none⟩ = some (.int .i64 q.1.n) ∧ w'.cell? ⟨kb, 2, none⟩ = some (.string q.1.s) ∧ (Instr.lookup 25 (.map (some nB)) (.agg #[.int .i64 q.1.k, .int .i64 q.1.n, .string q.1.s]) false).run Try.prog w' = .ok (.int .i64 (c : Int)) w') (k := 10) (by kernel_rfl) ?_
                              have SS : (fun w' : World => w'.cell? ⟨bl + 1, B * 2, none⟩ = some (.map (some nB)) ∧ w'.cell? ⟨kb, 0, none⟩ = some (.int .i64 q.1.k) ∧ w'.cell? ⟨kb, 1, none⟩ = some (.int .i64 q.1.n) ∧ w'.cell? ⟨kb, 2, none⟩ = some (.string q.1.s) ∧ (Instr.lookup 25 (.map (some nB)) (.agg #[.int .i64 q.1.k, .int .i64 q.1.n, .string q.1.s]) false).run Try.prog w' = .ok (.int .i64 (c : Int)) w') X9.drew := ⟨x3, x0, x1, x2, hlk⟩
                              change anyG _ _ _ _ _ _ _ _ _ X9.drew
                              refine anyG_takel (i := 0) (v := (.int .i64 (B : Int))) [1, 2, 3, 5, 7, 8, 9, 10] rfl (by kernel_rfl) (by kernel_rfl) (by kernel_rfl) (by kernel_rfl) (fun _ _ _ h => h) (Or.inl ⟨by rfl, fun w' hSw => ?_⟩) SS ?_
                              · dsimp only at hSw; obtain ⟨z3, z0, z1, z2, z4⟩ := hSw; go_simp
                              try simp only [Act.put, List.setIfInBounds_toArray, List.set_cons_zero, List.set_cons_succ]
                              refine anyG_takel (i := 1) (v := (.pointer (some ⟨bl + 1, B * 2, none⟩))) [2, 3, 5, 7, 8, 9, 10] rfl (by kernel_rfl) (by kernel_rfl) (by kernel_rfl) (by kernel_rfl) (fun _ _ _ h => h) (Or.inl ⟨by rfl, fun w' hSw => ?_⟩) SS ?_
                              · dsimp only at hSw; obtain ⟨z3, z0, z1, z2, z4⟩ := hSw; go_simp
                              try simp only [Act.put, List.setIfInBounds_toArray, List.set_cons_zero, List.set_cons_succ]
                              refine anyG_takel (i := 2) (v := (.pointer (some ⟨bl + 1, B * 2, none⟩))) [3, 5, 7, 8, 9, 10] rfl (by kernel_rfl) (by kernel_rfl) (by kernel_rfl) (by kernel_rfl) (fun _ _ _ h => h) (Or.inl ⟨by rfl, fun w' hSw => ?_⟩) SS ?_
                              · dsimp only at hSw; obtain ⟨z3, z0, z1, z2, z4⟩ := hSw; go_simp
                              try simp only [Act.put, List.setIfInBounds_toArray, List.set_cons_zero, List.set_cons_succ]
                              refine anyG_takel (i := 3) (v := (.map (some nB))) [5, 7, 8, 9, 10] rfl (by kernel_rfl) (by kernel_rfl) (by kernel_rfl) (by kernel_rfl) (fun _ _ _ h => h) (Or.inl ⟨by rfl, fun w' hSw => ?_⟩) SS ?_
                              · dsimp only at hSw; obtain ⟨z3, z0, z1, z2, z4⟩ := hSw; go_simp
                              try simp only [Act.put, List.setIfInBounds_toArray, List.set_cons_zero, List.set_cons_succ]
                              refine anyG_takel (i := 4) (v := (.agg #[.int .i64 q.1.k, .int .i64 q.1.n, .string q.1.s])) [5, 7, 8, 9, 10] rfl (by kernel_rfl) (by kernel_rfl) (by kernel_rfl) (by kernel_rfl) (fun _ _ _ h => h) (Or.inl ⟨by rfl, fun w' hSw => ?_⟩) SS ?_
                              · dsimp only at hSw; obtain ⟨z3, z0, z1, z2, z4⟩ := hSw; go_simp
                              try simp only [Act.put, List.setIfInBounds_toArray, List.set_cons_zero, List.set_cons_succ]
                              refine anyG_takel (i := 5) (v := (.int .i64 (c : Int))) [7, 10] rfl (by kernel_rfl) (by kernel_rfl) (by kernel_rfl) (by kernel_rfl) (fun _ _ _ h => h) (Or.inl ⟨by rfl, fun w' hSw => ?_⟩) SS ?_
                              · dsimp only at hSw; obtain ⟨z3, z0, z1, z2, z4⟩ := hSw; go_simp
                              try simp only [Act.put, List.setIfInBounds_toArray, List.set_cons_zero, List.set_cons_succ]
                              refine anyG_takel (i := 6) (v := (.int .i64 (q.2 : Int))) [7, 10] rfl (by kernel_rfl) (by kernel_rfl) (by kernel_rfl) (by kernel_rfl) (fun _ _ _ h => h) (Or.inl ⟨by rfl, fun w' hSw => ?_⟩) SS ?_
                              · dsimp only at hSw; obtain ⟨z3, z0, z1, z2, z4⟩ := hSw; go_simp
                              try simp only [Act.put, List.setIfInBounds_toArray, List.set_cons_zero, List.set_cons_succ]
                              refine anyG_takel (i := 7) (v := (.int .i64 ((c : Int) + (q.2 : Int)))) [10] rfl (by kernel_rfl) (by kernel_rfl) (by kernel_rfl) (by kernel_rfl) (fun _ _ _ h => h) (Or.inl ⟨by rfl, fun w' hSw => ?_⟩) SS ?_
                              · dsimp only at hSw; obtain ⟨z3, z0, z1, z2, z4⟩ := hSw; go_simp
                              try simp only [Act.put, List.setIfInBounds_toArray, List.set_cons_zero, List.set_cons_succ]
                              refine anyG_one (i := 8) (by kernel_rfl) ?_
                              refine wpOp_lit rfl (by rfl) fun K hK => ?_
                              go_simp
                              refine unhide hK _ _ ⟨fun _ => ⟨x3', x0', x1', x2', hlk2⟩, ?_⟩
                              clear hK K
                              refine anyG_one (i := 9) (by kernel_rfl) ?_
                              refine wpOp_lit rfl (by rfl) fun K hK => ?_
                              go_simp
                              refine unhide hK _ _ ⟨fun _ => ⟨x3', x0', x1', x2', hlk2⟩, ?_⟩
                              clear hK K
                              refine anyG_one (i := 10) (by kernel_rfl) ?_
                              refine wpOp_lit rfl (by rfl) fun K hK => ?_
                              go_simp
                              refine unhide hK _ _ ⟨fun hh => absurd hh (by decide), ?_⟩
                              clear hK K
                              refine anyG_done (by kernel_rfl) ?_ _
                              refine NoPanic.normal ?_
                              clear SS hme hlk hlk2 hes' x0' x1' x2' x3' x0 x1 x2 x3
                              go_wp2
                              go_roundw
                              case rel => exact ⟨_, pre ++ post, HFI⟩
                              case measure => rw [(unhide HFI).rg.left, unhide HLEN]; omega
                        · obtain ⟨X9, hX9⟩ : ∃ X9, W8.alloc (.cells #[.int .i64 q.1.k, .int .i64 q.1.n, .string q.1.s] 34) = X9 := ⟨_, rfl⟩
                          obtain ⟨kb, hkb⟩ : ∃ kb, W8.heap.size = kb := ⟨_, rfl⟩
                          rw [hX9, hkb] at hX
                          obtain ⟨o2, hup, hC2⟩ := (unhide HC).step (unhide HLa) e hX
                          have HC2 := hide hC2
                          have HLEN : Hid (rgLeft wv nA rb = (pre ++ post).length + 1) := by
                            show _ = _
                            rw [(unhide HC).rg.left, e]; simp; omega
                          have x0 := hX.k0
                          have x1 := hX.k1
                          have x2 := hX.k2
                          clear hX hC2 e HC
                          go_wp2
                          go_roundw
                          case rel => exact ⟨AC ++ [q], pre ++ post, HC2⟩
                          case measure => rw [(unhide HC2).rg.left, unhide HLEN]; omega
                    · have HMG : Hid (∀ W, Below wq.heap.size wq W → Calls Try.prog 6 #[.pointer (some ⟨pB, 0, none⟩), .pointer (some ⟨pA, 0, none⟩)] W fun e w' => e = .returned (.int .i64 3) ∧ Below wq.heap.size wq w') := fun W hW => by
                        have hS := (unhide HSt2).later hW
                        rw [← hpB, ← hpA]
                        refine (merge_any (hS.sk B hB3) (hS.sk A hA3) hk).mono ?_
                        rintro e w' (⟨_, rfl, h2⟩ | ⟨h1, _⟩)
                        · exact ⟨rfl, below_step hW h2⟩
                        · omega
                      go_upto_region 19 with fail
                      go_cut [14] (fun s14 wd => s14 = .int .i64 3 ∧ Hid (Below wq.heap.size wq wd))
                      case first =>
                        as_aux_lemma =>
                          refine wp_region_noPanic ?_
                          refine wp_region_G (S := fun w' : World => Below wq.heap.size wq w') (k := 6) (by kernel_rfl) ?_
                          have SS : (fun w' : World => Below wq.heap.size wq w') wq.drew := (Below.refl _ _).drew
                          change anyG _ _ _ _ _ _ _ _ _ wq.drew
                          refine anyG_takel (i := 0) (v := (.int .i64 (B : Int))) [1, 2, 6, 7] rfl (by kernel_rfl) (by kernel_rfl) (by kernel_rfl) (by kernel_rfl) (fun _ _ _ h => h) (Or.inl ⟨by rfl, fun w' hSw => ?_⟩) SS ?_
                          · dsimp only at hSw; go_simp
                          try simp only [Act.put, List.setIfInBounds_toArray, List.set_cons_zero, List.set_cons_succ]
                          refine anyG_takel (i := 1) (v := (.pointer (some ⟨bl, B, none⟩))) [2, 6, 7] rfl (by kernel_rfl) (by kernel_rfl) (by kernel_rfl) (by kernel_rfl) (fun _ _ _ h => h) (Or.inl ⟨by rfl, fun w' hSw => ?_⟩) SS ?_
                          · dsimp only at hSw; go_simp
                          try simp only [Act.put, List.setIfInBounds_toArray, List.set_cons_zero, List.set_cons_succ]
                          refine anyG_takel (i := 2) (v := (.pointer (some ⟨pB, 0, none⟩))) [6, 7] rfl (by kernel_rfl) (by kernel_rfl) (by kernel_rfl) (by kernel_rfl) (fun _ _ _ h => h) (Or.inl ⟨by rfl, fun w' hSw => ?_⟩) SS ?_
                          · dsimp only at hSw; have z2 := cell_later hSw cB; go_simp
                          try simp only [Act.put, List.setIfInBounds_toArray, List.set_cons_zero, List.set_cons_succ]
                          refine anyG_takel (i := 3) (v := (.int .i64 (A : Int))) [4, 5, 6, 7] rfl (by kernel_rfl) (by kernel_rfl) (by kernel_rfl) (by kernel_rfl) (fun _ _ _ h => h) (Or.inl ⟨by rfl, fun w' hSw => ?_⟩) SS ?_
                          · dsimp only at hSw; go_simp
                          try simp only [Act.put, List.setIfInBounds_toArray, List.set_cons_zero, List.set_cons_succ]
                          refine anyG_takel (i := 4) (v := (.pointer (some ⟨bl, A, none⟩))) [5, 6, 7] rfl (by kernel_rfl) (by kernel_rfl) (by kernel_rfl) (by kernel_rfl) (fun _ _ _ h => h) (Or.inl ⟨by rfl, fun w' hSw => ?_⟩) SS ?_
                          · dsimp only at hSw; go_simp
                          try simp only [Act.put, List.setIfInBounds_toArray, List.set_cons_zero, List.set_cons_succ]
                          refine anyG_takel (i := 5) (v := (.pointer (some ⟨pA, 0, none⟩))) [6, 7] rfl (by kernel_rfl) (by kernel_rfl) (by kernel_rfl) (by kernel_rfl) (fun _ _ _ h => h) (Or.inl ⟨by rfl, fun w' hSw => ?_⟩) SS ?_
                          · dsimp only at hSw; have z2 := cell_later hSw cA; go_simp
                          try simp only [Act.put, List.setIfInBounds_toArray, List.set_cons_zero, List.set_cons_succ]
                          refine anyG_one (i := 6) (by kernel_rfl) ?_
                          refine wpOp_lit rfl (by rfl) fun K hK => ?_
                          go_simp
                          refine (unhide HMG _ SS).mono ?_
                          rintro e w5 ⟨rfl, HS5⟩
                          replace HS5 := hide HS5
                          go_simp
                          refine unhide hK _ _ ⟨fun hh => absurd hh (by decide), ?_⟩
                          clear hK K
                          refine anyG_one (i := 7) (by kernel_rfl) ?_
                          refine wpOp_lit rfl (by rfl) fun K hK => ?_
                          go_simp
                          refine unhide hK _ _ ⟨fun hh => absurd hh (by decide), ?_⟩
                          clear hK K
                          refine anyG_done (by kernel_rfl) ?_ _
                          refine NoPanic.normal ?_
                          go_wp2
                          go_meet
                          exact ⟨rfl, HS5⟩
                      case rest =>
                      obtain ⟨rfl, HS5⟩ := hcut
                      rename World => wt
                      have t1 := cell_later (unhide HS5) tA
                      have t2 := cell_later (unhide HS5) tB
                      have j1 : 4611686018427387904 - (TB : Int) < (TA : Int) := by omega
                      have j2 : (TB : Int) ≤ 4611686018427387904 := by omega
                      go_upto_region 20 with fail
                      go_cut [101] (fun s101 wd => s101 = .bool false ∧ Hid (Below wt.heap.size wt wd))
                      case first =>
                        as_aux_lemma =>
                          have k1 := cell_regrown t1
                          have k2 := cell_regrown t2
                          refine wp_region_quiet_below (by kernel_rfl) (by kernel_rfl) ?_
                          repeat (go_big_quiet_step (fail))
                          refine wpQuiet_nil ?_
                          intro w' hw'
                          have hB' : Below wt.heap.size wt w' := by obtain ⟨p, rfl⟩ := hw'; exact below_regrown _ _ _
                          clear hw' k1 k2
                          go_wp2
                          go_meet
                          exact ⟨by simp [j1], hB'⟩
                      case rest =>
                      obtain ⟨rfl, HB6⟩ := hcut
                      have HF6 := hide (below_step (unhide HS5) (unhide HB6))
                      go_wp2
                      go_meet
                      exact ⟨⟨bx1, nb1, F1, LN1, XS1, (unhide HSt2).later (unhide HF6)⟩, rowIs_later (unhide HBX2) (unhide HF6)⟩
                | false =>
                  as_aux_lemma =>
                    obtain ⟨N, hNN⟩ : ∃ N, x.N = N := ⟨_, rfl⟩
                    have s0 := (unhide HBX2).cell (i := 0) (by omega)
                    have s1 := (unhide HBX2).cell (i := 1) (by omega)
                    have s2 := (unhide HBX2).cell (i := 2) (by omega)
                    have s3 := (unhide HBX2).cell (i := 3) (by omega)
                    simp only at s0 s1 s2 s3
                    rw [hNN] at s3
                    by_cases hn0 : N < 0
                    · have HAD : Hid (∀ W, Below wq.heap.size wq W → Calls Try.prog 8 #[.pointer (some ⟨pB, 0, none⟩), (.agg #[.int .i64 x.k, .int .i64 x.n, .string x.s]), .int .i64 N] W fun e w' => e = .returned (.int .i64 1) ∧ Below wq.heap.size wq w') := fun W hW => by
                        have hS := (unhide HSt2).later hW
                        rw [← hpB]
                        refine (add_any (hS.sk B hB3) hk ⟨x.k, x.n, x.s⟩ N).mono ?_
                        rintro e w' (⟨h1, rfl, h2⟩ | ⟨h1, h3, rfl, h2⟩ | ⟨h1, h3, rfl, _⟩)
                        · exact ⟨rfl, below_step hW h2⟩
                        · omega
                        · omega
                      go_upto_region 33 with fail
                      go_cut [20] (fun s20 wd => s20 = .int .i64 1 ∧ Hid (Below wq.heap.size wq wd))
                      case first =>
                        as_aux_lemma =>
                          refine wp_region_noPanic ?_
                          refine wp_region_G (S := fun w' : World => Below wq.heap.size wq w') (k := 7) (by kernel_rfl) ?_
                          have SS : (fun w' : World => Below wq.heap.size wq w') wq.drew := (Below.refl _ _).drew
                          change anyG _ _ _ _ _ _ _ _ _ wq.drew
                          refine anyG_takel (i := 0) (v := (.int .i64 (B : Int))) [1, 2, 7, 8] rfl (by kernel_rfl) (by kernel_rfl) (by kernel_rfl) (by kernel_rfl) (fun _ _ _ h => h) (Or.inl ⟨by rfl, fun w' hSw => ?_⟩) SS ?_
                          · dsimp only at hSw; go_simp
                          try simp only [Act.put, List.setIfInBounds_toArray, List.set_cons_zero, List.set_cons_succ]
                          refine anyG_takel (i := 1) (v := (.pointer (some ⟨bl, B, none⟩))) [2, 7, 8] rfl (by kernel_rfl) (by kernel_rfl) (by kernel_rfl) (by kernel_rfl) (fun _ _ _ h => h) (Or.inl ⟨by rfl, fun w' hSw => ?_⟩) SS ?_
                          · dsimp only at hSw; go_simp
                          try simp only [Act.put, List.setIfInBounds_toArray, List.set_cons_zero, List.set_cons_succ]
                          refine anyG_takel (i := 2) (v := (.pointer (some ⟨pB, 0, none⟩))) [7, 8] rfl (by kernel_rfl) (by kernel_rfl) (by kernel_rfl) (by kernel_rfl) (fun _ _ _ h => h) (Or.inl ⟨by rfl, fun w' hSw => ?_⟩) SS ?_
                          · dsimp only at hSw; have z2 := cell_later hSw cB; go_simp
                          try simp only [Act.put, List.setIfInBounds_toArray, List.set_cons_zero, List.set_cons_succ]
                          refine anyG_takel (i := 3) (v := (.pointer (some ⟨bs, 0, none⟩))) [4, 7, 8] rfl (by kernel_rfl) (by kernel_rfl) (by kernel_rfl) (by kernel_rfl) (fun _ _ _ h => h) (Or.inl ⟨by rfl, fun w' hSw => ?_⟩) SS ?_
                          · dsimp only at hSw; go_simp
                          try simp only [Act.put, List.setIfInBounds_toArray, List.set_cons_zero, List.set_cons_succ]
                          refine anyG_takel (i := 4) (v := (.agg #[.int .i64 x.k, .int .i64 x.n, .string x.s])) [7, 8] rfl (by kernel_rfl) (by kernel_rfl) (by kernel_rfl) (by kernel_rfl) (fun _ _ _ h => h) (Or.inl ⟨by rfl, fun w' hSw => ?_⟩) SS ?_
                          · dsimp only at hSw; have z0 := cell_later hSw s0; have z1 := cell_later hSw s1; have z2 := cell_later hSw s2; go_simp
                          try simp only [Act.put, List.setIfInBounds_toArray, List.set_cons_zero, List.set_cons_succ]
                          refine anyG_takel (i := 5) (v := (.pointer (some ⟨bs, 3, none⟩))) [6, 7, 8] rfl (by kernel_rfl) (by kernel_rfl) (by kernel_rfl) (by kernel_rfl) (fun _ _ _ h => h) (Or.inl ⟨by rfl, fun w' hSw => ?_⟩) SS ?_
                          · dsimp only at hSw; go_simp
                          try simp only [Act.put, List.setIfInBounds_toArray, List.set_cons_zero, List.set_cons_succ]
                          refine anyG_takel (i := 6) (v := (.int .i64 N)) [7, 8] rfl (by kernel_rfl) (by kernel_rfl) (by kernel_rfl) (by kernel_rfl) (fun _ _ _ h => h) (Or.inl ⟨by rfl, fun w' hSw => ?_⟩) SS ?_
                          · dsimp only at hSw; have z3 := cell_later hSw s3; go_simp
                          try simp only [Act.put, List.setIfInBounds_toArray, List.set_cons_zero, List.set_cons_succ]
                          refine anyG_one (i := 7) (by kernel_rfl) ?_
                          refine wpOp_lit rfl (by rfl) fun K hK => ?_
                          go_simp
                          refine (unhide HAD _ SS).mono ?_
                          rintro e w5 ⟨rfl, HS5⟩
                          replace HS5 := hide HS5
                          go_simp
                          refine unhide hK _ _ ⟨fun hh => absurd hh (by decide), ?_⟩
                          clear hK K
                          refine anyG_one (i := 8) (by kernel_rfl) ?_
                          refine wpOp_lit rfl (by rfl) fun K hK => ?_
                          go_simp
                          refine unhide hK _ _ ⟨fun hh => absurd hh (by decide), ?_⟩
                          clear hK K
                          refine anyG_done (by kernel_rfl) ?_ _
                          refine NoPanic.normal ?_
                          go_wp2
                          go_meet
                          exact ⟨rfl, HS5⟩
                      case rest =>
                      obtain ⟨rfl, HS5⟩ := hcut
                      rename World => wt
                      have t1 := cell_later (unhide HS5) s3
                      have t2 := cell_later (unhide HS5) tB
                      have j1 : N < 0 := hn0
                      have j2 : ¬ 0 ≤ N := by omega
                      go_upto_region 34 with fail
                      go_cut [177] (fun s177 wd => s177 = .bool false ∧ Hid (Below wt.heap.size wt wd))
                      case first =>
                        as_aux_lemma =>
                          have k1 := cell_regrown t1
                          have k2 := cell_regrown t2
                          refine wp_region_quiet_below (by kernel_rfl) (by kernel_rfl) ?_
                          repeat (go_big_quiet_step (fail))
                          refine wpQuiet_nil ?_
                          intro w' hw'
                          have hB' : Below wt.heap.size wt w' := by obtain ⟨p, rfl⟩ := hw'; exact below_regrown _ _ _
                          clear hw' k1 k2
                          go_wp2
                          go_meet
                          exact ⟨by simp [*], hB'⟩
                      case rest =>
                      obtain ⟨rfl, HB6⟩ := hcut
                      have HF6 := hide (below_step (unhide HS5) (unhide HB6))
                      go_wp2
                      go_meet
                      exact ⟨⟨bx1, nb1, F1, LN1, XS1, (unhide HSt2).later (unhide HF6)⟩, rowIs_later (unhide HBX2) (unhide HF6)⟩
                    · by_cases hn1 : 4611686018427387904 - (TB : Int) < N
                      · have HAD : Hid (∀ W, Below wq.heap.size wq W → Calls Try.prog 8 #[.pointer (some ⟨pB, 0, none⟩), (.agg #[.int .i64 x.k, .int .i64 x.n, .string x.s]), .int .i64 N] W fun e w' => e = .returned (.int .i64 3) ∧ Below wq.heap.size wq w') := fun W hW => by
                          have hS := (unhide HSt2).later hW
                          rw [← hpB]
                          refine (add_any (hS.sk B hB3) hk ⟨x.k, x.n, x.s⟩ N).mono ?_
                          rintro e w' (⟨h1, rfl, h2⟩ | ⟨h1, h3, rfl, h2⟩ | ⟨h1, h3, rfl, _⟩)
                          · omega
                          · exact ⟨rfl, below_step hW h2⟩
                          · rw [hTB] at h3; omega
                        go_upto_region 33 with fail
                        go_cut [20] (fun s20 wd => s20 = .int .i64 3 ∧ Hid (Below wq.heap.size wq wd))
                        case first =>
                          as_aux_lemma =>
                            refine wp_region_noPanic ?_
                            refine wp_region_G (S := fun w' : World => Below wq.heap.size wq w') (k := 7) (by kernel_rfl) ?_
                            have SS : (fun w' : World => Below wq.heap.size wq w') wq.drew := (Below.refl _ _).drew
                            change anyG _ _ _ _ _ _ _ _ _ wq.drew
                            refine anyG_takel (i := 0) (v := (.int .i64 (B : Int))) [1, 2, 7, 8] rfl (by kernel_rfl) (by kernel_rfl) (by kernel_rfl) (by kernel_rfl) (fun _ _ _ h => h) (Or.inl ⟨by rfl, fun w' hSw => ?_⟩) SS ?_
                            · dsimp only at hSw; go_simp
                            try simp only [Act.put, List.setIfInBounds_toArray, List.set_cons_zero, List.set_cons_succ]
                            refine anyG_takel (i := 1) (v := (.pointer (some ⟨bl, B, none⟩))) [2, 7, 8] rfl (by kernel_rfl) (by kernel_rfl) (by kernel_rfl) (by kernel_rfl) (fun _ _ _ h => h) (Or.inl ⟨by rfl, fun w' hSw => ?_⟩) SS ?_
                            · dsimp only at hSw; go_simp
                            try simp only [Act.put, List.setIfInBounds_toArray, List.set_cons_zero, List.set_cons_succ]
                            refine anyG_takel (i := 2) (v := (.pointer (some ⟨pB, 0, none⟩))) [7, 8] rfl (by kernel_rfl) (by kernel_rfl) (by kernel_rfl) (by kernel_rfl) (fun _ _ _ h => h) (Or.inl ⟨by rfl, fun w' hSw => ?_⟩) SS ?_
                            · dsimp only at hSw; have z2 := cell_later hSw cB; go_simp
                            try simp only [Act.put, List.setIfInBounds_toArray, List.set_cons_zero, List.set_cons_succ]
                            refine anyG_takel (i := 3) (v := (.pointer (some ⟨bs, 0, none⟩))) [4, 7, 8] rfl (by kernel_rfl) (by kernel_rfl) (by kernel_rfl) (by kernel_rfl) (fun _ _ _ h => h) (Or.inl ⟨by rfl, fun w' hSw => ?_⟩) SS ?_
                            · dsimp only at hSw; go_simp
                            try simp only [Act.put, List.setIfInBounds_toArray, List.set_cons_zero, List.set_cons_succ]
                            refine anyG_takel (i := 4) (v := (.agg #[.int .i64 x.k, .int .i64 x.n, .string x.s])) [7, 8] rfl (by kernel_rfl) (by kernel_rfl) (by kernel_rfl) (by kernel_rfl) (fun _ _ _ h => h) (Or.inl ⟨by rfl, fun w' hSw => ?_⟩) SS ?_
                            · dsimp only at hSw; have z0 := cell_later hSw s0; have z1 := cell_later hSw s1; have z2 := cell_later hSw s2; go_simp
                            try simp only [Act.put, List.setIfInBounds_toArray, List.set_cons_zero, List.set_cons_succ]
                            refine anyG_takel (i := 5) (v := (.pointer (some ⟨bs, 3, none⟩))) [6, 7, 8] rfl (by kernel_rfl) (by kernel_rfl) (by kernel_rfl) (by kernel_rfl) (fun _ _ _ h => h) (Or.inl ⟨by rfl, fun w' hSw => ?_⟩) SS ?_
                            · dsimp only at hSw; go_simp
                            try simp only [Act.put, List.setIfInBounds_toArray, List.set_cons_zero, List.set_cons_succ]
                            refine anyG_takel (i := 6) (v := (.int .i64 N)) [7, 8] rfl (by kernel_rfl) (by kernel_rfl) (by kernel_rfl) (by kernel_rfl) (fun _ _ _ h => h) (Or.inl ⟨by rfl, fun w' hSw => ?_⟩) SS ?_
                            · dsimp only at hSw; have z3 := cell_later hSw s3; go_simp
                            try simp only [Act.put, List.setIfInBounds_toArray, List.set_cons_zero, List.set_cons_succ]
                            refine anyG_one (i := 7) (by kernel_rfl) ?_
                            refine wpOp_lit rfl (by rfl) fun K hK => ?_
                            go_simp
                            refine (unhide HAD _ SS).mono ?_
                            rintro e w5 ⟨rfl, HS5⟩
                            replace HS5 := hide HS5
                            go_simp
                            refine unhide hK _ _ ⟨fun hh => absurd hh (by decide), ?_⟩
                            clear hK K
                            refine anyG_one (i := 8) (by kernel_rfl) ?_
                            refine wpOp_lit rfl (by rfl) fun K hK => ?_
                            go_simp
                            refine unhide hK _ _ ⟨fun hh => absurd hh (by decide), ?_⟩
                            clear hK K
                            refine anyG_done (by kernel_rfl) ?_ _
                            refine NoPanic.normal ?_
                            go_wp2
                            go_meet
                            exact ⟨rfl, HS5⟩
                        case rest =>
                        obtain ⟨rfl, HS5⟩ := hcut
                        rename World => wt
                        have t1 := cell_later (unhide HS5) s3
                        have t2 := cell_later (unhide HS5) tB
                        have j1 : ¬ N < 0 := hn0
                        have j2 : 0 ≤ N := by omega
                        have j3 : (TB : Int) ≤ 4611686018427387904 := by omega
                        go_upto_region 34 with fail
                        go_cut [177] (fun s177 wd => s177 = .bool false ∧ Hid (Below wt.heap.size wt wd))
                        case first =>
                          as_aux_lemma =>
                            have k1 := cell_regrown t1
                            have k2 := cell_regrown t2
                            refine wp_region_quiet_below (by kernel_rfl) (by kernel_rfl) ?_
                            repeat (go_big_quiet_step (fail))
                            refine wpQuiet_nil ?_
                            intro w' hw'
                            have hB' : Below wt.heap.size wt w' := by obtain ⟨p, rfl⟩ := hw'; exact below_regrown _ _ _
                            clear hw' k1 k2
                            go_wp2
                            go_meet
                            exact ⟨by simp [*], hB'⟩
                        case rest =>
                        obtain ⟨rfl, HB6⟩ := hcut
                        have HF6 := hide (below_step (unhide HS5) (unhide HB6))
                        go_wp2
                        go_meet
                        exact ⟨⟨bx1, nb1, F1, LN1, XS1, (unhide HSt2).later (unhide HF6)⟩, rowIs_later (unhide HBX2) (unhide HF6)⟩
                      · obtain ⟨n, hn⟩ : ∃ n : Nat, N = (n : Int) := ⟨N.toNat, by omega⟩
                        subst hn
                        have hsumT : TB + n ≤ 4611686018427387904 := by omega
                        have HAD : Hid (∀ W, Below wq.heap.size wq W → Calls Try.prog 8 #[.pointer (some ⟨pB, 0, none⟩), (.agg #[.int .i64 x.k, .int .i64 x.n, .string x.s]), .int .i64 (n : Int)] W fun e w' => e = .returned (.int .i64 0) ∧ ((∃ F', St w w' k 3 bl (bl + 1) bx1 nb1 (up F1 B F') LN1 (up XS1 B (XS1 B ++ [(cleanK ⟨x.k, x.n, x.s⟩, n)])) XS1 (fun i => tot (XS1 i))) ∧ w'.rowIs bs 36 7 (fun j => match j with | 0 => .int .i64 x.k | 1 => .int .i64 x.n | 2 => .string x.s | 3 => .int .i64 x.N | 4 => .bool x.m | 5 => .int .i64 x.A | _ => .int .i64 x.B))) := fun W hW => by
                          have hS := (unhide HSt2).later hW
                          rw [← hpB]
                          refine (add_any (hS.sk B hB3) hk ⟨x.k, x.n, x.s⟩ (n : Int)).mono ?_
                          rintro e w' (⟨h1, rfl, h2⟩ | ⟨h1, h3, rfl, h2⟩ | ⟨h1, h3, rfl, F', h4, h5⟩)
                          · omega
                          · rw [hTB] at h3; omega
                          · rw [Int.toNat_natCast] at h4
                            refine ⟨rfl, ⟨F', hS.op hB3 h4 (fun q hq => ?_) h5.1 h5.2⟩, ?_⟩
                            · rcases List.mem_append.1 hq with hq | hq
                              · exact hS.cl B hB3 q hq
                              · simp at hq; rw [hq]; exact clean_clean _
                            · have hr := rowIs_later (unhide HBX2) hW
                              exact hr.of_block (h5.1.block bs hr.lt fun hf => hfB bs hf rfl)
                        go_upto_region 33 with fail
                        go_cut [20] (fun s20 wd => s20 = .int .i64 0 ∧ Hid ((∃ F', St w wd k 3 bl (bl + 1) bx1 nb1 (up F1 B F') LN1 (up XS1 B (XS1 B ++ [(cleanK ⟨x.k, x.n, x.s⟩, n)])) XS1 (fun i => tot (XS1 i))) ∧ wd.rowIs bs 36 7 (fun j => match j with | 0 => .int .i64 x.k | 1 => .int .i64 x.n | 2 => .string x.s | 3 => .int .i64 x.N | 4 => .bool x.m | 5 => .int .i64 x.A | _ => .int .i64 x.B)))
                        case first =>
                          as_aux_lemma =>
                            refine wp_region_noPanic ?_
                            refine wp_region_G (S := fun w' : World => Below wq.heap.size wq w') (k := 7) (by kernel_rfl) ?_
                            have SS : (fun w' : World => Below wq.heap.size wq w') wq.drew := (Below.refl _ _).drew
                            change anyG _ _ _ _ _ _ _ _ _ wq.drew
                            refine anyG_takel (i := 0) (v := (.int .i64 (B : Int))) [1, 2, 7, 8] rfl (by kernel_rfl) (by kernel_rfl) (by kernel_rfl) (by kernel_rfl) (fun _ _ _ h => h) (Or.inl ⟨by rfl, fun w' hSw => ?_⟩) SS ?_
                            · dsimp only at hSw; go_simp
                            try simp only [Act.put, List.setIfInBounds_toArray, List.set_cons_zero, List.set_cons_succ]
                            refine anyG_takel (i := 1) (v := (.pointer (some ⟨bl, B, none⟩))) [2, 7, 8] rfl (by kernel_rfl) (by kernel_rfl) (by kernel_rfl) (by kernel_rfl) (fun _ _ _ h => h) (Or.inl ⟨by rfl, fun w' hSw => ?_⟩) SS ?_
                            · dsimp only at hSw; go_simp
                            try simp only [Act.put, List.setIfInBounds_toArray, List.set_cons_zero, List.set_cons_succ]
                            refine anyG_takel (i := 2) (v := (.pointer (some ⟨pB, 0, none⟩))) [7, 8] rfl (by kernel_rfl) (by kernel_rfl) (by kernel_rfl) (by kernel_rfl) (fun _ _ _ h => h) (Or.inl ⟨by rfl, fun w' hSw => ?_⟩) SS ?_
                            · dsimp only at hSw; have z2 := cell_later hSw cB; go_simp
                            try simp only [Act.put, List.setIfInBounds_toArray, List.set_cons_zero, List.set_cons_succ]
                            refine anyG_takel (i := 3) (v := (.pointer (some ⟨bs, 0, none⟩))) [4, 7, 8] rfl (by kernel_rfl) (by kernel_rfl) (by kernel_rfl) (by kernel_rfl) (fun _ _ _ h => h) (Or.inl ⟨by rfl, fun w' hSw => ?_⟩) SS ?_
                            · dsimp only at hSw; go_simp
                            try simp only [Act.put, List.setIfInBounds_toArray, List.set_cons_zero, List.set_cons_succ]
                            refine anyG_takel (i := 4) (v := (.agg #[.int .i64 x.k, .int .i64 x.n, .string x.s])) [7, 8] rfl (by kernel_rfl) (by kernel_rfl) (by kernel_rfl) (by kernel_rfl) (fun _ _ _ h => h) (Or.inl ⟨by rfl, fun w' hSw => ?_⟩) SS ?_
                            · dsimp only at hSw; have z0 := cell_later hSw s0; have z1 := cell_later hSw s1; have z2 := cell_later hSw s2; go_simp
                            try simp only [Act.put, List.setIfInBounds_toArray, List.set_cons_zero, List.set_cons_succ]
                            refine anyG_takel (i := 5) (v := (.pointer (some ⟨bs, 3, none⟩))) [6, 7, 8] rfl (by kernel_rfl) (by kernel_rfl) (by kernel_rfl) (by kernel_rfl) (fun _ _ _ h => h) (Or.inl ⟨by rfl, fun w' hSw => ?_⟩) SS ?_
                            · dsimp only at hSw; go_simp
                            try simp only [Act.put, List.setIfInBounds_toArray, List.set_cons_zero, List.set_cons_succ]
                            refine anyG_takel (i := 6) (v := (.int .i64 (n : Int))) [7, 8] rfl (by kernel_rfl) (by kernel_rfl) (by kernel_rfl) (by kernel_rfl) (fun _ _ _ h => h) (Or.inl ⟨by rfl, fun w' hSw => ?_⟩) SS ?_
                            · dsimp only at hSw; have z3 := cell_later hSw s3; go_simp
                            try simp only [Act.put, List.setIfInBounds_toArray, List.set_cons_zero, List.set_cons_succ]
                            refine anyG_one (i := 7) (by kernel_rfl) ?_
                            refine wpOp_lit rfl (by rfl) fun K hK => ?_
                            go_simp
                            refine (unhide HAD _ SS).mono ?_
                            rintro e w5 ⟨rfl, HS5⟩
                            replace HS5 := hide HS5
                            go_simp
                            refine unhide hK _ _ ⟨fun hh => absurd hh (by decide), ?_⟩
                            clear hK K
                            refine anyG_one (i := 8) (by kernel_rfl) ?_
                            refine wpOp_lit rfl (by rfl) fun K hK => ?_
                            go_simp
                            refine unhide hK _ _ ⟨fun hh => absurd hh (by decide), ?_⟩
                            clear hK K
                            refine anyG_done (by kernel_rfl) ?_ _
                            refine NoPanic.normal ?_
                            go_wp2
                            go_meet
                            exact ⟨rfl, HS5⟩
                        case rest =>
                        obtain ⟨rfl, HS5⟩ := hcut
                        rename World => wt
                        obtain ⟨⟨F', hS5⟩, hbx5⟩ := unhide HS5
                        have t2 := (hS5.cells hB3).2.2.1
                        rw [hTB] at t2
                        have t1 := hbx5.cell (i := 3) (by omega)
                        simp only at t1
                        rw [hNN] at t1
                        have j2 : (0 : Int) ≤ (n : Int) := by omega
                        have j3 : (TB : Int) ≤ 4611686018427387904 := by omega
                        have HS6 := hide hS5
                        have HBX6 := hide hbx5
                        clear hS5 hbx5 HS5 HAD cB cA tB tA dB dA s0 s1 s2 s3
                        go_upto_region 34 with fail
                        go_cut [177] (fun s177 wd => s177 = .bool false ∧ Hid (Below wt.heap.size wt wd))
                        case first =>
                          as_aux_lemma =>
                            have k1 := cell_regrown t1
                            have k2 := cell_regrown t2
                            refine wp_region_quiet_below (by kernel_rfl) (by kernel_rfl) ?_
                            repeat (go_big_quiet_step (fail))
                            refine wpQuiet_nil ?_
                            intro w' hw'
                            have hB' : Below wt.heap.size wt w' := by obtain ⟨p, rfl⟩ := hw'; exact below_regrown _ _ _
                            clear hw' k1 k2
                            go_wp2
                            go_meet
                            exact ⟨by simp [*], hB'⟩
                        case rest =>
                        obtain ⟨rfl, HB6⟩ := hcut
                        clear t1 t2
                        have HS7 := hide ((unhide HS6).later (unhide HB6))
                        have HBX7 := hide (rowIs_later (unhide HBX6) (unhide HB6))
                        clear HS6 HBX6 HB6
                        rename World => wt
                        have hmB := (unhide HS7).mp B hB3
                        have dB := ((unhide HS7).cells hB3).2.1
                        rw [hnB] at hmB dB
                        obtain ⟨c, hc⟩ : ∃ c, valN (LN1 B) (cleanK ⟨x.k, x.n, x.s⟩) = c := ⟨_, rfl⟩
                        obtain ⟨cv, hcv⟩ : ∃ cv, (cleanK ⟨x.k, x.n, x.s⟩).v = cv := ⟨_, rfl⟩
                        have hcs : c + n ≤ 4611686018427387904 := by
                          rw [← hc, hmB.2.2]
                          have := cnt_le (XS1 B) (cleanK ⟨x.k, x.n, x.s⟩)
                          omega
                        have hadd : IntKind.i64.wrap ((c : Int) + (n : Int)) = (c : Int) + (n : Int) := by rw [IntKind.wrap_i64]; omega
                        have HCL : Hid (∀ W, Calls Try.prog 9 #[(.agg #[.int .i64 x.k, .int .i64 x.n, .string x.s])] W fun e w' => e = .returned cv ∧ Below W.heap.size W w') := fun W => by rw [← hcv]; exact clean_any ⟨x.k, x.n, x.s⟩ W
                        have hnbm : bl + 1 ≠ nB := by have := ((unhide HS7).nb0 B hB3).2.2; rw [hnB] at this; exact Ne.symm this
                        have hnbs : bs ≠ nB := by rw [← hnB]; exact Ne.symm hnbB
                        have s0 := (unhide HBX7).cell (i := 0) (by omega)
                        have s1 := (unhide HBX7).cell (i := 1) (by omega)
                        have s2 := (unhide HBX7).cell (i := 2) (by omega)
                        have s3 := (unhide HBX7).cell (i := 3) (by omega)
                        simp only at s0 s1 s2 s3
                        rw [hNN] at s3
                        have HSS : Hid (∀ W, Below wt.heap.size wt W → (fun w' : World => w'.cell? ⟨bl + 1, B * 2, none⟩ = some (.map (some nB)) ∧ w'.cell? ⟨bs, 0, none⟩ = some (.int .i64 x.k) ∧ w'.cell? ⟨bs, 1, none⟩ = some (.int .i64 x.n) ∧ w'.cell? ⟨bs, 2, none⟩ = some (.string x.s) ∧ w'.cell? ⟨bs, 3, none⟩ = some (.int .i64 (n : Int)) ∧ (Instr.lookup 25 (.map (some nB)) cv false).run Try.prog w' = .ok (.int .i64 (c : Int)) w') W) := fun W hW => by
                          refine ⟨cell_later hW dB, cell_later hW s0, cell_later hW s1, cell_later hW s2, cell_later hW s3, ?_⟩
                          have := lookN map25 (hmB.1.later hW) (cleanK ⟨x.k, x.n, x.s⟩)
                          rw [hc, hcv] at this
                          exact this
                        have HEN : Hid (∀ W, Below wt.heap.size wt W → ∃ o st, (Instr.mapEntry 25 (.map (some nB)) cv).run Try.prog W = .ok (.tuple #[.int .i64 (c : Int), .int .i64 st]) (putO W nB o) ∧ (fun w' : World => w'.cell? ⟨bl + 1, B * 2, none⟩ = some (.map (some nB)) ∧ w'.cell? ⟨bs, 0, none⟩ = some (.int .i64 x.k) ∧ w'.cell? ⟨bs, 1, none⟩ = some (.int .i64 x.n) ∧ w'.cell? ⟨bs, 2, none⟩ = some (.string x.s) ∧ w'.cell? ⟨bs, 3, none⟩ = some (.int .i64 (n : Int)) ∧ (Instr.lookup 25 (.map (some nB)) cv false).run Try.prog w' = .ok (.int .i64 (c : Int)) w') (putO W nB o) ∧ ∃ o2, (Instr.entryStore 25 (.map (some nB)) (.int .i64 st) (.int .i64 ((c : Int) + (n : Int)))).run Try.prog (putO W nB o) = .ok () (putO (putO W nB o) nB o2) ∧
                            Hid (St w (putO (putO W nB o) nB o2) k 3 bl (bl + 1) bx1 nb1 (up F1 B F') (up LN1 B (setL (LN1 B) (cleanK ⟨x.k, x.n, x.s⟩) (c + n))) (up XS1 B (XS1 B ++ [(cleanK ⟨x.k, x.n, x.s⟩, n)])) (up XS1 B (XS1 B ++ [(cleanK ⟨x.k, x.n, x.s⟩, n)])) (fun i => tot (XS1 i)) ∧ (putO (putO W nB o) nB o2).rowIs bs 36 7 (fun j => match j with | 0 => .int .i64 x.k | 1 => .int .i64 x.n | 2 => .string x.s | 3 => .int .i64 x.N | 4 => .bool x.m | 5 => .int .i64 x.A | _ => .int .i64 x.B))) := fun W hW => by
                          have hm7 := hmB.1.later hW
                          obtain ⟨o, st, hme, hmp, hst⟩ := entN map25 (cleanK ⟨x.k, x.n, x.s⟩) hm7
                          have hlk2 := lookN map25 hmp (cleanK ⟨x.k, x.n, x.s⟩)
                          rw [ensL_val hmB.2.1] at hlk2
                          rw [hc, hcv] at hme hlk2
                          have hat : (putO W nB o).heap[nB]? = some o := putO_at hm7.lt
                          obtain ⟨o2, hes, hmp2⟩ := hst (putO W nB o) (c + n) hat
                          have hcl : ∀ (b j : Nat) (v : Value), b ≠ nB → W.cell? ⟨b, j, none⟩ = some v → (putO W nB o).cell? ⟨b, j, none⟩ = some v := fun b j v hb h => by rw [← h]; unfold World.cell?; rw [putO_ne hb]
                          obtain ⟨z4, z0, z1, z2, z3, _⟩ := unhide HSS W hW
                          have hky : Ky (fun z => z = nb1 B) wt (putO (putO W nB o) nB o2) := by
                            rw [hnB]
                            exact ((Ky.of_below (F := fun z => z = nB) hW).trans (ky_putO (F := fun z => z = nB) W nB o rfl) fun i hi => .inl hi).trans (ky_putO (F := fun z => z = nB) _ nB o2 rfl) fun i hi => .inl hi
                          have hct : CtsOf (setL (LN1 B) (cleanK ⟨x.k, x.n, x.s⟩) (c + n)) (XS1 B ++ [(cleanK ⟨x.k, x.n, x.s⟩, n)]) := by
                            have := hmB.2.add (cleanK ⟨x.k, x.n, x.s⟩) n
                            rw [hc] at this
                            exact this
                          refine ⟨o, st, hme, ⟨hcl _ _ _ hnbm z4, hcl _ _ _ hnbs z0, hcl _ _ _ hnbs z1, hcl _ _ _ hnbs z2, hcl _ _ _ hnbs z3, hlk2⟩, o2, hes, (unhide HS7).cnt hB3 (by rw [hnB]; exact hmp2) hct hky, ?_⟩
                          exact (unhide HBX7).of_block (hky.block bs (unhide HBX7).lt (by rw [hnB]; exact hnbs))
                        clear hmB dB s0 s1 s2 s3 hcs hcv hc
                        go_upto_region 37 with fail
                        go_cut [] (fun wy => Hid (St w wy k 3 bl (bl + 1) bx1 nb1 (up F1 B F') (up LN1 B (setL (LN1 B) (cleanK ⟨x.k, x.n, x.s⟩) (c + n))) (up XS1 B (XS1 B ++ [(cleanK ⟨x.k, x.n, x.s⟩, n)])) (up XS1 B (XS1 B ++ [(cleanK ⟨x.k, x.n, x.s⟩, n)])) (fun i => tot (XS1 i)) ∧ wy.rowIs bs 36 7 (fun j => match j with | 0 => .int .i64 x.k | 1 => .int .i64 x.n | 2 => .string x.s | 3 => .int .i64 x.N | 4 => .bool x.m | 5 => .int .i64 x.A | _ => .int .i64 x.B)))
                        case first =>
                          as_aux_lemma =>
                            refine wp_region_noPanic ?_
                            refine wp_region_G (S := fun w' : World => w'.cell? ⟨bl + 1, B * 2, none⟩ = some (.map (some nB)) ∧ w'.cell? ⟨bs, 0, none⟩ = some (.int .i64 x.k) ∧ w'.cell? ⟨bs, 1, none⟩ = some (.int .i64 x.n) ∧ w'.cell? ⟨bs, 2, none⟩ = some (.string x.s) ∧ w'.cell? ⟨bs, 3, none⟩ = some (.int .i64 (n : Int)) ∧ (Instr.lookup 25 (.map (some nB)) cv false).run Try.prog w' = .ok (.int .i64 (c : Int)) w') (k := 13) (by kernel_rfl) ?_
                            have SS : (fun w' : World => w'.cell? ⟨bl + 1, B * 2, none⟩ = some (.map (some nB)) ∧ w'.cell? ⟨bs, 0, none⟩ = some (.int .i64 x.k) ∧ w'.cell? ⟨bs, 1, none⟩ = some (.int .i64 x.n) ∧ w'.cell? ⟨bs, 2, none⟩ = some (.string x.s) ∧ w'.cell? ⟨bs, 3, none⟩ = some (.int .i64 (n : Int)) ∧ (Instr.lookup 25 (.map (some nB)) cv false).run Try.prog w' = .ok (.int .i64 (c : Int)) w') wt.drew := unhide HSS _ (Below.refl _ _).drew
                            change anyG _ _ _ _ _ _ _ _ _ wt.drew
                            refine anyG_takel (i := 0) (v := (.int .i64 (B : Int))) [1, 2, 3, 7, 10, 11, 12, 13] rfl (by kernel_rfl) (by kernel_rfl) (by kernel_rfl) (by kernel_rfl) (fun _ _ _ h => h) (Or.inl ⟨by rfl, fun w' hSw => ?_⟩) SS ?_
                            · dsimp only at hSw; obtain ⟨z4, z0, z1, z2, z3, z5⟩ := hSw; go_simp
                            try simp only [Act.put, List.setIfInBounds_toArray, List.set_cons_zero, List.set_cons_succ]
                            refine anyG_takel (i := 1) (v := (.pointer (some ⟨bl + 1, B * 2, none⟩))) [2, 3, 7, 10, 11, 12, 13] rfl (by kernel_rfl) (by kernel_rfl) (by kernel_rfl) (by kernel_rfl) (fun _ _ _ h => h) (Or.inl ⟨by rfl, fun w' hSw => ?_⟩) SS ?_
                            · dsimp only at hSw; obtain ⟨z4, z0, z1, z2, z3, z5⟩ := hSw; go_simp
                            try simp only [Act.put, List.setIfInBounds_toArray, List.set_cons_zero, List.set_cons_succ]
                            refine anyG_takel (i := 2) (v := (.pointer (some ⟨bl + 1, B * 2, none⟩))) [3, 7, 10, 11, 12, 13] rfl (by kernel_rfl) (by kernel_rfl) (by kernel_rfl) (by kernel_rfl) (fun _ _ _ h => h) (Or.inl ⟨by rfl, fun w' hSw => ?_⟩) SS ?_
                            · dsimp only at hSw; obtain ⟨z4, z0, z1, z2, z3, z5⟩ := hSw; go_simp
                            try simp only [Act.put, List.setIfInBounds_toArray, List.set_cons_zero, List.set_cons_succ]
                            refine anyG_takel (i := 3) (v := (.map (some nB))) [7, 10, 11, 12, 13] rfl (by kernel_rfl) (by kernel_rfl) (by kernel_rfl) (by kernel_rfl) (fun _ _ _ h => h) (Or.inl ⟨by rfl, fun w' hSw => ?_⟩) SS ?_
                            · dsimp only at hSw; obtain ⟨z4, z0, z1, z2, z3, z5⟩ := hSw; go_simp
                            try simp only [Act.put, List.setIfInBounds_toArray, List.set_cons_zero, List.set_cons_succ]
                            refine anyG_takel (i := 4) (v := (.pointer (some ⟨bs, 0, none⟩))) [5, 6, 7, 10, 11, 12, 13] rfl (by kernel_rfl) (by kernel_rfl) (by kernel_rfl) (by kernel_rfl) (fun _ _ _ h => h) (Or.inl ⟨by rfl, fun w' hSw => ?_⟩) SS ?_
                            · dsimp only at hSw; obtain ⟨z4, z0, z1, z2, z3, z5⟩ := hSw; go_simp
                            try simp only [Act.put, List.setIfInBounds_toArray, List.set_cons_zero, List.set_cons_succ]
                            refine anyG_takel (i := 5) (v := (.agg #[.int .i64 x.k, .int .i64 x.n, .string x.s])) [6, 7, 10, 11, 12, 13] rfl (by kernel_rfl) (by kernel_rfl) (by kernel_rfl) (by kernel_rfl) (fun _ _ _ h => h) (Or.inl ⟨by rfl, fun w' hSw => ?_⟩) SS ?_
                            · dsimp only at hSw; obtain ⟨z4, z0, z1, z2, z3, z5⟩ := hSw; go_simp
                            try simp only [Act.put, List.setIfInBounds_toArray, List.set_cons_zero, List.set_cons_succ]
                            refine anyG_takel (i := 8) (v := (.pointer (some ⟨bs, 3, none⟩))) [9, 10, 13] rfl (by kernel_rfl) (by kernel_rfl) (by kernel_rfl) (by kernel_rfl) (fun _ _ _ h => h) (Or.inl ⟨by rfl, fun w' hSw => ?_⟩) SS ?_
                            · dsimp only at hSw; obtain ⟨z4, z0, z1, z2, z3, z5⟩ := hSw; go_simp
                            try simp only [Act.put, List.setIfInBounds_toArray, List.set_cons_zero, List.set_cons_succ]
                            refine anyG_takel (i := 9) (v := (.int .i64 (n : Int))) [10, 13] rfl (by kernel_rfl) (by kernel_rfl) (by kernel_rfl) (by kernel_rfl) (fun _ _ _ h => h) (Or.inl ⟨by rfl, fun w' hSw => ?_⟩) SS ?_
                            · dsimp only at hSw; obtain ⟨z4, z0, z1, z2, z3, z5⟩ := hSw; go_simp
                            try simp only [Act.put, List.setIfInBounds_toArray, List.set_cons_zero, List.set_cons_succ]
                            refine anyG_one (i := 6) (by kernel_rfl) ?_
                            refine wpOp_lit rfl (by rfl) fun K hK => ?_
                            go_simp
                            refine (unhide HCL _).mono ?_
                            rintro e w6 ⟨rfl, hb6⟩
                            go_simp
                            have HB6 := hide (below_step (Below.refl _ wt).drew hb6)
                            clear SS hb6
                            have SS := unhide HSS w6 (unhide HB6)
                            refine unhide hK _ _ ⟨fun _ => SS, ?_⟩
                            clear hK K
                            refine anyG_takel (i := 7) (v := (.int .i64 (c : Int))) [10, 13] rfl (by kernel_rfl) (by kernel_rfl) (by kernel_rfl) (by kernel_rfl) (fun _ _ _ h => h) (Or.inl ⟨by rfl, fun w' hSw => ?_⟩) SS ?_
                            · dsimp only at hSw; obtain ⟨z4, z0, z1, z2, z3, z5⟩ := hSw; go_simp
                            try simp only [Act.put, List.setIfInBounds_toArray, List.set_cons_zero, List.set_cons_succ]
                            refine anyG_takel (i := 10) (v := (.int .i64 ((c : Int) + (n : Int)))) [13] rfl (by kernel_rfl) (by kernel_rfl) (by kernel_rfl) (by kernel_rfl) (fun _ _ _ h => h) (Or.inl ⟨by rfl, fun w' hSw => ?_⟩) SS ?_
                            · dsimp only at hSw; obtain ⟨z4, z0, z1, z2, z3, z5⟩ := hSw; go_simp
                            try simp only [Act.put, List.setIfInBounds_toArray, List.set_cons_zero, List.set_cons_succ]
                            obtain ⟨o, st, hme, SS2, o2, hes, HFI⟩ := unhide HEN w6 (unhide HB6)
                            refine anyG_one (i := 11) (by kernel_rfl) ?_
                            refine wpOp_lit rfl (by rfl) fun K hK => ?_
                            go_simp
                            refine unhide hK _ _ ⟨fun _ => SS2, ?_⟩
                            clear hK K
                            refine anyG_one (i := 12) (by kernel_rfl) ?_
                            refine wpOp_lit rfl (by rfl) fun K hK => ?_
                            go_simp
                            refine unhide hK _ _ ⟨fun _ => SS2, ?_⟩
                            clear hK K
                            refine anyG_one (i := 13) (by kernel_rfl) ?_
                            refine wpOp_lit rfl (by rfl) fun K hK => ?_
                            go_simp
                            refine unhide hK _ _ ⟨fun hh => absurd hh (by decide), ?_⟩
                            clear hK K
                            refine anyG_done (by kernel_rfl) ?_ _
                            refine NoPanic.normal ?_
                            clear SS SS2 hme hes
                            go_wp2
                            go_meet
                            exact HFI
                        case rest =>
                        rename World => wy
                        have hSf := (unhide hcut).1
                        have hbxf := (unhide hcut).2
                        have HFI : Hid (∀ (Y : World) (t : Int), Below wy.heap.size wy Y → t = ((TB + n : Nat) : Int) → At w (Y.setCell ⟨bl + 1, B * 2 + 1, none⟩ (.int .i64 t)) k bl (bl + 1) ∧ (Y.setCell ⟨bl + 1, B * 2 + 1, none⟩ (.int .i64 t)).rowIs bs 36 7 (fun j => match j with | 0 => .int .i64 x.k | 1 => .int .i64 x.n | 2 => .string x.s | 3 => .int .i64 x.N | 4 => .bool x.m | 5 => .int .i64 x.A | _ => .int .i64 x.B)) := fun Y t hY ht => by
                          have h1 := (hSf.later hY).total hB3 ht
                          have e1 : up (fun i => tot (XS1 i)) B (TB + n) = fun i => tot (up XS1 B (XS1 B ++ [(cleanK ⟨x.k, x.n, x.s⟩, n)]) i) := by
                            funext i
                            by_cases e2 : i = B
                            · subst e2; rw [up_same, up_same, tot_app, hTB, tot_one]
                            · rw [up_ne e2, up_ne e2]
                          rw [e1] at h1
                          exact ⟨⟨_, _, _, _, _, h1⟩, (rowIs_later hbxf hY).setOther (Ne.symm hbmbs) _⟩
                        have t2 := (hSf.cells hB3).2.2.1
                        have tf := (hSf.cells hB3).2.2.2
                        rw [hTB] at t2
                        have t3 := hbxf.cell (i := 3) (by omega)
                        simp only at t3
                        rw [hNN] at t3
                        have hadd2 : IntKind.i64.wrap ((TB : Int) + (n : Int)) = (TB : Int) + (n : Int) := by rw [IntKind.wrap_i64]; omega
                        clear hSf hbxf hcut HSS HEN HCL HS7 HBX7
                        go_upto_region 38 with fail
                        go_region_law (fail)
                        all_goals
                          go_wp2
                          go_meet
                          exact unhide HFI _ _ (Below.refl _ _).drew (by first | omega | (rw [IntKind.wrap_i64]; omega))
            case rest =>
            obtain ⟨HAt, HBX3⟩ := hcut
            rename World => wd
            obtain ⟨bx2, nb2, F2, LN2, XS2, hSt3⟩ := unhide HAt
            obtain ⟨cB, dB, tB, _⟩ := hSt3.cells hB3
            have s0 := (unhide HBX3).cell (i := 0) (by omega)
            have s1 := (unhide HBX3).cell (i := 1) (by omega)
            have s2 := (unhide HBX3).cell (i := 2) (by omega)
            simp only at s0 s1 s2
            have HOF : Hid (∀ W, Below wd.heap.size wd W → Calls Try.prog 10 #[.pointer (some ⟨bx2 B, 0, none⟩), .agg #[.map (some (nb2 B)), .int .i64 (tot (XS2 B))], .int .i64 k, (.agg #[.int .i64 x.k, .int .i64 x.n, .string x.s])] W fun e w' => e = .returned (.bool true) ∧ Below W.heap.size W w') := fun W hW => by
              have hS := hSt3.later hW
              exact often_any ⟨hS.sk B hB3, (hS.mp B hB3).1, (hS.mp B hB3).2⟩ (hS.cl B hB3) hk1 hk ⟨x.k, x.n, x.s⟩
            have HS3 := hide hSt3
            obtain ⟨pB, hpB⟩ : ∃ p, bx2 B = p := ⟨_, rfl⟩
            obtain ⟨nB, hnB⟩ : ∃ n, nb2 B = n := ⟨_, rfl⟩
            obtain ⟨TB, hTB⟩ : ∃ T, tot (XS2 B) = T := ⟨_, rfl⟩
            rw [hpB, hnB, hTB] at HOF
            rw [hpB] at cB
            rw [hnB] at dB
            rw [hTB] at tB
            clear hSt3 hpB hnB hTB HAt HBX3 HSt2 HBX2
            go_upto_region 39 with fail
            go_cut [212] (fun s212 wz => s212 = .bool false ∧ Hid (Below wd.heap.size wd wz))
            case first =>
              as_aux_lemma =>
                have k0 := cell_regrown s0
                have k1 := cell_regrown s1
                have k2 := cell_regrown s2
                have k3 := cell_regrown cB
                have k4 := cell_regrown dB
                have k5 := cell_regrown tB
                refine wp_region_quiet_below (by kernel_rfl) (by kernel_rfl) ?_
                repeat (go_big_quiet_step (first | (go_at_call 10; exact Calls.regrown_of (unhide HOF _ (below_regrown _ _ _)))))
                refine wpQuiet_nil ?_
                intro w' hw'
                have hB' : Below wd.heap.size wd w' := by obtain ⟨p, rfl⟩ := hw'; exact below_regrown _ _ _
                clear hw' k0 k1 k2 k3 k4 k5
                go_wp2
                go_meet
                exact ⟨rfl, hB'⟩
            case rest =>
            obtain ⟨rfl, HBZ⟩ := hcut
            have HAZ : Hid (At w _ k bl (bl + 1)) := ⟨bx2, nb2, F2, LN2, XS2, (unhide HS3).later (unhide HBZ)⟩
            clear HOF HS3 HBZ cB dB tB s0 s1 s2
            go_wp2
            go_roundw
            case rel => exact ⟨r + 1, by omega, by omega, by go_num, HAZ⟩
            case measure => simp [intOf]; omega
        · rename World => wz
          obtain ⟨bx2, nb2, F2, LN2, XS2, hSt3⟩ := unhide HR
          obtain ⟨cB, dB, tB, _⟩ := hSt3.cells (p := 0) (by omega)
          have HOF : Hid (Calls Try.prog 10 #[.pointer (some ⟨bx2 0, 0, none⟩), .agg #[.map (some (nb2 0)), .int .i64 (tot (XS2 0))], .int .i64 k, .agg #[.int .i64 0, .int .i64 0, .string ⟨#[]⟩]] wz fun e w' => e = .returned (.bool true) ∧ Below w.heap.size w w') :=
            (often_any ⟨hSt3.sk 0 (by omega), (hSt3.mp 0 (by omega)).1, (hSt3.mp 0 (by omega)).2⟩ (hSt3.cl 0 (by omega)) hk1 hk ⟨0, 0, ⟨#[]⟩⟩).mono fun e w' h => ⟨h.1, below_step hSt3.bel h.2⟩
          obtain ⟨pB, hpB⟩ : ∃ p, bx2 0 = p := ⟨_, rfl⟩
          obtain ⟨nB, hnB⟩ : ∃ n, nb2 0 = n := ⟨_, rfl⟩
          obtain ⟨TB, hTB⟩ : ∃ T, tot (XS2 0) = T := ⟨_, rfl⟩
          rw [hpB, hnB, hTB] at HOF
          rw [hpB] at cB
          rw [hnB] at dB
          rw [hTB] at tB
          simp only [Nat.zero_mul, Nat.zero_add] at cB dB tB
          clear hSt3 hpB hnB hTB HR
          by_cases hl1 : r < ss.length
          · have hl2 : ¬ (r : Int) < 2000 := by omega
            have i1 : (r : Int) < (ss.length : Int) := by omega
            clear hlt
            go_wp2_with (go_at_call 10; refine (unhide HOF).mono ?_; rintro e w' ⟨rfl, hb'⟩)
            go_ret
            exact ⟨rfl, hb'⟩
          · have i1 : ¬ (r : Int) < (ss.length : Int) := by omega
            clear hlt
            go_wp2_with (go_at_call 10; refine (unhide HOF).mono ?_; rintro e w' ⟨rfl, hb'⟩)
            go_ret
            exact ⟨rfl, hb'⟩
end Go.Proofs.Ytgmfbjehdcdioaa

import Derived.Test.YtmagpdblacgneaaGreatSpA
import Derived.Test.YtmagpdblacgneaaGreatFoB
set_option linter.unusedSimpArgs false
set_option linter.unusedVariables false
set_option maxRecDepth 100000
namespace Go.Proofs.YtmagpdblacgneaaGreat
open Go.RowKit Go.Sort

set_option maxHeartbeats 4000000 in
theorem spoiltE {w : World} {base n : Nat} {S : Value} {ys : List Value} (ho : w.ownsRow base 26 6 S n ys) (hl : n ≤ 2097152) (q : Nd) : Calls Tryz.prog 17 #[S, .agg #[.int .i64 q.1.op, .int .i64 q.1.n, .int .i64 q.1.v.k, .int .i64 q.1.v.n, .string q.1.v.s, .slice q.2.1 q.1.args.length q.2.2]] w fun e w' => e = .returned (.tuple #[]) ∧ w.grownBy w' S.ownBlock := by
  obtain ⟨W, hW⟩ : ∃ W, w.alloc (.cells #[.int .i64 q.1.op, .int .i64 q.1.n, .int .i64 q.1.v.k, .int .i64 q.1.v.n, .string q.1.v.s, .slice q.2.1 q.1.args.length q.2.2] 26) = W := ⟨_, rfl⟩
  have hBW : Below w.heap.size w W := by rw [← hW]; exact below_alloc (Below.refl _ _) _
  have HS0 : Hid (SpS 26 6 W W S n) := SpS.start (own_later ho hBW)
  have HBW := hide hBW
  have HBX : Hid (∀ wr, SpS 26 6 W wr S n → wr.cell? ⟨w.heap.size, 0, none⟩ = some (.int .i64 q.1.op) ∧ wr.cell? ⟨w.heap.size, 1, none⟩ = some (.int .i64 q.1.n) ∧ wr.cell? ⟨w.heap.size, 2, none⟩ = some (.int .i64 q.1.v.k) ∧ wr.cell? ⟨w.heap.size, 3, none⟩ = some (.int .i64 q.1.v.n) ∧ wr.cell? ⟨w.heap.size, 4, none⟩ = some (.string q.1.v.s) ∧ wr.cell? ⟨w.heap.size, 5, none⟩ = some (.slice q.2.1 q.1.args.length q.2.2)) := fun wr h => by
    have hk := h.block (q := w.heap.size) (by rw [← hW]; show w.heap.size < (w.heap.push _).size; rw [Array.size_push]; omega) fun e => by have := (World.ownsRow.lt ho _ e).2; omega
    have hc : ∀ j, wr.cell? ⟨w.heap.size, j, none⟩ = W.cell? ⟨w.heap.size, j, none⟩ := fun j => by unfold World.cell?; rw [hk]
    rw [hc, hc, hc, hc, hc, hc, ← hW]
    exact ⟨by simp [go_sem], by simp [go_sem], by simp [go_sem], by simp [go_sem], by simp [go_sem], by simp [go_sem]⟩
  have HGB : Hid (∀ g, S.ownBlock = some g → g ≠ w.heap.size) := fun g hg e => by have := (World.ownsRow.lt ho _ hg).2; omega
  obtain ⟨aS, cS, hS⟩ := own_slice ho
  subst hS
  clear ho hBW
  obtain ⟨bx, hbx⟩ : ∃ bx, w.heap.size = bx := ⟨_, rfl⟩
  rw [hbx] at HBX HGB
  have HAP := hide app_okE
  have HC1 : Hid (∀ (W : World) j u, (sh q)[j]? = some u → (W.alloc (.cells #[.int .i64 q.1.op, .int .i64 q.1.n, .int .i64 q.1.v.k, .int .i64 q.1.v.n, .string q.1.v.s, .slice q.2.1 q.1.args.length q.2.2] 26)).cell? ((⟨W.heap.size, 0, none⟩ : Addr).add j) = some u) := fun W j u hu => by
    rw [Addr.add_lit]
    match j, hu with
    | 0, hu => simp [sh] at hu; subst hu; simp [go_sem]
    | 1, hu => simp [sh] at hu; subst hu; simp [go_sem]
    | 2, hu => simp [sh] at hu; subst hu; simp [go_sem]
    | 3, hu => simp [sh] at hu; subst hu; simp [go_sem]
    | 4, hu => simp [sh] at hu; subst hu; simp [go_sem]
    | 5, hu => simp [sh] at hu; subst hu; simp [go_sem]
    | j + 6, hu => simp [sh] at hu
  have HO1 : Hid (∀ u ∈ sh q, u.oneCell' = true) := fun u hu => by simp [sh] at hu; rcases hu with rfl | rfl | rfl | rfl | rfl | rfl <;> rfl
  go_enter Tryz.func17, Tryz.ntmps17
  go_wp2_with fail
  go_loopw [11] (fun s11 wr => ∃ i : Nat, s11 = .int .i64 (i : Int) ∧ i ≤ n ∧ Hid (SpS 26 6 W wr (.slice aS n cS) n)) (fun s _ => n - (intOf s).toNat)
  case atStart => exact ⟨0, rfl, Nat.zero_le _, HS0⟩
  case round =>
    obtain ⟨i, rfl, hin, HS⟩ := hrel
    clear HS0
    by_cases hi : i < n
    · obtain ⟨g, cap, hg⟩ := (unhide HS).some (by omega)
      injection hg with hg _ hcap
      subst hg hcap
      obtain ⟨ec, ez⟩ := (unhide HS).facts
      obtain ⟨y0, e0⟩ := ec (i * 6) (by omega)
      have z0 := ez (i * 6)
      obtain ⟨y1, e1⟩ := ec (i * 6 + 1) (by omega)
      have z1 := ez (i * 6 + 1)
      obtain ⟨y2, e2⟩ := ec (i * 6 + 2) (by omega)
      have z2 := ez (i * 6 + 2)
      obtain ⟨y3, e3⟩ := ec (i * 6 + 3) (by omega)
      have z3 := ez (i * 6 + 3)
      obtain ⟨y4, e4⟩ := ec (i * 6 + 4) (by omega)
      have z4 := ez (i * 6 + 4)
      obtain ⟨y5, e5⟩ := ec (i * 6 + 5) (by omega)
      have z5 := ez (i * 6 + 5)
      have hgb := unhide HGB g rfl
      obtain ⟨b0, b1, b2, b3, b4, b5⟩ := unhide HBX wr (unhide HS)
      have HS2 := hide (((((((unhide HS).set (j := i * 6) (.int .i64 q.1.op)).set (j := i * 6 + 1) (.int .i64 q.1.n)).set (j := i * 6 + 2) (.int .i64 q.1.v.k)).set (j := i * 6 + 3) (.int .i64 q.1.v.n)).set (j := i * 6 + 4) (.string q.1.v.s)).set (j := i * 6 + 5) (.slice q.2.1 q.1.args.length q.2.2))
      have i1 : (i : Int) < (n : Int) := by omega
      clear ez ec
      go_wp2
      go_roundw
      case rel => exact ⟨i + 1, by go_num, by omega, HS2⟩
      case measure => simp [intOf]; omega
    · obtain rfl : i = n := by omega
      have HT0 := hide (SpT.self (unhide HS))
      go_wp2_with fail
      go_loopw [5, 6] (fun s5 s6 wq => ∃ (j : Nat) (T : Value), s5 = T ∧ s6 = .int .i64 (j : Int) ∧ j ≤ 20 ∧ Hid (SpS 26 6 W wq (.slice aS i cS) i) ∧ Hid (SpT 26 6 W wq (.slice aS i cS) i T (i + j))) (fun _ s _ => 20 - (intOf s).toNat)
      case atStart => exact ⟨0, _, rfl, rfl, Nat.zero_le _, HS, HT0⟩
      case round =>
        obtain ⟨j, T, rfl, rfl, hj, HQ, HT⟩ := hrel
        clear HS HT0
        obtain ⟨aT, cT, hT⟩ := (unhide HT).slice
        subst hT
        by_cases hj2 : j < 20
        · obtain ⟨b0, b1, b2, b3, b4, b5⟩ := unhide HBX wr (unhide HQ)
          have hb : Below wr.heap.size wr (wr.alloc (.cells #[.int .i64 q.1.op, .int .i64 q.1.n, .int .i64 q.1.v.k, .int .i64 q.1.v.n, .string q.1.v.s, .slice q.2.1 q.1.args.length q.2.2] 26)) := below_alloc (Below.refl _ _) _
          obtain ⟨T', w', hrun, hQ', hT', _⟩ := SpT.app (c := 1) (unhide HAP) ((unhide HQ).later hb) ((unhide HT).later hb) 24 ⟨wr.heap.size, 0, none⟩ (m := 1) (ys := sh q) rfl (unhide HC1 wr) (unhide HO1) (by omega) (by omega)
          have HQ' := hide hQ'
          have HT' := hide hT'
          have i1 : (j : Int) < 20 := by omega
          clear hQ' hT' hb
          go_wp2_with (at_builtin; refine wpList_app_run rfl (.tmp 24) (.tmp 26) 24 rfl _ _ rfl rfl hrun ?_)
          go_roundw
          case rel => exact ⟨j + 1, T', rfl, by go_num, by omega, HQ', HT'⟩
          case measure => simp [intOf]; omega
        · have i1 : ¬ (j : Int) < 20 := by omega
          clear HT
          go_wp2_with fail
          go_loopw [7, 8] (fun s7 s8 wq => ∃ (j : Nat) (M : Value), M = s7 ∧ s8 = .int .i64 (j : Int) ∧ j ≤ 64 ∧ Hid (SpS 26 6 W wq (.slice aS i cS) i) ∧ Hid (Mm 26 6 W wq M j)) (fun _ s _ => 64 - (intOf s).toNat)
          case atStart => exact ⟨0, _, rfl, rfl, Nat.zero_le _, HQ, Mm.nil⟩
          case round =>
            obtain ⟨qq, M, rfl, rfl, hq, HR, HM⟩ := hrel
            clear HQ i1
            obtain ⟨aM, cM, hMs⟩ := (unhide HM).slice
            subst hMs
            by_cases hq2 : qq < 64
            · obtain ⟨b0, b1, b2, b3, b4, b5⟩ := unhide HBX wr (unhide HR)
              have hb : Below wr.heap.size wr (wr.alloc (.cells #[.int .i64 q.1.op, .int .i64 q.1.n, .int .i64 q.1.v.k, .int .i64 q.1.v.n, .string q.1.v.s, .slice q.2.1 q.1.args.length q.2.2] 26)) := below_alloc (Below.refl _ _) _
              obtain ⟨M', w', hrun, hR', hM'⟩ := Mm.step (c := 1) (unhide HAP) (unhide HR) (unhide HM) hb 24 ⟨wr.heap.size, 0, none⟩ (ys := sh q) rfl (unhide HC1 wr) (unhide HO1) (by omega)
              have HR' := hide hR'
              have HM' := hide hM'
              have i1 : (qq : Int) < 64 := by omega
              clear hR' hM' hb
              go_wp2_with (at_builtin; refine wpList_app_run rfl (.tmp 32) (.tmp 34) 24 rfl _ _ rfl rfl hrun ?_)
              go_roundw
              case rel => exact ⟨qq + 1, M', rfl, by go_num, by omega, HR', HM'⟩
              case measure => simp [intOf]; omega
            · obtain rfl : qq = 64 := by omega
              obtain ⟨T', w', hrun, hF⟩ := Mm.last (M := .slice aM 64 cM) (unhide HAP) (unhide HR) (unhide HM) (by omega) 24 (by omega)
              have HF := hide hF
              clear hF
              go_wp2_with (at_builtin; refine wpList_app_run rfl (.tmp 36) (.tmp 37) 24 rfl _ _ rfl rfl hrun ?_)
              go_end0
              exact ⟨rfl, grownBy_after (grown_none (unhide HBW) _) (unhide HF) fun g hg => .inl hg⟩
end Go.Proofs.YtmagpdblacgneaaGreat
set_option linter.unusedSimpArgs false
set_option linter.unusedVariables false
set_option maxRecDepth 100000
namespace Go.Proofs.YtmagpdblacgneaaGreat
open Go.RowKit Go.Sort

structure Ky (F : Nat → Prop) (w w' : World) : Prop where
  os : w'.os = w.os
  tape : w'.tape = w.tape
  output : w'.output = w.output
  size : w.heap.size ≤ w'.heap.size
  block : ∀ q, q < w.heap.size → ¬ F q → w'.heap[q]? = w.heap[q]?
theorem Ky.of_below {F : Nat → Prop} {w w' : World} (h : Below w.heap.size w w') : Ky F w w' := ⟨h.os, h.tape, h.output, h.size, fun k hk _ => h.block k hk⟩
theorem Ky.of_grown {F : Nat → Prop} {w w' : World} {r : Option Nat} (h : w.grownBy w' r) (hr : ∀ g, r = some g → F g) : Ky F w w' := ⟨h.os, h.tape, h.output, h.size, fun k hk hn => h.block k hk fun e => hn (hr k e.symm)⟩
theorem Ky.trans {F : Nat → Prop} {w w1 w2 : World} (h : Ky F w w1) (h2 : Ky F w1 w2) : Ky F w w2 := ⟨h2.os.trans h.os, h2.tape.trans h.tape, h2.output.trans h.output, Nat.le_trans h.size h2.size, fun q hq hn => (h2.block q (Nat.lt_of_lt_of_le hq h.size) hn).trans (h.block q hq hn)⟩
theorem Ky.below {F : Nat → Prop} {w w' : World} (h : Ky F w w') {n : Nat} (hn : ∀ k, F k → n ≤ k) (hs : n ≤ w.heap.size) : Below n w w' := ⟨h.os, h.tape, h.output, h.size, fun k hk => h.block k (by omega) (fun f => by have := hn k f; omega)⟩
theorem Ky.less {F G : Nat → Prop} {w w' : World} (h : Ky F w w') (hF : ∀ q, q < w.heap.size → F q → G q) : Ky G w w' := ⟨h.os, h.tape, h.output, h.size, fun q hq hn => h.block q hq fun f => hn (hF q hq f)⟩
theorem mark_any (w : World) : Calls Tryz.prog 18 #[] w fun e w' => e = .returned (.agg #[.int .i64 2, .int .i64 0, .string ⟨#[115, 112, 111, 105, 108, 116]⟩]) ∧ Below w.heap.size w w' := by
  go_enter Tryz.func18, Tryz.ntmps18
  go_wp2
  refine bodyPost_ret (v := .agg #[.int .i64 2, .int .i64 0, .string ⟨#[115, 112, 111, 105, 108, 116]⟩]) (by simp [results, Tryz.results18, go_sem]) rfl ⟨rfl, below_alloc (Below.refl _ _) _⟩

theorem Ky.wide {F G : Nat → Prop} {w w' : World} (h : Ky F w w') (hF : ∀ q, F q → G q) : Ky G w w' := h.less fun q _ hq => hF q hq
/-- The mark of an expression. -/
def mkN : Nd := (.mk 2 0 ⟨2, 0, ⟨#[115, 112, 111, 105, 108, 116]⟩⟩ [], none, 0)
set_option maxHeartbeats 2000000 in
/-- spoiltExprs: a list's members are spoilt, then the list. -/
theorem spx_row {w : World} {g c : Nat} {L : List Nd} {K : Nat → Nat → Prop} (h : OwnE w g (.slice (some ⟨g, 0, none⟩) L.length c) L) (hl : L.length ≤ 2097152) (hc : ∀ (i : Nat) (q : Nd), L[i]? = some q → Ow w q.1.args q.2.1 q.2.2 (K i)) (hK : ∀ (i : Nat) (q : Nd) b, L[i]? = some q → K i b → b ≠ g ∧ b < w.heap.size) (hd : ∀ (i j : Nat) b, i ≠ j → K i b → K j b → False)
    (IH : ∀ (i : Nat) (q : Nd), L[i]? = some q → ∀ W, Ow W q.1.args q.2.1 q.2.2 (K i) → (∀ b, K i b → b < W.heap.size) → Calls Tryz.prog 16 #[.slice q.2.1 q.1.args.length q.2.2] W fun r w' => r = .returned (.tuple #[]) ∧ Ky (K i) W w') :
    Calls Tryz.prog 16 #[.slice (some ⟨g, 0, none⟩) L.length c] w fun r w' => r = .returned (.tuple #[]) ∧ Ky (fun b => b = g ∨ ∃ i q, L[i]? = some q ∧ K i b) w w' := by
  have HC := hide hc
  have HK := hide hK
  have HD := hide hd
  have HIH := hide IH
  have HO := hide h
  clear hc hK hd IH h
  go_enter Tryz.func16, Tryz.ntmps16
  go_wp2_with fail
  go_loopw [6] (fun s wr => ∃ k : Nat, s = .int .i64 (k : Int) ∧ k ≤ L.length ∧ Hid (Ky (fun b => ∃ i q, i < k ∧ L[i]? = some q ∧ K i b) w wr)) (fun s _ => L.length - (intOf s).toNat)
  case atStart => exact ⟨0, rfl, Nat.zero_le _, Ky.of_below (Below.refl _ _)⟩
  case round =>
    obtain ⟨k, rfl, hk, HR⟩ := hrel
    have hown : OwnE wr g (.slice (some ⟨g, 0, none⟩) L.length c) L := own_keepE (unhide HO) fun b hb => by
      simp only [Value.ownBlock, Option.some.injEq] at hb
      subst hb
      have hlt : g < w.heap.size := (World.ownsRow.lt (unhide HO) g rfl).2
      exact (unhide HR).block g hlt fun ⟨i, q, _, hq, hb⟩ => (unhide HK i q g hq hb).1 rfl
    by_cases hi : k < L.length
    · obtain ⟨q, hq⟩ : ∃ q, L[k]? = some q := ⟨_, List.getElem?_eq_getElem hi⟩
      obtain ⟨⟨d0, d1, d2, d3, d4, d5⟩, _⟩ := hown.facts hq
      have hba := below_alloc (Below.refl _ wr) (.cells (sh q).toArray 26)
      have HB : Hid (Below wr.heap.size wr (wr.alloc (.cells (sh q).toArray 26))) := hba
      have HIK := hide (unhide HIH k q hq (wr.alloc (.cells (sh q).toArray 26)) (((unhide HC k q hq).keep fun b hb => (unhide HR).block b (unhide HK k q b hq hb).2 fun ⟨i, q', hik, _, hb'⟩ => unhide HD i k b (by omega) hb' hb).keep fun b hb => hba.block b (Nat.lt_of_lt_of_le (unhide HK k q b hq hb).2 (unhide HR).size)) (fun b hb => Nat.lt_of_lt_of_le (unhide HK k q b hq hb).2 (Nat.le_trans (unhide HR).size hba.size)))
      have HQ := hide hq
      have i1 : (k : Int) < (L.length : Int) := by omega
      unfold sh at HB HIK
      clear hba hown hq
      obtain ⟨qe, qa, qc⟩ := q
      simp only at d0 d1 d2 d3 d4 d5 HB HIK
      go_wp2_with (go_at_call 16; refine (unhide HIK).mono ?_; rintro r w2 ⟨rfl, hk2⟩; have HR2 := hide (((unhide HR).wide (G := fun b => ∃ i q, i < k + 1 ∧ L[i]? = some q ∧ K i b) fun b ⟨i, q, h1, h2, h3⟩ => ⟨i, q, by omega, h2, h3⟩).trans ((Ky.of_below (unhide HB)).trans (hk2.wide fun b hb => ⟨k, _, by omega, unhide HQ, hb⟩))); clear hk2)
      go_roundw
      case rel => exact ⟨k + 1, by go_num, by omega, HR2⟩
      case measure => simp [intOf]; omega
    · have i1 : ¬ (k : Int) < (L.length : Int) := by omega
      have HM := hide mark_any
      have HOW := hide hown
      clear hown HIH
      have K17 : Hid (∀ W, OwnE W g (.slice (some ⟨g, 0, none⟩) L.length c) L → Calls Tryz.prog 17 #[.slice (some ⟨g, 0, none⟩) L.length c, .agg #[.int .i64 2, .int .i64 0, .int .i64 2, .int .i64 0, .string ⟨#[115, 112, 111, 105, 108, 116]⟩, .slice none 0 0]] W fun e w' => e = .returned (.tuple #[]) ∧ W.grownBy w' (some g)) := fun W ho => spoiltE ho hl mkN
      go_wp2_with (first
        | (go_at_call 18; refine (unhide HM _).mono ?_; rintro r w2 ⟨rfl, hb2⟩; have HOW2 := hide ((unhide HOW).later hb2); have HB2 := hide hb2; clear hb2)
        | (go_at_call 17; refine (unhide K17 _ (unhide HOW2)).mono ?_; rintro r w3 ⟨rfl, hg3⟩; have HG3 := hide hg3; clear hg3))
      go_end0
      exact ⟨rfl, (((unhide HR).wide fun b ⟨i, q, _, h2, h3⟩ => .inr ⟨i, q, h2, h3⟩).trans (Ky.of_below (unhide HB2))).trans (Ky.of_grown (unhide HG3) fun b hb => .inl (by injection hb with hb; exact hb.symm))⟩
set_option maxHeartbeats 2000000 in
theorem spx_nil (w : World) : Calls Tryz.prog 16 #[.slice none 0 0] w fun r w' => r = .returned (.tuple #[]) ∧ Below w.heap.size w w' := by
  have HM := hide mark_any
  have K17 : Hid (∀ W, Calls Tryz.prog 17 #[.slice none 0 0, .agg #[.int .i64 2, .int .i64 0, .int .i64 2, .int .i64 0, .string ⟨#[115, 112, 111, 105, 108, 116]⟩, .slice none 0 0]] W fun e w' => e = .returned (.tuple #[]) ∧ W.grownBy w' none) := fun W => spoiltE (base := 0) (own_none (w := W) (base := 0)) (Nat.zero_le _) mkN
  go_enter Tryz.func16, Tryz.ntmps16
  go_wp2_with fail
  go_loopw [6] (fun s wr => s = .int .i64 0 ∧ wr = w) (fun _ _ => 0)
  case atStart => exact ⟨rfl, rfl⟩
  case round =>
    obtain ⟨rfl, rfl⟩ := hrel
    go_wp2_with (first
      | (go_at_call 18; refine (unhide HM _).mono ?_; rintro r w2 ⟨rfl, hb2⟩; have HB2 := hide hb2; clear hb2)
      | (go_at_call 17; refine (unhide K17 _).mono ?_; rintro r w3 ⟨rfl, hg3⟩; have HG3 := hide hg3; clear hg3))
    go_end0
    refine ⟨rfl, below_step (unhide HB2) ⟨(unhide HG3).os, (unhide HG3).tape, (unhide HG3).output, (unhide HG3).size, fun q hq => (unhide HG3).block q hq fun e => by cases e⟩⟩
theorem sizes_len : ∀ (l : List Ex), l.length ≤ Ex.sizes l
  | [] => Nat.zero_le _
  | e :: l => by have := sizes_len l; rw [Ex.sizes, List.length_cons, Ex.size_mk]; omega
/-- One list's step of spoiltExprs. -/
theorem spx_step {l : List Ex} {a : Option Addr} {c : Nat} {F : Nat → Prop} {w : World} (hl : Ex.sizes l ≤ 2097152) (h : Ow w l a c F) (hF : ∀ b, F b → b < w.heap.size)
    (IH : ∀ (l' : List Ex), Ex.sizes l' < Ex.sizes l → ∀ (a : Option Addr) (c : Nat) (F : Nat → Prop) (w : World), Ow w l' a c F → (∀ b, F b → b < w.heap.size) → Calls Tryz.prog 16 #[.slice a l'.length c] w fun r w' => r = .returned (.tuple #[]) ∧ Ky F w w') : Calls Tryz.prog 16 #[.slice a l.length c] w fun r w' => r = .returned (.tuple #[]) ∧ Ky F w w' := by
  cases h with
  | nil F => exact (spx_nil w).mono fun r w' ⟨h1, h2⟩ => ⟨h1, Ky.of_below h2⟩
  | @row g c L K F h hc hK hd hg =>
    have hll := sizes_len (L.map (·.1))
    rw [List.length_map] at hll ⊢
    have hsz : ∀ (i : Nat) (q : Nd), L[i]? = some q → Ex.sizes q.1.args < Ex.sizes (L.map (·.1)) := fun i q hq => by
      have := Ex.size_mem (l := L.map (·.1)) (e := q.1) (List.mem_map.2 ⟨q, List.mem_of_getElem? hq, rfl⟩)
      rw [Ex.size_mk] at this
      omega
    exact (spx_row h (by omega) hc (fun i q b hq hb => ⟨(hK i q b hq hb).1, hF b (hK i q b hq hb).2⟩) hd fun i q hq W hW hB =>
      IH q.1.args (hsz i q hq) q.2.1 q.2.2 (K i) W hW hB).mono fun r w' ⟨h1, h2⟩ => ⟨h1, h2.wide fun b hb => by
        rcases hb with rfl | ⟨i, q, hq, hb⟩
        · exact hg
        · exact (hK i q b hq hb).2⟩
/-- spoiltExprs (16). -/
theorem spx_all : ∀ (k : Nat) (l : List Ex), Ex.sizes l ≤ k → Ex.sizes l ≤ 2097152 → ∀ (a : Option Addr) (c : Nat) (F : Nat → Prop) (w : World), Ow w l a c F → (∀ b, F b → b < w.heap.size) → Calls Tryz.prog 16 #[.slice a l.length c] w fun r w' => r = .returned (.tuple #[]) ∧ Ky F w w'
  | 0, l, hk, hl, a, c, F, w, h, hF => spx_step hl h hF fun l' hl' => by omega
  | k + 1, l, hk, hl, a, c, F, w, h, hF => spx_step hl h hF fun l' hl' => spx_all k l' (by omega) (by omega)
theorem spx_any {lo : Nat} {l : List Ex} {a : Option Addr} {c : Nat} {w : World} (hl : Ex.sizes l ≤ 2097152) (h : ExK lo w a c l) : Calls Tryz.prog 16 #[.slice a l.length c] w fun r w' => r = .returned (.tuple #[]) ∧ Ky (fun b => lo ≤ b) w w' := by
  obtain ⟨F, hO, hF⟩ := h
  exact (spx_all _ l (Nat.le_refl _) hl a c F w hO fun b hb => (hF b hb).2).mono fun r w' ⟨h1, h2⟩ => ⟨h1, h2.wide fun b hb => (hF b hb).1⟩
end Go.Proofs.YtmagpdblacgneaaGreat
set_option linter.unusedSimpArgs false
set_option linter.unusedVariables false
set_option maxRecDepth 100000
namespace Go.Proofs.YtmagpdblacgneaaGreat
open Go.RowKit Go.Sort

theorem wpOp_noR {P : Program} {ops : Array Oper} {Q : Exit → Act → World → Prop} {i : Nat} {o : Oper} {r : List Oper} {a : Act} {w : World} {K : Act → World → Prop} (hi : ops.toList.drop i = o :: r) (hw : Region.wanted o (yielded ops a.tmps) = false)
    (h : K (a.put o.dst undef) w) : wpOp P ops Q i K a w := by
  unfold wpOp
  rw [drop_at hi]
  simp only [hw, Bool.false_eq_true, if_false]
  exact h
mutual
/-- The document's way to measure: nodes and height are counted on, from the top. -/
def rmE : Ex → Int → Int → Int × Int × Bool
  | .mk op n v l, N, H => if decide (400 < N) || decide (40 < H) then (N + 1, H, false) else
    if (rmL l (N + 1) H H).2.2 then ((rmL l (N + 1) H H).1, (rmL l (N + 1) H H).2.1, soundE (.mk op n v l)) else ((rmL l (N + 1) H H).1, (rmL l (N + 1) H H).2.1, false)
def rmL : List Ex → Int → Int → Int → Int × Int × Bool
  | [], N, _, T => (N, T, true)
  | a :: l, N, H, T => if (rmE a N (H + 1)).2.2 then rmL l (rmE a N (H + 1)).1 H (max T (rmE a N (H + 1)).2.1) else ((rmE a N (H + 1)).1, max T (rmE a N (H + 1)).2.1, false)
end
theorem rmE_eq (e : Ex) (N H : Int) : rmE e N H = if decide (400 < N) || decide (40 < H) then (N + 1, H, false) else
    if (rmL e.args (N + 1) H H).2.2 then ((rmL e.args (N + 1) H H).1, (rmL e.args (N + 1) H H).2.1, soundE e) else ((rmL e.args (N + 1) H H).1, (rmL e.args (N + 1) H H).2.1, false) := by
  cases e; rw [rmE]; rfl
mutual
theorem rm_yes : ∀ (e : Ex) (N H : Int), (rmE e N H).2.2 = true → goodE e ∧ (rmE e N H).1 = N + e.size ∧ (rmE e N H).2.1 = H + e.high - 1 ∧ (rmE e N H).1 ≤ 401 ∧ N ≤ 400
  | .mk op n v l, N, H, h => by
    rw [rmE] at h ⊢
    by_cases h1 : (decide (400 < N) || decide (40 < H)) = true
    · rw [if_pos h1] at h; cases h
    · rw [if_neg h1] at h ⊢
      simp only [Bool.or_eq_true, decide_eq_true_eq, not_or] at h1
      by_cases h2 : (rmL l (N + 1) H H).2.2 = true
      · rw [if_pos h2] at h ⊢
        simp only at h ⊢
        obtain ⟨g1, g2, g3, g4⟩ := rmL_yes l (N + 1) H H (Int.le_refl _) h2
        rw [goodE, Ex.size, Ex.high]
        exact ⟨⟨h, g1⟩, by omega, by omega, g4 (by omega), by omega⟩
      · rw [if_neg h2] at h; cases h
theorem rmL_yes : ∀ (l : List Ex) (N H T : Int), H ≤ T → (rmL l N H T).2.2 = true → goodL l ∧ (rmL l N H T).1 = N + Ex.sizes l ∧ (rmL l N H T).2.1 = max T (H + Ex.highs l) ∧ (N ≤ 401 → (rmL l N H T).1 ≤ 401)
  | [], N, H, T, hT, h => by
    rw [rmL, goodL, Ex.sizes, Ex.highs]
    exact ⟨trivial, by omega, by simp only; omega, fun h => h⟩
  | a :: l, N, H, T, hT, h => by
    rw [rmL] at h ⊢
    by_cases h1 : (rmE a N (H + 1)).2.2 = true
    · rw [if_pos h1] at h ⊢
      obtain ⟨g1, g2, g3, g4, g5⟩ := rm_yes a N (H + 1) h1
      obtain ⟨k1, k2, k3, k4⟩ := rmL_yes l _ H _ (by omega) h
      rw [goodL, Ex.sizes, Ex.highs]
      exact ⟨⟨g1, k1⟩, by omega, by omega, fun _ => k4 g4⟩
    · rw [if_neg h1] at h; cases h
end
mutual
theorem rm_good : ∀ (e : Ex) (N H : Int), goodE e → N + e.size ≤ 401 → H + e.high ≤ 41 → rmE e N H = (N + e.size, H + e.high - 1, true)
  | .mk op n v l, N, H, hg, h1, h2 => by
    rw [Ex.size] at h1
    rw [Ex.high] at h2
    obtain ⟨hs, hl⟩ := good_open hg
    have hs : soundE (.mk op n v l) = true := hs
    have hr := rmL_good l (N + 1) H H hl (by omega) (by omega) (Int.le_refl _)
    rw [rmE, if_neg (by simp only [Bool.or_eq_true, decide_eq_true_eq, not_or]; omega), hr]
    simp only [if_true]
    rw [hs, Ex.size, Ex.high]
    simp only [Prod.mk.injEq, and_true]
    constructor <;> omega
theorem rmL_good : ∀ (l : List Ex) (N H T : Int), goodL l → N + Ex.sizes l ≤ 401 → H + Ex.highs l ≤ 40 → H ≤ T → rmL l N H T = (N + Ex.sizes l, max T (H + Ex.highs l), true)
  | [], N, H, T, _, _, _, hT => by
    rw [rmL, Ex.sizes, Ex.highs]
    simp only [Prod.mk.injEq, and_true]
    constructor <;> omega
  | a :: l, N, H, T, hg, h1, h2, hT => by
    rw [goodL] at hg
    rw [Ex.sizes] at h1
    rw [Ex.highs] at h2
    rw [rmL, rm_good a N (H + 1) hg.1 (by omega) (by omega)]
    simp only [if_true]
    rw [rmL_good l _ H _ hg.2 (by omega) (by omega) (by omega), Ex.sizes, Ex.highs]
    simp only [Prod.mk.injEq, and_true]
    constructor <;> omega
end
mutual
theorem rm_range : ∀ (e : Ex) (N H : Int), 0 ≤ N → N ≤ 401 → 1 ≤ H → H ≤ 41 → 0 ≤ (rmE e N H).1 ∧ (rmE e N H).1 ≤ 402 ∧ 1 ≤ (rmE e N H).2.1 ∧ (rmE e N H).2.1 ≤ 41
  | .mk op n v l, N, H, h1, h2, h3, h4 => by
    rw [rmE]
    by_cases hc : (decide (400 < N) || decide (40 < H)) = true
    · rw [if_pos hc]; simp only; omega
    · rw [if_neg hc]
      simp only [Bool.or_eq_true, decide_eq_true_eq, not_or] at hc
      have := rmL_range l (N + 1) H H (by omega) (by omega) h3 (by omega) (by omega) (by omega)
      split <;> simp only <;> omega
theorem rmL_range : ∀ (l : List Ex) (N H T : Int), 0 ≤ N → N ≤ 401 → 1 ≤ H → H ≤ 40 → 1 ≤ T → T ≤ 41 → 0 ≤ (rmL l N H T).1 ∧ (rmL l N H T).1 ≤ 402 ∧ 1 ≤ (rmL l N H T).2.1 ∧ (rmL l N H T).2.1 ≤ 41
  | [], N, H, T, h1, h2, h3, h4, h5, h6 => by rw [rmL]; simp only; omega
  | a :: l, N, H, T, h1, h2, h3, h4, h5, h6 => by
    have hr := rm_range a N (H + 1) h1 h2 (by omega) (by omega)
    rw [rmL]
    split
    · rename_i hy
      have hy2 := (rm_yes a N (H + 1) hy).2.2.2.1
      exact rmL_range l _ H _ (by omega) (by omega) h3 h4 (by omega) (by omega)
    · simp only; omega
end
/-- What the document's Size answers is what the program's does. -/
theorem rm_size (e : Ex) : (if !(rmE e 0 1).2.2 || decide (400 < (rmE e 0 1).1) || decide (40 < (rmE e 0 1).2.1) then ((401 : Int), (41 : Int)) else ((rmE e 0 1).1, (rmE e 0 1).2.1)) = sizeB e := by
  cases hb : builtE e with
  | true =>
    have hg := built_good hb
    have h1 := built_bounds hb
    rw [rm_good e 0 1 hg (by omega) (by omega)]
    unfold sizeB
    rw [if_pos hb, if_neg (by simp; omega)]
    simp only [Prod.mk.injEq]
    constructor <;> omega
  | false =>
    unfold sizeB
    rw [hb]
    by_cases hc : (!(rmE e 0 1).2.2 || decide (400 < (rmE e 0 1).1) || decide (40 < (rmE e 0 1).2.1)) = true
    · rw [if_pos hc]; rfl
    · exfalso
      simp only [Bool.or_eq_true, decide_eq_true_eq, not_or, Bool.not_eq_true', Bool.not_eq_false] at hc
      obtain ⟨⟨c1, c2⟩, c3⟩ := hc
      obtain ⟨g1, g2, g3, _⟩ := rm_yes e 0 1 c1
      rw [built_of g1 (by omega) (by omega)] at hb
      cases hb
theorem size_built (e : Ex) : decide ((sizeB e).1 ≤ 400) = builtE e := by
  unfold sizeB
  cases hb : builtE e with
  | true =>
    have := (built_bounds hb).1
    simp only [if_true]
    simpa using (by omega : (e.size : Int) ≤ 400)
  | false => rfl
end Go.Proofs.YtmagpdblacgneaaGreat
set_option linter.unusedSimpArgs false
set_option linter.unusedVariables false
set_option maxRecDepth 100000
namespace Go.Proofs.YtmagpdblacgneaaGreat
open Go.RowKit Go.Sort

theorem cell_set_ne (w : World) (g b o o' : Nat) (u : Value) (h : (⟨g, o, none⟩ : Addr) ≠ ⟨b, o', none⟩) : (w.setCell ⟨b, o', none⟩ u).cell? ⟨g, o, none⟩ = w.cell? ⟨g, o, none⟩ := by
  by_cases hg : g = b
  · subst hg
    have ho : o ≠ o' := fun e => h (by rw [e])
    simp [go_sem, ho, Ne.symm ho]
  · exact World.cell?_of_block (Below.heap_setCell _ _ _ _ hg)
theorem frozen_set (w : World) (p q : Addr) (u : Value) : (w.setCell p u).frozen? q = w.frozen? q := by simp [go_sem]

theorem enter_with {P : Program} {code : Code} {Q : Exit → Act → World → Prop} {act : Act} {wa : World} (R : World → Prop) (h : R wa) (k : ∀ wx, Hid (R wx) → code.wp P Q act wx) : code.wp P Q act wa := k wa h
theorem six_put {b : Nat} {e : Ex} {a : Option Addr} {c : Nat} {w : World} (h : Six w b e a c) (g o : Nat) (u : Value) (hg : b ≠ g) : Six (w.setCell ⟨g, o, none⟩ u) b e a c := by
  obtain ⟨s0, s1, s2, s3, s4, s5⟩ := h
  have hne : ∀ o', (⟨b, o', none⟩ : Addr) ≠ ⟨g, o, none⟩ := fun o' h => by injection h with h; exact hg h
  exact ⟨by rw [cell_set_ne _ _ _ _ _ _ (hne _)]; exact s0, by rw [cell_set_ne _ _ _ _ _ _ (hne _)]; exact s1, by rw [cell_set_ne _ _ _ _ _ _ (hne _)]; exact s2, by rw [cell_set_ne _ _ _ _ _ _ (hne _)]; exact s3, by rw [cell_set_ne _ _ _ _ _ _ (hne _)]; exact s4, by rw [cell_set_ne _ _ _ _ _ _ (hne _)]; exact s5⟩
theorem box_put {b : Nat} {e : Ex} {a : Option Addr} {c : Nat} {w : World} (h : Box6 w b e a c) (g o : Nat) (u : Value) (hg : b ≠ g) : Box6 (w.setCell ⟨g, o, none⟩ u) b e a c := by
  obtain ⟨h1, h2⟩ := h
  refine ⟨six_put h1 g o u hg, ?_⟩
  simp only [frozen_set]
  exact h2
theorem cell_set_at {w : World} {b o : Nat} {u v : Value} (h : w.cell? ⟨b, o, none⟩ = some v) : (w.setCell ⟨b, o, none⟩ u).cell? ⟨b, o, none⟩ = some u := by
  simp [go_sem, h]
def NPost (e : Ex) (w : World) (r : Ending) (w' : World) : Prop := ∃ a2 c2, r = .returned ((copyE e).val a2 c2) ∧ ExK w.heap.size w' a2 c2 (copyE e).args ∧ Below w.heap.size w w'
end Go.Proofs.YtmagpdblacgneaaGreat

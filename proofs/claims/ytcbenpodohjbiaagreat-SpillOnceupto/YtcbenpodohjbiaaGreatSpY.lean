import Derived.Test.YtcbenpodohjbiaaGreatSpX
import Derived.Test.YtcbenpodohjbiaaGreatSpT
import Derived.Deep.CutBlock
set_option linter.unusedSimpArgs false
set_option linter.unusedVariables false
set_option maxRecDepth 100000
namespace Go.Proofs.YtcbenpodohjbiaaGreat
open Go.RowKit Go.Sort

/-- The cells of a merger. -/
structure Mx (w : World) (g y B : Nat) (vH : Value) : Prop where
  tg : Tg 117 w g
  fr : ∀ i, w.frozen? ⟨g, i, none⟩ = false
  c0 : w.cell? ⟨g, 0, none⟩ = some (.pointer (some ⟨y, 0, none⟩))
  c1 : w.cell? ⟨g, 1, none⟩ = some (.func (.func 32) #[] #[.pointer (some ⟨B, 0, none⟩)])
  c2 : w.cell? ⟨g, 2, none⟩ = some vH
theorem Mx.ky {G : Nat → Prop} {w w' : World} {g y B : Nat} {vH : Value} (h : Mx w g y B vH) (hk : Ky G w w') (hn : ¬ G g) : Mx w' g y B vH :=
  ⟨hk.tg h.tg hn, fun i => (hk.frozen h.tg.lt hn).trans (h.fr i), hk.cell h.c0 hn, hk.cell h.c1 hn, hk.cell h.c2 hn⟩
theorem Mx.later {w w' : World} {g y B : Nat} {vH : Value} (h : Mx w g y B vH) (hb : Below w.heap.size w w') : Mx w' g y B vH := h.ky (G := fun _ => False) (Ky.of_below hb) id
/-- Which of p and those of its two that were looked at is the least. -/
structure Lst3 (ks : List (Int × Bool)) (p c l : Nat) (L : List Hd) : Prop where
  fl : l = p ∨ ((l = 2 * p + 1 ∨ l = 2 * p + 2) ∧ l < c ∧ l < L.length)
  fp : ohd ks (hAt L l) (hAt L p) ≤ 0
  fc : ∀ d, (d = 2 * p + 1 ∨ d = 2 * p + 2) → d < c → d < L.length → ohd ks (hAt L l) (hAt L d) ≤ 0
theorem Lst3.start (ks : List (Int × Bool)) (p : Nat) (L : List Hd) : Lst3 ks p (2 * p + 1) p L := ⟨.inl rfl, by unfold ohd; rw [ordG_self]; omega, fun d h1 h2 => by omega⟩
theorem Lst3.yes {ks : List (Int × Bool)} {p c l : Nat} {L : List Hd} (h : Lst3 ks p c l L) (hc : c = 2 * p + 1 ∨ c = 2 * p + 2) (hn : c < L.length) (ho : ohd ks (hAt L c) (hAt L l) < 0) : Lst3 ks p (c + 1) c L :=
  ⟨.inr ⟨hc, by omega, hn⟩, ordG_le ks _ _ _ (Int.le_of_lt ho) h.fp, fun d h1 h2 h3 => by
    by_cases e : d = c
    · subst e; unfold ohd; rw [ordG_self]; omega
    · exact ordG_le ks _ _ _ (Int.le_of_lt ho) (h.fc d h1 (by omega) h3)⟩
theorem Lst3.no {ks : List (Int × Bool)} {p c l : Nat} {L : List Hd} (h : Lst3 ks p c l L) (ho : ¬ ohd ks (hAt L c) (hAt L l) < 0) : Lst3 ks p (c + 1) l L :=
  ⟨h.fl.imp id fun ⟨a, b, d⟩ => ⟨a, by omega, d⟩, h.fp, fun d h1 h2 h3 => by
    by_cases e : d = c
    · subst e
      have := ordG_anti ks (hAt L d).r (hAt L l).r
      unfold ohd at ho ⊢
      omega
    · exact h.fc d h1 (by omega) h3⟩
theorem idx2 (p : Nat) : (2 : Int) * (p : Int) = ((2 * p : Nat) : Int) := by omega

set_option maxHeartbeats 8000000 in
/-- settle (100). -/
theorem settle_any {w : World} {mg y B i : Nat} {vH : Value} {L : List Hd} {ks : List (Int × Bool)} (hM : Mx w mg y B vH) (hH : OwnH w vH L) (hO : OrdF w B ks) (hn : L.length ≤ 1048576) (hi : i ≤ 1048576) (hp : Hp ks (i + 1) L) :
    Calls Tryz.prog 100 #[.pointer (some ⟨mg, 0, none⟩), .int .i64 i] w fun e w' => e = .returned (.tuple #[]) ∧ ∃ L', L'.Perm L ∧ Hp ks i L' ∧ OwnH w' vH L' ∧ Ky (fun k => vH.ownBlock = some k) w w' := by
  obtain ⟨aH, cH, rfl⟩ : ∃ aH cH, vH = .slice aH L.length cH := by
    rcases hH.1.2 with ⟨rfl, h0⟩ | ⟨g, cap, cur, rfl, _⟩
    · exact ⟨none, 0, by rw [h0]⟩
    · exact ⟨_, _, rfl⟩
  obtain ⟨N, hN⟩ : ∃ N, L.length = N := ⟨_, rfl⟩
  have nm : ¬ (Value.slice aH N cH).ownBlock = some mg := fun e => by
    rw [← hN] at e
    exact (own_tg hH.1 e).ne hM.tg (by decide) rfl
  have H0 : Hid (L.Perm L ∧ L.length = N ∧ Hs ks i i L ∧ OwnH w (.slice aH N cH) L ∧ Ky (fun k => (Value.slice aH N cH).ownBlock = some k) w w) := ⟨List.Perm.refl _, hN, Hs.start hp, by rw [← hN]; exact hH, Ky.refl _ _⟩
  rw [hN] at hM hn
  rw [hN]
  have HM := hide hM
  have HO := hide hO
  clear hM hH hO hp hN
  go_enter Tryz.func100, Tryz.ntmps100
  go_wp2_with fail
  go_loopw [1] (fun s1 wr => ∃ (p : Nat) (L1 : List Hd), p ≤ 1048576 ∧ s1 = .int .i64 (p : Int) ∧ Hid (L1.Perm L ∧ L1.length = N ∧ Hs ks i p L1 ∧ OwnH wr (.slice aH N cH) L1 ∧ Ky (fun k => (Value.slice aH N cH).ownBlock = some k) w wr)) (fun s1 _ => 1048577 - (intOf s1).toNat)
  case atStart => exact ⟨i, L, hi, rfl, H0⟩
  case round =>
    obtain ⟨p, L1, hp, rfl, HI⟩ := hrel
    have hM1 := (unhide HM).ky (unhide HI).2.2.2.2 nm
    have HM1 := hide hM1
    have HO1 := hide ((unhide HO).ky (unhide HI).2.2.2.2)
    clear hM1
    rename World => wa
    go_wp2_with fail
    go_loopw [4, 5] (fun s4 s5 wr => ∃ l c : Nat, s4 = .int .i64 (l : Int) ∧ s5 = .int .i64 (c : Int) ∧ 2 * p + 1 ≤ c ∧ c ≤ 2 * p + 3 ∧ l ≤ 2 * p + 2 ∧ Hid (Lst3 ks p c l L1 ∧ Below wa.heap.size wa wr)) (fun _ s5 _ => 2 * p + 3 - (intOf s5).toNat)
    case atStart => exact ⟨p, 2 * p + 1, rfl, congrArg (Value.int .i64) (by omega), by omega, by omega, by omega, Lst3.start ks p L1, Below.refl _ _⟩
    case round =>
      obtain ⟨l, c, rfl, rfl, hc1, hc2, hlb, HL⟩ := hrel
      have hMr := (unhide HM1).later (unhide HL).2
      have m1 := hMr.c1
      have m2 := hMr.c2
      by_cases hin : c ≤ 2 * p + 2 ∧ c < N
      · obtain ⟨hin1, hin2⟩ := hin
        have j1 : (c : Int) ≤ 2 * (p : Int) + 2 := by omega
        have j2 : (c : Int) < (N : Int) := by omega
        have hlN : l < N := by
          rcases (unhide HL).1.fl with e | ⟨_, _, e⟩
          · have := (unhide HI).2.2.1.ge; omega
          · rw [(unhide HI).2.1] at e; exact e
        have hlen := (unhide HI).2.1
        have hOw := (unhide HI).2.2.2.1.later (unhide HL).2
        obtain ⟨g, ea⟩ : ∃ g, aH = some ⟨g, 0, none⟩ := by
          rcases hOw.1.2 with ⟨_, h0⟩ | ⟨g, cap, cur, e, _⟩
          · omega
          · injection e with e _ _
            exact ⟨g, e⟩
        subst ea
        obtain ⟨d1, _, _, _, ⟨a1, k1, e1, r1, n1⟩⟩ := hOw.at hin2
        obtain ⟨d2, _, _, _, ⟨a2, k2, e2, r2, n2⟩⟩ := hOw.at hlN
        have HC : Hid (∀ V : World, Below wr.heap.size wr V → Calls Tryz.prog 32 #[.slice a1 (hAt L1 c).r.length k1, .slice a2 (hAt L1 l).r.length k2, .pointer (some ⟨B, 0, none⟩)] V fun e w' => e = .returned (.int .i64 (ordG ks (hAt L1 c).r (hAt L1 l).r)) ∧ Below V.heap.size V w') := fun V hb => by
          have q := ((unhide HO1).ky (F := fun _ => False) (Ky.of_below (below_step (unhide HL).2 hb))).cmp (u := .slice a1 (hAt L1 c).r.length k1) (v := .slice a2 (hAt L1 l).r.length k2) ⟨a1, k1, rfl, r1.later hb, n1⟩ ⟨a2, k2, rfl, r2.later hb, n2⟩
          exact q.mono fun e w' h => ⟨h.1, h.2.1⟩
        rw [e1] at d1
        rw [e2] at d2
        have j3 : (l : Int) < (N : Int) := by omega
        obtain ⟨O, hO⟩ : ∃ O, ordG ks (hAt L1 c).r (hAt L1 l).r = O := ⟨_, rfl⟩
        rw [hO] at HC
        have HOO := hide hO
        generalize (hAt L1 c).r.length = lc at *
        generalize (hAt L1 l).r.length = ll at *
        have k0 := cell_regrown d1
        have k3 := cell_regrown d2
        have k4 := cell_regrown m1
        have k5 := cell_regrown m2
        clear hOw d1 d2 r1 r2 e1 e2 hO hMr
        go_upto_region 4 with fail
        refine wp_region_quiet_below (by kernel_rfl) (by kernel_rfl) ?_
        repeat (go_big_quiet_step (first
          | (go_at_call 32; exact Calls.regrown_of (unhide HC _ (below_regrown _ _ _)))))
        refine wpQuiet_nil ?_
        intro w' hw'
        have hB : Below wr.heap.size wr w' := by obtain ⟨p, rfl⟩ := hw'; exact below_regrown _ _ _
        clear hw' k0 k3 k4 k5
        by_cases ho : O < 0
        · go_wp2
          go_roundw
          case rel => exact ⟨c, c + 1, rfl, by go_num, by omega, by omega, by omega, (unhide HL).1.yes (by omega) (by rw [hlen]; exact hin2) (by unfold ohd; rw [unhide HOO]; exact ho), below_step (unhide HL).2 hB⟩
          case measure => simp [intOf]; omega
        · go_wp2
          go_roundw
          case rel => exact ⟨l, c + 1, rfl, by go_num, by omega, by omega, by omega, (unhide HL).1.no (by unfold ohd; rw [unhide HOO]; omega), below_step (unhide HL).2 hB⟩
          case measure => simp [intOf]; omega
      · have hlen := (unhide HI).2.1
        have hall : ∀ d, (d = 2 * p + 1 ∨ d = 2 * p + 2) → d < N → d < c := fun d h1 h2 => by
          rcases Nat.lt_or_ge d c with q | q
          · exact q
          · exact absurd ⟨by omega, by omega⟩ hin
        have HALL := hide hall
        have jx : ((c : Int) ≤ 2 * (p : Int) + 2) = False ∨ (((c : Int) ≤ 2 * (p : Int) + 2) = True ∧ ((c : Int) < (N : Int)) = False) := by
          by_cases e : c ≤ 2 * p + 2
          · right
            exact ⟨by simp; omega, by simp; omega⟩
          · left
            simp; omega
        have HJ := hide jx
        clear hall jx hin
        by_cases hlp : l = p
        · have jl : ((l : Int) == (p : Int)) = true := by simp; omega
          have fin : ∃ L', L'.Perm L ∧ Hp ks i L' ∧ OwnH wr (.slice aH N cH) L' ∧ Ky (fun k => (Value.slice aH N cH).ownBlock = some k) w wr := by
            refine ⟨L1, (unhide HI).1, (unhide HI).2.2.1.done fun d h1 h2 => ?_, (unhide HI).2.2.2.1.later (unhide HL).2, (unhide HI).2.2.2.2.trans (Ky.of_below (unhide HL).2) (Nw.refl _ _)⟩
            have := (unhide HL).1.fc d h1 (unhide HALL d h1 (by rw [← hlen]; exact h2)) h2
            rw [hlp] at this
            exact this
          have FIN := hide fin
          clear fin hlp
          rcases unhide HJ with jx | ⟨jx, jy⟩
          · go_wp2
            exact bodyPost_ret (v := .tuple #[]) (by simp [results, Tryz.results100, go_sem]) rfl ⟨rfl, unhide FIN⟩
          · go_wp2
            exact bodyPost_ret (v := .tuple #[]) (by simp [results, Tryz.results100, go_sem]) rfl ⟨rfl, unhide FIN⟩
        · have jl : ((l : Int) == (p : Int)) = false := by simp; omega
          obtain ⟨hl1, hl2, hl3⟩ : (l = 2 * p + 1 ∨ l = 2 * p + 2) ∧ l < c ∧ l < L1.length := by
            rcases (unhide HL).1.fl with e | e
            · exact absurd e hlp
            · exact e
          have hlN : l < N := by omega
          have hpN : p < N := by omega
          have hOw := (unhide HI).2.2.2.1.later (unhide HL).2
          obtain ⟨g, ea⟩ : ∃ g, aH = some ⟨g, 0, none⟩ := by
            rcases hOw.1.2 with ⟨_, h0⟩ | ⟨g, cap, cur, e, _⟩
            · omega
            · injection e with e _ _
              exact ⟨g, e⟩
          subst ea
          obtain ⟨d1, d2, f1, f2, hrl⟩ := hOw.at hlN
          obtain ⟨d3, d4, f3, f4, hrp⟩ := hOw.at hpN
          have HOW := hide hOw
          have j3 : (l : Int) < (N : Int) := by omega
          have j4 : (p : Int) < (N : Int) := by omega
          have ngm : ¬ g = mg := fun e => nm (by rw [← e]; rfl)
          have ngm2 : ¬ mg = g := fun e => ngm e.symm
          obtain ⟨xl, hxl⟩ : ∃ x, hAt L1 l = x := ⟨_, rfl⟩
          obtain ⟨xp, hxp⟩ : ∃ x, hAt L1 p = x := ⟨_, rfl⟩
          rw [hxl] at d1 d2 hrl
          rw [hxp] at d3 d4 hrp
          obtain ⟨ul, rl, il⟩ := xl
          obtain ⟨up, rp, ip⟩ := xp
          obtain ⟨a1, k1, e1, _, _⟩ := hrl
          obtain ⟨a2, k2, e2, _, _⟩ := hrp
          simp only at e1 e2 d1 d2 d3 d4
          subst e1 e2
          generalize rl.length = nl at *
          generalize rp.length = np at *
          have o1 : ¬ p * 2 = l * 2 := by omega
          have o2 : ¬ p * 2 = l * 2 + 1 := by omega
          have o3 : ¬ p * 2 + 1 = l * 2 := by omega
          have o4 : ¬ p * 2 + 1 = l * 2 + 1 := by omega
          have HXL := hide hxl
          have HXP := hide hxp
          clear hOw hxl hxp hMr m1 hlp
          have HIN := hide (And.intro hl1 hl3)
          have fin : ∀ W, W = ((((wr.setCell ⟨g, p * 2, none⟩ (.slice a1 nl k1)).setCell ⟨g, p * 2 + 1, none⟩ (.int .i64 (il : Nat))).setCell ⟨g, l * 2, none⟩ (.slice a2 np k2)).setCell ⟨g, l * 2 + 1, none⟩ (.int .i64 (ip : Nat))).drew → (hSwap L1 p l).Perm L ∧ (hSwap L1 p l).length = N ∧ Hs ks i l (hSwap L1 p l) ∧ OwnH W (.slice (some ⟨g, 0, none⟩) N cH) (hSwap L1 p l) ∧ Ky (fun k => (Value.slice (some ⟨g, 0, none⟩) N cH).ownBlock = some k) w W := fun W hW => by
            have hpl : p < L1.length := by omega
            have q1 := (unhide HOW).put (x := hAt L1 l) hpN ((unhide HOW).at hlN).2.2.2.2
            rw [unhide HXL] at q1
            have q2 := q1.1.put (x := hAt L1 p) hlN (((unhide HOW).at hpN).2.2.2.2.ky q1.2)
            rw [unhide HXP] at q2
            have kk : Ky (fun k => k = g) wr W := by rw [hW]; exact (q1.2.trans q2.2 (Nw.refl _ _)).drew
            have q3 : OwnH W (.slice (some ⟨g, 0, none⟩) N cH) ((L1.set p ⟨.slice a1 nl k1, rl, il⟩).set l ⟨.slice a2 np k2, rp, ip⟩) := by rw [hW]; exact q2.1.later ((Below.refl _ _).drew)
            have es : hSwap L1 p l = (L1.set p ⟨.slice a1 nl k1, rl, il⟩).set l ⟨.slice a2 np k2, rp, ip⟩ := by unfold hSwap; rw [unhide HXL, unhide HXP]
            refine ⟨(hSwap_perm hpl hl3).trans (unhide HI).1, by rw [hSwap_len]; exact hlen, (unhide HI).2.2.1.sink hl1 hl3 (unhide HL).1.fp fun d h1 h2 => (unhide HL).1.fc d h1 (unhide HALL d h1 (by rw [← hlen]; exact h2)) h2, by rw [es]; exact q3, ?_⟩
            exact ((unhide HI).2.2.2.2.trans (Ky.of_below (unhide HL).2) (Nw.refl _ _)).trans (kk.mono fun k e => by subst e; rfl) (Nw.refl _ _)
          have FIN := hide fin
          have hlm : l ≤ 1048576 := by omega
          have hplt : p < l := by omega
          clear fin hl1 hl3
          rcases unhide HJ with jx | ⟨jx, jy⟩
          · go_upto_region 7 with fail
            go_region
            go_wp2
            go_roundw
            case rel => exact ⟨l, hSwap L1 p l, hlm, rfl, unhide FIN _ rfl⟩
            case measure => simp [intOf]; omega
          · go_upto_region 7 with fail
            go_region
            go_wp2
            go_roundw
            case rel => exact ⟨l, hSwap L1 p l, hlm, rfl, unhide FIN _ rfl⟩
            case measure => simp [intOf]; omega
end Go.Proofs.YtcbenpodohjbiaaGreat

import Derived.Test.YtmgnndbcbalafaaMdL
set_option linter.unusedSimpArgs false
set_option linter.unusedVariables false
namespace Go.Proofs.Ytmgnndbcbalafaa
open Go.RowKit Go.Sort

set_option maxRecDepth 100000 in
theorem merge_nil (w : World) (b : Nat) : Calls Try.prog 5 #[.pointer (some ⟨b, 0, none⟩), .pointer none] w fun e w' => e = .returned (.int .i64 1) ∧ Below w.heap.size w w' := by
  go_enter Try.func5, Try.ntmps5
  go_upto_region 1 with fail
  refine wp_region_quiet_below (by kernel_rfl) (by kernel_rfl) ?_
  repeat (go_big_quiet_step (fail))
  refine wpQuiet_nil ?_
  intro w' hw'
  have hB : Below w.heap.size w w' := by obtain ⟨p, rfl⟩ := hw'; exact below_regrown _ _ _
  clear hw'
  go_wp2
  go_ret
  exact ⟨rfl, hB⟩

/-- The levels that have been joined so far. -/
def joinL (lv lw : Nat → List Int) (i : Nat) : Nat → List Int := fun j => if j < i then srt (lv j ++ lw j) else lv j
theorem join_step (lv lw : Nat → List Int) (i : Nat) : up (joinL lv lw i) i (srt (joinL lv lw i i ++ lw i)) = joinL lv lw (i + 1) := by
  funext j
  have e : joinL lv lw i i = lv i := by simp [joinL]
  rw [e]
  by_cases h : j = i
  · subst h; rw [up_same]; simp [joinL]
  · rw [up_ne h]; unfold joinL
    by_cases h2 : j < i
    · rw [if_pos h2, if_pos (by omega)]
    · rw [if_neg h2, if_neg (by omega)]
/-- That is m's or another one's memory. -/
def Own2 (b : Nat) (S : Value) (Ls : List Value) (lv : Nat → List Int) (tot sl : Nat) (b' : Nat) (S' : Value) (Ls' : List Value) (lw : Nat → List Int) (tot' sl' : Nat) : Prop :=
  (b' = b ∧ S' = S ∧ Ls' = Ls ∧ lw = lv ∧ tot' = tot ∧ sl' = sl) ∨ ∀ k, foot b S Ls k → ¬ foot b' S' Ls' k

theorem Own2.far {w wc : World} {b c tot sl b' tot' sl' T L : Nat} {S S' S2 : Value} {Ls Ls' Ls2 : List Value} {lv lw lv2 : Nat → List Int} (hO : Own2 b S Ls lv tot sl b' S' Ls' lw tot' sl') (hP : Mid w b' c tot' sl' S' Ls' lw) (hN : Now w wc (foot b S Ls) b c T L S2 Ls2 lv2) :
    (b' = b ∧ S' = S ∧ Ls' = Ls ∧ lw = lv ∧ tot' = tot ∧ sl' = sl) ∨ (Mid wc b' c tot' sl' S' Ls' lw ∧ ∀ k, foot b S2 Ls2 k → ¬ foot b' S' Ls' k) := by
  rcases hO with h | h
  · exact .inl h
  · refine .inr ⟨hP.ky hN.2.1 fun k hk hk' => h k hk' hk, fun k hk hk' => ?_⟩
    rcases hN.2.2 k hk with q | q
    · exact h k q hk'
    · have := hP.lt hk'; omega

/-- What is read of the level that comes next. -/
theorem Own2.next {w wc : World} {b c tot sl b' tot' sl' T L i : Nat} {S S' S2 : Value} {Ls Ls' Ls2 : List Value} {lv lw : Nat → List Int} (hO : Own2 b S Ls lv tot sl b' S' Ls' lw tot' sl') (hP : Mid w b' c tot' sl' S' Ls' lw) (hN : Now w wc (foot b S Ls) b c T L S2 Ls2 (joinL lv lw i))
    (hl : Ls2.length = max Ls.length i) (hS : i ≤ Ls.length → S2 = S) (hi : i < Ls'.length) {lb' cap' : Nat} (hS' : S' = .slice (some ⟨lb', 0, none⟩) Ls'.length cap') :
    ∃ a k, wc.cell? ⟨lb', i, none⟩ = some (.slice a (lw i).length k) ∧ NumAt wc a (lw i) ∧ (a = none → lw i = [] ∧ k = 0) ∧ ∀ ad, a = some ad → ad.block ≠ b ∧ S2.ownBlock ≠ some ad.block := by
  rcases hO.far hP hN with ⟨rfl, rfl, rfl, rfl, rfl, rfl⟩ | ⟨hP2, hD⟩
  · have e2 : S2 = S' := hS (by omega)
    subst e2
    have hl2 : Ls2.length = Ls'.length := by omega
    obtain ⟨s, hs⟩ : ∃ s, Ls2[i]? = some s := ⟨_, List.getElem?_eq_getElem (by omega)⟩
    have hown := hN.1.own i s hs
    have ej : joinL lw lw i i = lw i := by simp [joinL]
    rw [ej] at hown
    obtain ⟨a, k, rfl, hn, _, hnn⟩ := num_of_own2 hown
    have hlst := hN.1.lst
    rw [hS', ← hl2] at hlst
    refine ⟨a, k, own_cell hlst hs, hn, hnn, fun ad had => ⟨fun e => ?_, fun e => ?_⟩⟩
    · subst had; exact hN.1.boxL hs (by rw [← e]; rfl)
    · subst had; exact hN.1.lstL hs e.symm
  · obtain ⟨s, hs⟩ : ∃ s, Ls'[i]? = some s := ⟨_, List.getElem?_eq_getElem hi⟩
    obtain ⟨a, k, rfl, hn, _, hnn⟩ := num_of_own2 (hP2.own i s hs)
    have hlst := hP2.lst
    rw [hS'] at hlst
    refine ⟨a, k, own_cell hlst hs, hn, hnn, fun ad had => ?_⟩
    subst had
    have hf : foot b' S' Ls' ad.block := .inr (.inr ⟨_, List.mem_of_getElem? hs, rfl⟩)
    exact ⟨fun e => hD b (.inl rfl) (by rw [← e]; exact hf), fun e => hD _ (.inr (.inl e)) hf⟩

set_option maxHeartbeats 1000000 in
set_option maxRecDepth 100000 in
theorem merge_in (w : World) (b c tot sl b' tot' sl' : Nat) (S S' : Value) (Ls Ls' : List Value) (lv lw : Nat → List Int) (zs : List Int) (hM : Mid w b c tot sl S Ls lv) (hP : Mid w b' c tot' sl' S' Ls' lw) (hO : Own2 b S Ls lv tot sl b' S' Ls' lw tot' sl')
    (ht : tot + tot' ≤ 90000) (hs1 : sl ≤ 1700000) (hs2 : sl' ≤ 1700000) (hL : Ls.length ≤ 18) (hL' : Ls'.length ≤ 18) (hl : ∀ j, (lv j).length + (lw j).length ≤ 200000)
    (HT : ∀ W S2 Ls2, Now w W (foot b S Ls) b c (tot + tot') (sl + sl') S2 Ls2 (joinL lv lw Ls'.length) → Ls2.length = max Ls.length Ls'.length → Calls Try.prog 10 #[.pointer (some ⟨b, 0, none⟩)] W fun e w' => e = .returned (.tuple #[]) ∧ ∃ S3 Ls3, Sk w w' (foot b S Ls) b c S3 Ls3 zs Ls3.length) :
    Calls Try.prog 5 #[.pointer (some ⟨b, 0, none⟩), .pointer (some ⟨b', 0, none⟩)] w fun e w' => e = .returned (.int .i64 0) ∧ ∃ S3 Ls3, Sk w w' (foot b S Ls) b c S3 Ls3 zs Ls3.length := by
  obtain ⟨c0, c1, c2, c3, f0, f1, f2, f3⟩ := hM.facts
  obtain ⟨d0, d1, d2, d3, _, _, _, _⟩ := hP.facts
  have i1 : ¬ ((1099511627776 : Int) - (tot : Int) < (tot' : Int)) := by omega
  have hT := hide HT
  have HO := hide hO
  have HM := hide hM
  have HP := hide hP
  clear hM hP hO HT
  go_enter Try.func5, Try.ntmps5
  have k0 := cell_regrown c0
  have k3 := cell_regrown d0
  go_upto_region 1 with fail
  refine wp_region_quiet_below (by kernel_rfl) (by kernel_rfl) ?_
  repeat (go_big_quiet_step (fail))
  refine wpQuiet_nil ?_
  intro w1 hw1
  have hB1 : Below w.heap.size w w1 := by obtain ⟨p, rfl⟩ := hw1; exact below_regrown _ _ _
  have HB1 := hide hB1
  have k1 := cell_regrown (cell_later hB1 c1)
  have k2 := cell_regrown (cell_later hB1 d1)
  clear hw1 hB1 k0 k3
  go_upto_region 3 with fail
  refine wp_region_quiet_below (by kernel_rfl) (by kernel_rfl) ?_
  repeat (go_big_quiet_step (fail))
  refine wpQuiet_nil ?_
  intro w2 hw2
  have hB2 : Below w1.heap.size w1 w2 := by obtain ⟨p, rfl⟩ := hw2; exact below_regrown _ _ _
  have HB2 := hide (below_step (unhide HB1) hB2)
  clear hw2 hB2 k1 k2
  have a1 := cell_later (unhide HB2) c1
  have a2 := cell_later (unhide HB2) d1
  have a3 : w2.frozen? ⟨b, 1, none⟩ = false := ((unhide HM).later (unhide HB2)).facts.2.2.2.2.2.1
  have hwr : IntKind.i64.wrap ((tot : Int) + (tot' : Int)) = (tot : Int) + (tot' : Int) := by rw [IntKind.wrap_i64]; omega
  go_upto_region 5 with fail
  go_cut [30] (fun _ wc => Hid (Now w wc (foot b S Ls) b c (tot + tot') sl S Ls lv))
  case first =>
    go_region_law (fail)
    all_goals
      go_wp2
      go_meet
      exact (((Now.start (unhide HM)).below (unhide HB2)).tot (by omega)).below (Below.refl _ _).drew
  case rest =>
  have HN3 := hcut
  clear hcut a1 a2 a3 hwr
  obtain ⟨_, _, b2, _, _, _, b6, _⟩ := (unhide HN3).1.facts
  have b8 : wc.cell? ⟨b', 2, none⟩ = some (.int .i64 (sl' : Int)) := by
    rcases (unhide HO).far (unhide HP) (unhide HN3) with ⟨rfl, _, _, _, _, rfl⟩ | ⟨h1, _⟩
    · exact b2
    · exact h1.facts.2.2.1
  have hwr : IntKind.i64.wrap ((sl : Int) + (sl' : Int)) = (sl : Int) + (sl' : Int) := by rw [IntKind.wrap_i64]; omega
  go_upto_region 6 with fail
  go_cut [41] (fun _ wd => Hid (Now w wd (foot b S Ls) b c (tot + tot') (sl + sl') S Ls lv))
  case first =>
    go_region_law (fail)
    all_goals
      go_wp2
      go_meet
      exact ((unhide HN3).sl (by omega)).below (Below.refl _ _).drew
  case rest =>
  have HN4 := hcut
  obtain ⟨lb', cap', hS'⟩ := (unhide HP).slice
  have q8 : wc.cell? ⟨b', 3, none⟩ = some S' := by
    rcases (unhide HO).far (unhide HP) (unhide HN4) with ⟨rfl, rfl, _, _, _, rfl⟩ | ⟨h1, _⟩
    · exact (unhide HN4).1.facts.2.2.2.1
    · exact h1.facts.2.2.2.1
  rw [hS'] at q8
  have j0 : joinL lv lw 0 = lv := by funext j; simp [joinL]
  have HN5 : Hid (Now w wc (foot b S Ls) b c (tot + tot') (sl + sl') S Ls (joinL lv lw 0)) := by rw [j0]; exact HN4
  clear hcut HN4 HN3 b2 b6 b8 hwr j0
  go_wp2_with fail
  go_loopw [57] (fun s wr => ∃ (i : Nat) (S2 : Value) (Ls2 : List Value), s = .int .i64 (i : Int) ∧ i ≤ Ls'.length ∧ Hid (Now w wr (foot b S Ls) b c (tot + tot') (sl + sl') S2 Ls2 (joinL lv lw i) ∧ Ls2.length = max Ls.length i ∧ (i ≤ Ls.length → S2 = S))) (fun s _ => Ls'.length - (intOf s).toNat)
  case atStart => exact ⟨0, S, Ls, rfl, by omega, HN5, by omega, fun _ => rfl⟩
  case round =>
    obtain ⟨i, S2, Ls2, rfl, hi, HI⟩ := hrel
    by_cases hlt : i < Ls'.length
    · have i3 : (i : Int) < (Ls'.length : Int) := by omega
      obtain ⟨a, k, q0, hnum, hnn, hab⟩ := (unhide HO).next (unhide HP) (unhide HI).1 (unhide HI).2.1 (unhide HI).2.2 hlt hS'
      obtain ⟨ms, hms⟩ : ∃ ms, lw i = ms := ⟨_, rfl⟩
      have HLY : Hid (Calls Try.prog 9 #[.pointer (some ⟨b, 0, none⟩), .int .i64 (i : Int), .slice a ms.length k] wr fun e w' => e = .returned (.tuple #[]) ∧ ∃ S3 Ls3, Now w w' (foot b S Ls) b c (tot + tot') (sl + sl') S3 Ls3 (joinL lv lw (i + 1)) ∧ Ls3.length = max Ls.length (i + 1) ∧ (i + 1 ≤ Ls.length → S3 = S)) := by
        have hI := unhide HI
        have ej : joinL lv lw i i = lv i := by simp [joinL]
        have := lay_any wr b c (tot + tot') (sl + sl') i S2 Ls2 _ hI.1.1 (by omega) (by omega) a k (lw i) hnum hnn (by rw [ej]; have := hl i; omega) hab
        rw [join_step] at this
        rw [← hms]
        refine this.mono fun e w' ⟨q1, S3, Ls3, q2, q3, q4⟩ => ⟨q1, S3, Ls3, hI.1.step q4, by omega, fun h => ?_⟩
        rw [q3 (by omega), hI.2.2 (by omega)]
      rw [hms] at q0
      clear hnum hnn hab hms
      go_wp2_with (go_at_call 9; refine (unhide HLY).mono ?_; rintro e w5 ⟨rfl, S3, Ls3, HI3⟩; replace HI3 := hide HI3)
      go_roundw
      case rel => exact ⟨i + 1, S3, Ls3, by go_num, by omega, HI3⟩
      case measure => simp [intOf]; omega
    · have i3 : ¬ (i : Int) < (Ls'.length : Int) := by omega
      have hil : i = Ls'.length := by omega
      have HTT := hide (unhide hT wr S2 Ls2 (by rw [← hil]; exact (unhide HI).1) (by rw [← hil]; exact (unhide HI).2.1))
      clear hil
      go_wp2_with (go_at_call 10; refine (unhide HTT).mono ?_; rintro e w5 ⟨rfl, HK5⟩; replace HK5 := hide HK5)
      go_ret
      exact ⟨rfl, unhide HK5⟩

theorem Sk.from {w W w' : World} {F : Nat → Prop} {b c T L k : Nat} {S2 S3 : Value} {Ls2 Ls3 : List Value} {lv2 : Nat → List Int} {zs : List Int} (hN : Now w W F b c T L S2 Ls2 lv2) (h : Sk W w' (foot b S2 Ls2) b c S3 Ls3 zs k) : Sk w w' F b c S3 Ls3 zs k := by
  obtain ⟨lv, h', sl, h1, h2, h3⟩ := h
  exact ⟨lv, h', sl, hN.step h1, h2, h3⟩

theorem merge_both (w : World) (b c sl b' sl' : Nat) (S S' : Value) (Ls Ls' : List Value) (lv lw : Nat → List Int) (h h' : Nat → Nat) (xs ys : List Int) (hM : Mid w b c xs.length sl S Ls lv) (hG : Good c Ls.length lv h sl xs) (hP : Mid w b' c ys.length sl' S' Ls' lw) (hG' : Good c Ls'.length lw h' sl' ys)
    (hO : Own2 b S Ls lv xs.length sl b' S' Ls' lw ys.length sl') (hc : c % 2 = 0) (hc2 : 2 ≤ c) (hc3 : c ≤ 1024) (hx : xs.length + ys.length ≤ 90000) :
    Calls Try.prog 5 #[.pointer (some ⟨b, 0, none⟩), .pointer (some ⟨b', 0, none⟩)] w fun e w' => e = .returned (.int .i64 0) ∧ ∃ S3 Ls3, SkA w' b c S3 Ls3 (xs ++ ys) ∧ Ky (foot b S Ls) w w' ∧ ∀ k, foot b S3 Ls3 k → foot b S Ls k ∨ w.heap.size ≤ k := by
  obtain ⟨n1, s1⟩ := hG.bounds hc2 (by omega)
  obtain ⟨n2, s2⟩ := hG'.bounds hc2 (by omega)
  refine (merge_in w b c xs.length sl b' ys.length sl' S S' Ls Ls' lv lw (xs ++ ys) hM hP hO hx s1 s2 n1 n2 (fun j => by have := hG.level j; have := hG'.level j; omega) ?_).mono ?_
  · intro W S2 Ls2 hN hL
    have hlen : (xs ++ ys).length = xs.length + ys.length := List.length_append
    have hg : Good c Ls2.length (joinL lv lw Ls'.length) (fun j => h j + h' j) (sl + sl') (xs ++ ys) := by
      rw [hL]
      refine hG.merge hG' (fun j => ?_) fun j => ?_
      · unfold joinL; split
        · exact srt_ris _
        · exact hG.ris j
      · unfold joinL; split
        · exact srt_perm _
        · rw [(hG'.beyond j (by omega)).1, List.append_nil]
    refine (thin_any W b c (sl + sl') S2 Ls2 _ _ (xs ++ ys) (by rw [hlen]; exact hN.1) hg hc hc2 hc3 (by omega)).mono ?_
    rintro e w' ⟨rfl, S3, Ls3, hK⟩
    exact ⟨rfl, S3, Ls3, Sk.from hN hK⟩
  · rintro e w' ⟨rfl, S3, Ls3, hK⟩
    exact ⟨rfl, S3, Ls3, hK.all (by omega)⟩

theorem merge_other (w : World) (b c b' : Nat) (S S' : Value) (Ls Ls' : List Value) (xs ys : List Int) (hA : SkA w b c S Ls xs) (hB : SkA w b' c S' Ls' ys) (hD : ∀ k, foot b S Ls k → ¬ foot b' S' Ls' k) (hc : c % 2 = 0) (hc2 : 2 ≤ c) (hc3 : c ≤ 1024) (hx : xs.length + ys.length ≤ 90000) :
    Calls Try.prog 5 #[.pointer (some ⟨b, 0, none⟩), .pointer (some ⟨b', 0, none⟩)] w fun e w' => e = .returned (.int .i64 0) ∧ ∃ S3 Ls3, SkA w' b c S3 Ls3 (xs ++ ys) ∧ Ky (foot b S Ls) w w' ∧ ∀ k, foot b S3 Ls3 k → foot b S Ls k ∨ w.heap.size ≤ k := by
  obtain ⟨lv, h, sl, hM, hG, _⟩ := hA
  obtain ⟨lw, h', sl', hP, hG', _⟩ := hB
  exact merge_both w b c sl b' sl' S S' Ls Ls' lv lw h h' xs ys hM hG hP hG' (.inr hD) hc hc2 hc3 hx
theorem merge_self (w : World) (b c : Nat) (S : Value) (Ls : List Value) (xs : List Int) (hA : SkA w b c S Ls xs) (hc : c % 2 = 0) (hc2 : 2 ≤ c) (hc3 : c ≤ 1024) (hx : xs.length + xs.length ≤ 90000) :
    Calls Try.prog 5 #[.pointer (some ⟨b, 0, none⟩), .pointer (some ⟨b, 0, none⟩)] w fun e w' => e = .returned (.int .i64 0) ∧ ∃ S3 Ls3, SkA w' b c S3 Ls3 (xs ++ xs) ∧ Ky (foot b S Ls) w w' ∧ ∀ k, foot b S3 Ls3 k → foot b S Ls k ∨ w.heap.size ≤ k := by
  obtain ⟨lv, h, sl, hM, hG, _⟩ := hA
  exact merge_both w b c sl b sl S S Ls Ls lv lv h h xs xs hM hG hM hG (.inl ⟨rfl, rfl, rfl, rfl, rfl, rfl⟩) hc hc2 hc3 hx
end Go.Proofs.Ytmgnndbcbalafaa

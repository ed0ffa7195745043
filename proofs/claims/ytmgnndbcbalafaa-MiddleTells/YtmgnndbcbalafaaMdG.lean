import Derived.Test.YtmgnndbcbalafaaMdF
set_option linter.unusedSimpArgs false
set_option linter.unusedVariables false
namespace Go.Proofs.Ytmgnndbcbalafaa
open Go.RowKit Go.Sort

theorem num_of_own2 {w : World} {base e : Nat} {v : Value} {zs : List Int} (h : w.ownsRow base e 1 v zs.length (ints zs)) : ∃ a c, v = .slice a zs.length c ∧ NumAt w a zs ∧ (∀ ad, a = some ad → base ≤ ad.block) ∧ (a = none → zs = [] ∧ c = 0) := by
  have hcell := @World.ownsRow.cells w base e 1 v zs.length (ints zs) h
  rcases h.2 with ⟨rfl, h0⟩ | ⟨g, cap, cur, rfl, hb, _⟩
  · have : zs = [] := List.eq_nil_of_length_eq_zero h0
    subst this
    exact ⟨none, 0, rfl, .inl rfl, by simp, fun _ => ⟨rfl, rfl⟩⟩
  · refine ⟨some ⟨g, 0, none⟩, cap, rfl, .inr ⟨g, 0, rfl, fun i x hx => ?_⟩, by intro ad e; cases e; exact hb, fun e => by cases e⟩
    have := hcell (g := g) rfl i (.int .i64 x) (by simp [ints, hx])
    rw [Addr.add_lit, Nat.zero_add] at this
    rw [Nat.zero_add]; exact this
/-- A list that is not empty lies somewhere. -/
theorem own_some {w : World} {base e : Nat} {v : Value} {zs : List Int} (h : w.ownsRow base e 1 v zs.length (ints zs)) (hz : 0 < zs.length) : ∃ g cap, v = .slice (some ⟨g, 0, none⟩) zs.length cap ∧ zs.length ≤ cap ∧ cap ≤ 9223372036854775807 ∧ (∀ i x, zs[i]? = some x → w.cell? ⟨g, i, none⟩ = some (.int .i64 x)) ∧ w.ownsRow base e 1 (.slice (some ⟨g, 0, none⟩) 0 cap) 0 [] := by
  rcases h.2 with ⟨rfl, h0⟩ | ⟨g, cap, cur, rfl, hb, hh, h3, h4, h5, h6⟩
  · omega
  · refine ⟨g, cap, rfl, h3, by unfold maxLen at h4; omega, fun i x hx => own_cell h (by simp [ints, hx]), ⟨rfl, .inr ⟨g, cap, cur, rfl, hb, hh, Nat.zero_le _, h4, h5, by simp⟩⟩⟩
theorem own_len {w : World} {base e : Nat} {v : Value} {xs ys : List Int} (h : w.ownsRow base e 1 v xs.length (ints xs)) (e' : xs = ys) : w.ownsRow base e 1 v ys.length (ints ys) := by subst e'; exact h
/-- One number more. -/
theorem own_push {w1 : World} {base e : Nat} {v' : Value} {xs : List Int} {x : Int} (h : w1.ownsRow base e 1 v' (xs.length + 1) (ints xs ++ [.int .i64 x])) : w1.ownsRow base e 1 v' (xs ++ [x]).length (ints (xs ++ [x])) := by
  rw [List.length_append, ints_app]; exact h

theorem grown_below {w w' : World} {row : Option Nat} (hg : w.grownBy w' row) {B : Nat} (hB : B ≤ w.heap.size) (hr : ∀ g, row = some g → B ≤ g) : Below B w w' :=
  ⟨hg.os, hg.tape, hg.output, hg.size, fun k hk => hg.block k (by omega) (fun e => by have := hr k e.symm; omega)⟩
/-- What stands behind the pairs. -/
theorem num_rest {w : World} {g : Nat} {zs : List Int} (h : ∀ (i : Nat) (x : Int), zs[i]? = some x → w.cell? ⟨g, i, none⟩ = some (.int .i64 x)) (ev : Nat) : NumAt w (some ⟨g, ev, none⟩) (zs.drop ev) :=
  .inr ⟨g, ev, rfl, fun i x hx => h _ _ (by rw [← List.getElem?_drop]; exact hx)⟩

/-- The new numbers are as they were where an elder list and a level's place are written. -/
theorem HalveNum {w0 w w5 : World} {g lb i : Nat} {u : Value} {a6 : Option Addr} {SE : List Int} (hg : w.drew.grownBy w5 (some g)) (hN : NumAt w a6 SE) (hB : ∀ ad : Addr, a6 = some ad → w0.heap.size ≤ ad.block) (h1 : g < w0.heap.size) (h2 : lb < w0.heap.size) : NumAt (w5.setCell ⟨lb, i, none⟩ u) a6 SE := by
  rcases hN with e | ⟨q, off, rfl, hc⟩
  · exact .inl e
  · have hq := hB _ rfl
    simp only at hq
    refine .inr ⟨q, off, rfl, fun j x hx => ?_⟩
    have h3 := hc j x hx
    have h4 := World.block_lt_of_cell? _ _ h3
    simp only at h4
    rw [← h3]
    unfold World.cell?
    have e1 : (w5.setCell ⟨lb, i, none⟩ u).heap[q]? = w5.heap[q]? := Below.heap_setCell _ _ _ _ (by simp; omega)
    have e2 : w5.heap[q]? = w.heap[q]? := hg.block q h4 (by intro e; cases e; omega)
    simp only [e1, e2]

theorem Now.sl {w0 w : World} {F : Nat → Prop} {b c tot sl sl' : Nat} {S : Value} {Ls : List Value} {lv : Nat → List Int} (h : Now w0 w F b c tot sl S Ls lv) {v : Int} (hv : v = ((sl' : Nat) : Int)) : Now w0 (w.setCell ⟨b, 2, none⟩ (.int .i64 v)) F b c tot sl' S Ls lv := by
  subst hv
  refine h.step ⟨h.1.put 2 _ fun j hj => ?_, ky_set _ _ _ (.inl rfl), fun k hk => .inl hk⟩
  match j, hj with
  | 0, _ => rfl
  | 1, _ => rfl
  | 2, _ => rfl
  | 3, _ => rfl
theorem Now.tot {w0 w : World} {F : Nat → Prop} {b c tot sl tot' : Nat} {S : Value} {Ls : List Value} {lv : Nat → List Int} (h : Now w0 w F b c tot sl S Ls lv) {v : Int} (hv : v = ((tot' : Nat) : Int)) : Now w0 (w.setCell ⟨b, 1, none⟩ (.int .i64 v)) F b c tot' sl S Ls lv := by
  subst hv
  refine h.step ⟨h.1.put 1 _ fun j hj => ?_, ky_set _ _ _ (.inl rfl), fun k hk => .inl hk⟩
  match j, hj with
  | 0, _ => rfl
  | 1, _ => rfl
  | 2, _ => rfl
  | 3, _ => rfl
theorem wrap_pow {i sl : Nat} (hi : i ≤ 60) (hs : sl < 4611686018427387904) : IntKind.i64.wrap ((sl : Int) + IntKind.i64.wrap (2 ^ i)) = ((sl + 2 ^ i : Nat) : Int) := by
  have h1 : 2 ^ i ≤ 2 ^ 60 := Nat.pow_le_pow_right (by decide) hi
  have h2 : (2 : Int) ^ i = ((2 ^ i : Nat) : Int) := by simp
  rw [h2]
  generalize 2 ^ i = P at *
  rw [IntKind.wrap_i64, IntKind.wrap_i64]
  omega

set_option maxHeartbeats 1000000 in
set_option maxRecDepth 100000 in
/-- halve. -/
theorem halve_any (w : World) (b c tot sl i : Nat) (S : Value) (Ls : List Value) (lv : Nat → List Int) (hM : Mid w b c tot sl S Ls lv) (hi : i < Ls.length) (hi6 : i ≤ 60) (hL : Ls.length ≤ 61)
    (h2 : 2 ≤ (lv i).length) (hl : (lv i).length + (lv (i + 1)).length ≤ 1000000) (hs : sl < 4611686018427387904) :
    Calls Try.prog 18 #[.pointer (some ⟨b, 0, none⟩), .int .i64 i] w fun e w' => e = .returned (.tuple #[]) ∧
      ∃ S' Ls', Ls'.length = max Ls.length (i + 2) ∧ Now w w' (foot b S Ls) b c tot (sl + 2 ^ i) S' Ls' (up (up lv i (odd (lv i))) (i + 1) (srt (lv (i + 1) ++ sec (lv i)))) := by
  obtain ⟨i2, hi2, z20, z21, z22⟩ := info_parts Try.info2
  obtain ⟨lb, cap, rfl⟩ := hM.slice
  obtain ⟨c0, c1, c2, c3, f0, f1, f2, f3⟩ := hM.facts
  obtain ⟨s, hs1⟩ : ∃ s, Ls[i]? = some s := ⟨_, List.getElem?_eq_getElem hi⟩
  have c4 := own_cell hM.lst hs1
  obtain ⟨g, k1, rfl, hk1, hk63, HC, HO0⟩ := own_some (hM.own i s hs1) (by omega)
  have hs1' := hs1
  obtain ⟨zs, hzs⟩ : ∃ zs, lv i = zs := ⟨_, rfl⟩
  rw [hzs] at h2 hl hk1 HC hs1 c4 ⊢
  obtain ⟨ev, hev⟩ : ∃ ev, zs.length - zs.length % 2 = ev := ⟨_, rfl⟩
  have hev1 : (zs.length : Int) - (zs.length : Int) % 2 = (ev : Int) := by omega
  have hev2 : ev ≤ zs.length := by omega
  have hev3 : ev % 2 = 0 := by omega
  have hiN : (i : Int) < (Ls.length : Int) := by omega
  have HGL := hide (show g < w.heap.size ∧ lb < w.heap.size from ⟨((hM.own i _ hs1').lt g rfl).2, (hM.lst.lt lb rfl).2⟩)
  have HM := hide hM
  have HHC := hide HC
  have HHO := hide HO0
  have HS1 := hide hs1
  have HEV := hide hev
  have HZS := hide hzs
  obtain ⟨SE, hSE⟩ : ∃ SE, sec zs = SE := ⟨_, rfl⟩
  obtain ⟨ZO, hZO⟩ : ∃ ZO, odd zs = ZO := ⟨_, rfl⟩
  rw [hSE, hZO]
  have HSE0 := hide hSE
  have HZO0 := hide hZO
  clear hSE hZO
  clear hM HC HO0 hs1 hs1' hev hzs
  go_enter Try.func18, Try.ntmps18
  go_wp2_with fail
  go_loopw [7, 6] (fun s7 s6 wr => ∃ k : Nat, 2 * k ≤ ev ∧ s7 = .int .i64 ((2 * k + 1 : Nat) : Int) ∧ Hid (wr.ownsRow w.heap.size 2 1 s6 (sec (zs.take (2 * k))).length (ints (sec (zs.take (2 * k))))) ∧ Below w.heap.size w wr) (fun s7 _ _ => (zs.length + 2 - (intOf s7).toNat))
  case atStart => exact ⟨0, by omega, rfl, World.ownsRow_nil _ _ _ _, Below.refl _ _⟩
  case round =>
    obtain ⟨k, hk, rfl, HO, hb⟩ := hrel
    by_cases hlt : 2 * k + 1 < ev
    · have i1 : ((2 * k + 1 : Nat) : Int) < (ev : Int) := by omega
      have i3 : ((2 * k + 1 : Nat) : Int) < (zs.length : Int) := by omega
      obtain ⟨y, hy⟩ : ∃ y, zs[2 * k + 1]? = some y := ⟨_, List.getElem?_eq_getElem (by omega)⟩
      have d0 := cell_later hb (unhide HHC _ _ hy)
      have HSE := hide (sec_take zs k y hy)
      have hsl : (sec (zs.take (2 * k))).length ≤ 1000000 := by
        have := sec_len (zs.take (2 * k))
        rw [List.length_take] at this; omega
      have HSL := hide hsl
      have HB := hide hb
      obtain ⟨q, hq⟩ : ∃ q, 2 * k + 1 = q := ⟨_, rfl⟩
      rw [hq] at i1 i3 d0 ⊢
      have HQ := hide hq
      clear hy hsl hb hlt hq
      obtain ⟨X, hX⟩ : ∃ X, sec (zs.take (2 * k)) = X := ⟨_, rfl⟩
      rw [hX] at HO HSE HSL
      clear hX
      go_wp2_with (at_builtin; refine wpList_append_own_at _ rfl (.tmp 26) (.tmp 31) 23 rfl w.heap.size 2 i2 (.int .i64 0) 1 8 Try.underlying23 hi2 z20 z21 z22 rfl (by decide) _ _ _ rfl (World.ownsRow.alloc (unhide HO) _) ⟨wr.heap.size, 0, none⟩ 1 1 [.int .i64 y] rfl rfl (cell_one_new _ _ _) (by intro u hu; simp at hu; subst hu; rfl) (by have := unhide HSL; unfold maxLen; omega) (by have := unhide HSL; omega) (by have := (unhide HB).size; simp; omega) ?_; intro v5 w5 hown5 hgrow5 _ hat5; have HO5 := hide (own_len (own_push hown5) (unhide HSE).symm); have HG5 := hide hgrow5; clear hown5 hgrow5 hat5)
      go_roundw
      case rel =>
        refine ⟨k + 1, by have := unhide HQ; omega, by have := unhide HQ; go_num, HO5, ?_⟩
        have hb := unhide HB
        exact (below_alloc hb _).trans (grown_below (unhide HG5) (by have := hb.size; simp; omega) fun g hg => ((unhide HO).lt g hg).1)
      case measure => have := unhide HQ; simp [intOf]; omega
    · have i1 : ¬ ((2 * k + 1 : Nat) : Int) < (ev : Int) := by omega
      have hke : 2 * k = ev := by omega
      have hSE := unhide HSE0
      have hZO := unhide HZO0
      have HO2 : Hid (wr.ownsRow w.heap.size 2 1 u6 SE.length (ints SE)) := own_len (unhide HO) (by rw [hke, ← unhide HEV, sec_even, hSE])
      obtain ⟨a6, c6, rfl, HN6, HB6, HNn⟩ := num_of_own2 (unhide HO2)
      have HSEL : Hid (SE.length ≤ zs.length) := by show _ ≤ _; rw [← hSE]; have := sec_len zs; omega
      have hZL : zs.length - ev = ZO.length := by rw [← hZO, odd_len]; have := unhide HEV; omega
      have HR := hide (show NumAt wr.drew (some ⟨g, ev, none⟩) ZO from by rw [← hZO, odd_drop, unhide HEV]; exact num_rest (fun i x hx => cell_later hb.drew (unhide HHC i x hx)) ev)
      have hD := (unhide HM).later hb.drew
      have HD := hide hD
      have HO0 : Hid (wr.drew.ownsRow 0 2 1 (.slice (some ⟨g, 0, none⟩) ([] : List Int).length k1) ([] : List Int).length (ints [])) := own_later (unhide HHO) hb.drew
      have d3 := cell_later hb c3
      have HN6' := hide HN6
      have HB6' := hide HB6
      have HBB := hide hb
      have hb2 : (ev : Int) ≤ (zs.length : Int) := by omega
      have hb3 : (zs.length : Int) ≤ (k1 : Int) := by omega
      clear HN6 HB6 HO HO2 hSE hZO hD c0 c1 c2 f0 f1 f2 f3 c4 hke
      have hz0 : ZO.length ≤ 1 := by omega
      clear hb
      by_cases hkk : k1 = ev
      · subst hkk
        have HZ0 : Hid (ZO = []) := List.eq_nil_of_length_eq_zero (by omega)
        go_upto_region 7 with fail
        go_cut [0] (fun s0 wc => s0 = .pointer (some ⟨b, 0, none⟩) ∧ ∃ a5 c5, Hid (Now w wc (foot b (.slice (some ⟨lb, 0, none⟩) Ls.length cap) Ls) b c tot sl (.slice (some ⟨lb, 0, none⟩) Ls.length cap) (Ls.set i (.slice a5 ZO.length c5)) (up lv i ZO) ∧ NumAt wc a6 SE))
        case first =>
          have d4 := own_cell (unhide HD).lst (unhide HS1)
          have d4' : wr.cell? ⟨lb, i, none⟩ = some (.slice (some ⟨g, 0, none⟩) zs.length k1) := d4
          clear d4
          go_region_law (refine step_app_any (by rfl) (.tmp 39) (.tmp 42) (by rfl) (.slice (some ⟨g, 0, none⟩) ([] : List Int).length k1) [] (by simp [Act.eval, Act.put]) (unhide HO0) (some ⟨g, 0, none⟩) 0 ZO (by simp [Act.eval, Act.put]) (.inl (unhide HZ0)) (fun e => by cases e) (by simp; omega) ZO rfl ?_; intro a5 c5 w5 ho5 hg5 hat5; obtain ⟨q1, q2, q3, HN⟩ := Mid.laid (unhide HD) (a1 := some ⟨g, 0, none⟩) (k1 := k1) (by rw [unhide HZS]; exact unhide HS1) ho5 hg5 hat5; have HN7 := hide (HalveNum (lb := lb) (i := i) (u := .slice a5 ZO.length c5) hg5 (unhide HN6') (unhide HB6') (unhide HGL).1 (unhide HGL).2); clear ho5 hg5 hat5)
          all_goals
            go_wp2
            go_meet
            exact ⟨rfl, a5, c5, ((Now.start (unhide HM)).below (unhide HBB).drew).step (unhide HN), unhide HN7⟩
        case rest =>
          obtain ⟨rfl, a5, c5, HT⟩ := hcut
          have HLY : Hid (Calls Try.prog 9 #[.pointer (some ⟨b, 0, none⟩), .int .i64 ((i : Int) + 1), .slice a6 SE.length c6] wc fun e w' => e = .returned (.tuple #[]) ∧ ∃ S' Ls', Ls'.length = max Ls.length (i + 2) ∧ Now wc w' (foot b (.slice (some ⟨lb, 0, none⟩) Ls.length cap) (Ls.set i (.slice a5 ZO.length c5))) b c tot sl S' Ls' (up (up lv i ZO) (i + 1) (srt (lv (i + 1) ++ SE)))) := by
            have hT := unhide HT
            have hu : up lv i ZO (i + 1) = lv (i + 1) := up_ne (by omega)
            have h1 := lay_any wc b c tot sl (i + 1) _ _ _ hT.1.1 (by omega) (by rw [List.length_set]; omega) a6 c6 SE hT.2 HNn (by rw [hu]; have := unhide HSEL; omega) (fun ad had => by
              have := unhide HB6' ad had
              have hg := (unhide HGL).2
              have hbl := (unhide HM).box.lt
              exact ⟨by omega, fun e => by simp [Value.ownBlock] at e; omega⟩)
            rw [hu, List.length_set] at h1
            exact h1.mono fun e w' ⟨q1, S', Ls', q2, _, q3⟩ => ⟨q1, S', Ls', q2, q3⟩
          go_upto_region 9 with (go_at_call 9; refine (unhide HLY).mono ?_; rintro e w2 ⟨rfl, S', Ls', HL2, HN2⟩; replace HL2 := hide HL2; replace HN2 := hide HN2)
          obtain ⟨_, _, g2, _, _, _, k2, _⟩ := (unhide HN2).1.facts
          go_region_law (fail)
          all_goals
            go_wp2
            go_end0
            exact ⟨rfl, S', Ls', unhide HL2, (((unhide HT).1.step (unhide HN2)).sl (wrap_pow hi6 hs)).below (Below.refl _ _).drew⟩
      · go_upto_region 7 with fail
        go_cut [0] (fun s0 wc => s0 = .pointer (some ⟨b, 0, none⟩) ∧ ∃ a5 c5, Hid (Now w wc (foot b (.slice (some ⟨lb, 0, none⟩) Ls.length cap) Ls) b c tot sl (.slice (some ⟨lb, 0, none⟩) Ls.length cap) (Ls.set i (.slice a5 ZO.length c5)) (up lv i ZO) ∧ NumAt wc a6 SE))
        case first =>
          have d4 := own_cell (unhide HD).lst (unhide HS1)
          have d4' : wr.cell? ⟨lb, i, none⟩ = some (.slice (some ⟨g, 0, none⟩) zs.length k1) := d4
          clear d4
          have hzn : zs.length - ev = ZO.length := hZL
          go_region_law (refine step_app_any (by rfl) (.tmp 39) (.tmp 42) (by rfl) (.slice (some ⟨g, 0, none⟩) ([] : List Int).length k1) [] (by simp [Act.eval, Act.put]) (unhide HO0) (some ⟨g, ev, none⟩) (k1 - ev) ZO (by simp [Act.eval, Act.put]) (unhide HR) (fun e => by cases e) (by simp; omega) ZO rfl ?_; intro a5 c5 w5 ho5 hg5 hat5; obtain ⟨q1, q2, q3, HN⟩ := Mid.laid (unhide HD) (a1 := some ⟨g, 0, none⟩) (k1 := k1) (by rw [unhide HZS]; exact unhide HS1) ho5 hg5 hat5; have HN7 := hide (HalveNum (lb := lb) (i := i) (u := .slice a5 ZO.length c5) hg5 (unhide HN6') (unhide HB6') (unhide HGL).1 (unhide HGL).2); clear ho5 hg5 hat5)
          all_goals
            go_wp2
            go_meet
            exact ⟨rfl, a5, c5, ((Now.start (unhide HM)).below (unhide HBB).drew).step (unhide HN), unhide HN7⟩
        case rest =>
          obtain ⟨rfl, a5, c5, HT⟩ := hcut
          have HLY : Hid (Calls Try.prog 9 #[.pointer (some ⟨b, 0, none⟩), .int .i64 ((i : Int) + 1), .slice a6 SE.length c6] wc fun e w' => e = .returned (.tuple #[]) ∧ ∃ S' Ls', Ls'.length = max Ls.length (i + 2) ∧ Now wc w' (foot b (.slice (some ⟨lb, 0, none⟩) Ls.length cap) (Ls.set i (.slice a5 ZO.length c5))) b c tot sl S' Ls' (up (up lv i ZO) (i + 1) (srt (lv (i + 1) ++ SE)))) := by
            have hT := unhide HT
            have hu : up lv i ZO (i + 1) = lv (i + 1) := up_ne (by omega)
            have h1 := lay_any wc b c tot sl (i + 1) _ _ _ hT.1.1 (by omega) (by rw [List.length_set]; omega) a6 c6 SE hT.2 HNn (by rw [hu]; have := unhide HSEL; omega) (fun ad had => by
              have := unhide HB6' ad had
              have hg := (unhide HGL).2
              have hbl := (unhide HM).box.lt
              exact ⟨by omega, fun e => by simp [Value.ownBlock] at e; omega⟩)
            rw [hu, List.length_set] at h1
            exact h1.mono fun e w' ⟨q1, S', Ls', q2, _, q3⟩ => ⟨q1, S', Ls', q2, q3⟩
          go_upto_region 9 with (go_at_call 9; refine (unhide HLY).mono ?_; rintro e w2 ⟨rfl, S', Ls', HL2, HN2⟩; replace HL2 := hide HL2; replace HN2 := hide HN2)
          obtain ⟨_, _, g2, _, _, _, k2, _⟩ := (unhide HN2).1.facts
          go_region_law (fail)
          all_goals
            go_wp2
            go_end0
            exact ⟨rfl, S', Ls', unhide HL2, (((unhide HT).1.step (unhide HN2)).sl (wrap_pow hi6 hs)).below (Below.refl _ _).drew⟩
end Go.Proofs.Ytmgnndbcbalafaa

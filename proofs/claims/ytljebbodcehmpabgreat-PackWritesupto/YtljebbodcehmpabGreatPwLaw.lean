import Derived.Test.YtljebbodcehmpabGreatRefH
import Derived.Test.YtljebbodcehmpabGreatSameA
set_option linter.unusedSimpArgs false
set_option linter.unusedVariables false
namespace Go.Proofs.YtljebbodcehmpabGreat
open Go.RowKit Go.Sort

theorem bad_good {X : Vc} {sch : Int} (h : badW X sch = false) : goodB X = true ∧ (sch = 4 → X.k = 1) := by
  simp only [badW, Bool.or_eq_false_iff, Bool.not_eq_false', decide_eq_false_iff_not] at h
  obtain ⟨⟨⟨hg, h1⟩, h2⟩, h3⟩ := h
  refine ⟨hg, fun e => ?_⟩
  subst e
  rcases good_kind hg with h | h
  · exact h
  · rw [h] at h3; exact absurd h3 (by decide)
theorem same_write {X : Vc} {sch : Int} {s t : ByteArray} {f g : Int} (hn : ∀ n ∈ X.ns, In63 n) (h1 : PW X sch s f) (h2 : RW X sch t g) : t = s ∧ g = f := by
  rcases h1 with ⟨b1, rfl, rfl⟩ | ⟨b1, l1, rfl, rfl⟩ | ⟨b1, l1, rfl, b, hb, rfl⟩ <;> rcases h2 with ⟨b2, rfl, rfl⟩ | ⟨b2, l2, rfl, rfl⟩ | ⟨b2, l2, rfl, b', hb', rfl⟩
  · exact ⟨rfl, rfl⟩
  · rw [b1] at b2; cases b2
  · rw [b1] at b2; cases b2
  · rw [b1] at b2; cases b2
  · exact ⟨rfl, rfl⟩
  · omega
  · rw [b1] at b2; cases b2
  · omega
  · obtain ⟨hg, hk⟩ := bad_good b1
    have e := body_same (fun y hy => vals_clean hg (List.mem_filter.1 hy).1) (fun e4 y hy => ?_) hb hb'
    · rw [e]; exact ⟨rfl, rfl⟩
    · obtain ⟨hy1, hy2⟩ := List.mem_filter.1 hy
      have hk1 := hk (by omega)
      rcases vals_kind hg hy1 with rfl | ⟨_, n, hn1, rfl⟩ | ⟨h2, _⟩
      · simp [Val.null] at hy2
      · refine ⟨n, ?_, rfl⟩
        rcases hn1 with h | h
        · exact hn n h
        · rw [h]; unfold In63; omega
      · rw [hk1] at h2; cases h2
theorem same_best {X : Vc} (hn : ∀ n ∈ X.ns, In63 n) : ∀ (i : Nat) (s t : ByteArray), PB X i s → RB X i t → t = s
  | 0, s, t, h1, h2 => (same_write hn h1 h2).1
  | i + 1, s, t, ⟨c, s1, f1, h1, h2, e⟩, ⟨c', s2, f2, h1', h2', e'⟩ => by
    have q1 := same_best hn i c c' h1 h1'
    obtain ⟨q2, q3⟩ := same_write hn h2 h2'
    rw [e, e', q1, q2, q3]
theorem same_pack {X : Vc} {s t : ByteArray} {f g : Int} (hn : ∀ n ∈ X.ns, In63 n) (h1 : PP X s f) (h2 : RP X t g) : t = s ∧ g = f := by
  have z1 : ∀ b, PB X 3 b → ∃ c, PW X 1 c 0 := fun b h => by
    obtain ⟨c, _, _, h, _⟩ := h
    obtain ⟨c, _, _, h, _⟩ := h
    obtain ⟨c, _, _, h, _⟩ := h
    exact ⟨c, h⟩
  have z2 : ∀ b, RB X 3 b → ∃ c, RW X 1 c 0 := fun b h => by
    obtain ⟨c, _, _, h, _⟩ := h
    obtain ⟨c, _, _, h, _⟩ := h
    obtain ⟨c, _, _, h, _⟩ := h
    exact ⟨c, h⟩
  rcases h1 with ⟨rfl, h1⟩ | ⟨rfl, h1, c, hc⟩ <;> rcases h2 with ⟨rfl, h2⟩ | ⟨rfl, h2, c', hc'⟩
  · exact ⟨same_best hn 3 _ _ h1 h2, rfl⟩
  · obtain ⟨c, hc⟩ := z1 _ h1
    exact absurd (same_write hn hc hc').2 h2
  · obtain ⟨c', hc'⟩ := z2 _ h2
    exact absurd (same_write hn hc hc').2.symm h1
  · exact ⟨rfl, (same_write hn hc hc').2⟩
theorem PW.rng {X : Vc} {sch : Int} {s : ByteArray} {f : Int} (h : PW X sch s f) : -9223372036854775808 ≤ f ∧ f ≤ 9223372036854775807 := by
  rcases h with ⟨_, _, rfl⟩ | ⟨_, _, _, rfl⟩ | ⟨_, _, rfl, _⟩ <;> omega
theorem PP.rng {X : Vc} {s : ByteArray} {f : Int} (h : PP X s f) : -9223372036854775808 ≤ f ∧ f ≤ 9223372036854775807 := by
  rcases h with ⟨rfl, _⟩ | ⟨_, _, c, hc⟩
  · omega
  · exact hc.rng

set_option maxHeartbeats 8000000 in
set_option maxRecDepth 100000 in
theorem law_pw (X : Vc) (p : Sl) (sch : Int) (w : World) (hs : small X) (hn : ∀ n ∈ X.ns, In63 n) (hp : VecAt w X p) :
    Calls Tryz.prog 3 #[vecV X p, .int .i64 sch] w fun e w' => e = .returned (.bool true) ∧ Below w.heap.size w w' := by
  have HP : Hid (∀ W k, Below w.heap.size w W → Calls Tryz.prog 5 #[vecV X p, .int .i64 k] W fun e w' => ∃ s f, e = .returned (.tuple #[.string s, .int .i64 f]) ∧ Hid (PW X k s f) ∧ Below W.heap.size W w') := fun W k hW => pwrite_any X p k W hs (hp.later hW)
  have HR : Hid (∀ W k s f, Below w.heap.size w W → Hid (PW X k s f) → Calls Tryz.prog 6 #[vecV X p, .int .i64 k] W fun e w' => e = .returned (.tuple #[.string s, .int .i64 f]) ∧ Below W.heap.size W w') := fun W k s f hW h => (rwrite_any X p k W hs (hp.later hW)).mono fun e w' ⟨t, g, he, h2, hb⟩ => by
    obtain ⟨e1, e2⟩ := same_write hn (unhide h) (unhide h2)
    subst e1 e2
    exact ⟨he, hb⟩
  have HP2 : Hid (∀ W, Below w.heap.size w W → Calls Tryz.prog 8 #[vecV X p] W fun e w' => ∃ s f, e = .returned (.tuple #[.string s, .int .i64 f]) ∧ Hid (PP X s f) ∧ Below W.heap.size W w') := fun W hW => ppack_any X p W hs (hp.later hW)
  have HR2 : Hid (∀ W s f, Below w.heap.size w W → Hid (PP X s f) → Calls Tryz.prog 9 #[vecV X p] W fun e w' => e = .returned (.tuple #[.string s, .int .i64 f]) ∧ Below W.heap.size W w') := fun W s f hW h => (rpack_any X p W hs (hp.later hW)).mono fun e w' ⟨t, g, he, h2, hb⟩ => by
    obtain ⟨e1, e2⟩ := same_pack hn (unhide h) (unhide h2)
    subst e1 e2
    exact ⟨he, hb⟩
  rw [vecV_open] at HP HR HP2 HR2 ⊢
  have bl := below_alloc (Below.refl _ w) (.cells #[.int .i64 X.k, .slice p.a1 X.nl.length p.c1, .slice p.a2 X.ns.length p.c2, .slice p.a3 X.ss.length p.c3] 26)
  have HX0 : Hid (Box4 (w.alloc (.cells #[.int .i64 X.k, .slice p.a1 X.nl.length p.c1, .slice p.a2 X.ns.length p.c2, .slice p.a3 X.ss.length p.c3] 26)) w.heap.size X p) := ⟨by simp [go_sem], by simp [go_sem], by simp [go_sem], by simp [go_sem]⟩
  have HBL := hide bl
  clear hs hp hn bl
  go_enter Tryz.func3, Tryz.ntmps3
  go_wp2_with fail
  go_loopw [5] (fun s5 wr => ∃ k : Nat, k ≤ 4 ∧ s5 = .int .i64 ((k : Int) + 1) ∧ Hid (Box4 wr w.heap.size X p) ∧ Below w.heap.size w wr) (fun s _ => 6 - (intOf s).toNat)
  case atStart => exact ⟨0, by omega, rfl, HX0, unhide HBL⟩
  case round =>
    obtain ⟨k, hk, rfl, HX, hb⟩ := hrel
    obtain ⟨x0, x1, x2, x3⟩ := unhide HX
    by_cases h8 : k < 4
    · have h9 : (k : Int) + 1 ≤ 4 := by omega
      have HB := hide hb
      clear hb
      go_wp2_with (first
        | (go_at_call 5; refine (unhide HP _ _ (unhide HB)).mono ?_; rintro e w1 ⟨s1, f1, rfl, HS1, hb1⟩; have HX1 := hide ((unhide HX).later hb1); have HB1 := hide (below_step (unhide HB) hb1); obtain ⟨y0, y1, y2, y3⟩ := unhide HX1; have hf1 := hide (unhide HS1).rng; clear hb1)
        | (go_at_call 6; refine (unhide HR _ _ _ _ (unhide HB1) HS1).mono ?_; rintro e w2 ⟨rfl, hb2⟩; have HX2 := hide ((unhide HX1).later hb2); have HB2 := hide (below_step (unhide HB1) hb2); clear hb2)
        | (go_at_call 7; (first | refine (num_any f4 _ (unhide hf4)).mono ?_ | refine (num_any f1 _ (unhide hf1)).mono ?_); rintro e w3 ⟨rfl, rfl⟩))
      go_roundw
      case rel => exact ⟨k + 1, by omega, by go_num, HX2, unhide HB2⟩
      case measure => first | (simp [intOf]; omega) | (simp only [intOf]; omega)
    · have h9 : ¬ (k : Int) + 1 ≤ 4 := by omega
      have HB := hide hb
      clear hb
      go_wp2_with (first
        | (go_at_call 5; refine (unhide HP _ _ (unhide HB)).mono ?_; rintro e w1 ⟨s1, f1, rfl, HS1, hb1⟩; have HX1 := hide ((unhide HX).later hb1); have HB1 := hide (below_step (unhide HB) hb1); obtain ⟨y0, y1, y2, y3⟩ := unhide HX1; have hf1 := hide (unhide HS1).rng; clear hb1)
        | (go_at_call 6; refine (unhide HR _ _ _ _ (unhide HB1) HS1).mono ?_; rintro e w2 ⟨rfl, hb2⟩; have HX2 := hide ((unhide HX1).later hb2); have HB2 := hide (below_step (unhide HB1) hb2); obtain ⟨z0, z1, z2, z3⟩ := unhide HX2; clear hb2)
        | (go_at_call 8; refine (unhide HP2 _ (unhide HB2)).mono ?_; rintro e w4 ⟨s4, f4, rfl, HS4, hb4⟩; have HX4 := hide ((unhide HX2).later hb4); have HB4 := hide (below_step (unhide HB2) hb4); obtain ⟨q0, q1, q2, q3⟩ := unhide HX4; have hf4 := hide (unhide HS4).rng; clear hb4)
        | (go_at_call 9; refine (unhide HR2 _ _ _ (unhide HB4) HS4).mono ?_; rintro e w5 ⟨rfl, hb5⟩; have HB5 := hide (below_step (unhide HB4) hb5); clear hb5)
        | (go_at_call 7; (first | refine (num_any f4 _ (unhide hf4)).mono ?_ | refine (num_any f1 _ (unhide hf1)).mono ?_); rintro e w3 ⟨rfl, rfl⟩))
      go_ret
      exact ⟨rfl, unhide HB5⟩
end Go.Proofs.YtljebbodcehmpabGreat

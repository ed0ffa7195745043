import Derived.Test.YtdinkopfdnjpmaaLongH
set_option linter.unusedSimpArgs false
set_option linter.unusedVariables false
namespace Go.Proofs.Ytdinkopfdnjpmaa
open Go.RowKit Go.Sort

theorem LongV.later {w w' : World} {v : Value} {z : Int} (h : LongV w v z) (hb : Below w.heap.size w w') : LongV w' v z := by
  obtain ⟨a, cap, ds, h1, h2, h3, h4, h5⟩ := h
  exact ⟨a, cap, ds, h1, h2, h3, h4.later hb, h5⟩
/-- A number whose digits are few. -/
def Fits (z : Int) : Prop := -(65536 ^ 30) < z ∧ z < 65536 ^ 30
theorem fits_len {ds : List Int} {z : Int} (hd : Digs ds) (ht : trimN ds ds.length = ds.length) (hv : valD ds = z ∨ valD ds = -z) (hz : Fits z) : ds.length ≤ 30 := by
  cases hl : ds.length with
  | zero => omega
  | succ n =>
    have h1 := val_ge hd hl ht
    by_cases h : n < 30
    · omega
    · have h2 := pow_mono (m := 30) (n := n) (by omega)
      obtain ⟨z1, z2⟩ := hz
      omega

theorem DigAt.set {w : World} {a : Option Addr} {zs : List Int} {g j : Nat} {F : Nat → Value} {u : Value} (h : DigAt w a zs) (hr : w.rowIs g 58 2 F) (hF : ∀ k, k < 2 → ∀ x, F k ≠ .int .u32 x) : DigAt (w.setCell ⟨g, j, none⟩ u) a zs := by
  rcases h with h | ⟨b, off, ha, h⟩
  · exact .inl h
  · refine .inr ⟨b, off, ha, fun i x hx => ?_⟩
    have hc := h i x hx
    by_cases e : b = g
    · subst e
      obtain ⟨c, hb, hn, hcc⟩ := hr
      have hlt : off + i < 2 := by
        simp [World.cell?, hb] at hc
        have := (Array.getElem?_eq_some_iff.1 hc).1
        omega
      have h2 := hcc (off + i) hlt
      simp [World.cell?, hb, h2] at hc
      exact absurd hc (hF _ hlt x)
    · exact (World.cell?_of_block (w := w) (Go.Deep.blk_setCell_other _ _ _ _ e)).trans hc
theorem DigAt.set2 {w : World} {a : Option Addr} {zs : List Int} {g : Nat} {o o' : Bool} {s s' : Option Addr} {l c l' c' : Nat} (h : DigAt w a zs) (hr : w.rowIs g 58 2 (box2 (.bool o) (.slice s l c))) : DigAt ((w.setCell ⟨g, 0, none⟩ (.bool o')).setCell ⟨g, 1, none⟩ (.slice s' l' c')) a zs := by
  refine (h.set hr ?_).set (hr.set 0 _) ?_
  · intro k hk x
    match k, hk with
    | 0, _ => simp [box2]
    | 1, _ => simp [box2]
  · intro k hk x
    match k, hk with
    | 0, _ => simp
    | 1, _ => simp [box2]

set_option maxHeartbeats 1000000 in
theorem plus_lt (a b : Option Addr) (ca cb : Nat) (ds es : List Int) (m n : Bool) (w : World) (hmn : (m == n) = false) (hl : es.length ≤ 1000000) (hle : ds.length ≤ es.length) (hd : Digs ds) (he : Digs es) (hs0 : sizeV ds es < 0) (hs1 : 0 ≤ sizeV es ds) (hv : valD ds ≤ valD es) (ha : DigAt w a ds) (hb : DigAt w b es) :
    Calls Try.prog 53 #[.agg #[.bool m, .slice a ds.length ca], .agg #[.bool n, .slice b es.length cb]] w fun e w' =>
      ∃ a' c' zs, e = .returned (.agg #[.bool (n && decide (0 < zs.length)), .slice a' zs.length c']) ∧ zs.length ≤ c' ∧ (a' = none → c' = 0) ∧ DigAt w' a' zs ∧ Digs zs ∧ trimN zs zs.length = zs.length ∧ valD zs = valD es - valD ds ∧ Below w.heap.size w w' := by
  have hnm : (n == m) = false := by cases m <;> cases n <;> simp_all
  have HS := hide (fun (w' : World) (h : Below w.heap.size w w') => size_any a b ca cb ds es m n w' (by omega) (by omega) (ha.later h) (hb.later h))
  have HP := hide (fun (w' : World) (h : Below w.heap.size w w') => plus_ge b a cb ca es ds n m w' hnm hl hle he hd hs1 hv (hb.later h) (ha.later h))
  generalize sizeV ds es = sz at HS hs0
  clear ha hb hd he hv hle hs1
  go_enter Try.func53, Try.ntmps53
  go_wp2_with (first
    | (go_at_call 74; refine (unhide HS _ (below_alloc (below_alloc (below_alloc (Below.refl _ _) _) _) _)).mono ?_; rintro e w1 ⟨rfl, hb1⟩; obtain ⟨hB1, r1, s1, z1⟩ := three_boxes hb1; obtain ⟨t0, t1, _, _⟩ := box2_facts r1; obtain ⟨o0, o1, _, _⟩ := box2_facts s1; clear hb1)
    | (go_at_call 53; refine (unhide HP _ hB1).mono ?_; rintro e w2 ⟨a', c', zs, rfl, hc, hn0, hD, hdz, htz, hvz, hb2⟩; obtain ⟨x0, x1, y0, y1⟩ := box2_facts (rowIs_later z1 hb2)))
  refine bodyPost_ret (v := .agg #[.bool (n && decide (0 < zs.length)), .slice a' zs.length c']) (by simp [results, Try.results53, go_sem, *]) rfl ⟨a', c', zs, rfl, hc, hn0, ?_, hdz, htz, hvz, ?_⟩
  · exact hD.set2 (rowIs_later z1 hb2)
  · exact ((below_step hB1 hb2).setCell (by simp <;> omega) _).setCell (by simp <;> omega) _
theorem sizeV_anti {ds es : List Int} (hd : Digs ds) (he : Digs es) (ht : trimN ds ds.length = ds.length) (ht2 : trimN es es.length = es.length) : sizeV es ds = - sizeV ds es := by
  rw [sizeV_val hd he ht ht2, sizeV_val he hd ht2 ht]
  unfold cmpI
  by_cases h1 : valD ds < valD es
  · simp [h1, show ¬ valD es < valD ds by omega]
  · by_cases h2 : valD es < valD ds
    · simp [h1, h2]
    · simp [h1, h2]
theorem len_of_val {ds es : List Int} (hd : Digs ds) (he : Digs es) (ht : trimN es es.length = es.length) (h : valD es ≤ valD ds) : es.length ≤ ds.length := by
  by_cases hh : es.length ≤ ds.length
  · exact hh
  · have := val_len hd he ht (by omega); omega

theorem pos_of_val {zs : List Int} (hd : Digs zs) (ht : trimN zs zs.length = zs.length) : decide (0 < zs.length) = decide (0 < valD zs) := by
  by_cases h : zs = []
  · subst h; rfl
  · have h1 : 0 < zs.length := List.length_pos_iff.2 h
    have h2 : 0 < valD zs := by
      have h3 := valD_nonneg hd
      rcases Int.lt_or_eq_of_le h3 with h4 | h4
      · exact h4
      · exact absurd (val_zero hd ht h4.symm) h
    simp [h1, h2]

/-- x plus y. -/
theorem plus_any (vx vy : Value) (x y : Int) (w : World) (fx : Fits x) (fy : Fits y) (hx : LongV w vx x) (hy : LongV w vy y) :
    Calls Try.prog 53 #[vx, vy] w fun e w' => ∃ v, e = .returned v ∧ LongV w' v (x + y) ∧ Below w.heap.size w w' := by
  obtain ⟨a, ca, ds, rfl, h2, h3, h4, h5, h6, h7⟩ := hx
  obtain ⟨b, cb, es, rfl, k2, k3, k4, k5, k6, k7⟩ := hy
  have l1 := fits_len h5 h6 h7 fx
  have l2 := fits_len k5 k6 k7 fy
  have n1 := valD_nonneg h5
  have n2 := valD_nonneg k5
  by_cases hm : decide (x < 0) = decide (y < 0)
  · rw [← hm]
    refine (plus_same a b ca cb ds es (decide (x < 0)) w (by omega) (by omega) h5 k5 h4 k4).mono fun e w' ⟨a', c', zs, he, hc, hn, hD, hdz, htz, hvz, hb⟩ => ?_
    subst he
    refine ⟨_, rfl, ⟨a', c', zs, ?_, hc, hn, hD, hdz, htz, ?_⟩, hb⟩
    · rw [pos_of_val hdz htz, hvz]
      congr 2
      by_cases h : x < 0
      · have : y < 0 := by simpa [h] using hm.symm
        simp [h]; omega
      · have : ¬ y < 0 := by simpa [h] using hm.symm
        simp [h]; omega
    · rw [hvz]
      by_cases h : x < 0
      · have : y < 0 := by simpa [h] using hm.symm
        right; omega
      · have : ¬ y < 0 := by simpa [h] using hm.symm
        left; omega
  · have hmn : (decide (x < 0) == decide (y < 0)) = false := by simpa using hm
    have hsv := sizeV_val h5 k5 h6 k6
    have hsa := sizeV_anti h5 k5 h6 k6
    have hsg : (x < 0 ∧ ¬ y < 0) ∨ (¬ x < 0 ∧ y < 0) := by
      by_cases h : x < 0
      · left; refine ⟨h, fun hh => hm (by simp [h, hh])⟩
      · right; refine ⟨h, ?_⟩
        by_cases hh : y < 0
        · exact hh
        · exact absurd (by simp [h, hh]) hm
    by_cases hge : valD es ≤ valD ds
    · have hs0 : 0 ≤ sizeV ds es := by
        rw [hsv]; unfold cmpI
        rw [if_neg (by omega)]; split <;> omega
      refine (plus_ge a b ca cb ds es _ _ w hmn (by omega) (len_of_val h5 k5 k6 hge) h5 k5 hs0 hge h4 k4).mono fun e w' ⟨a', c', zs, he, hc, hn, hD, hdz, htz, hvz, hb⟩ => ?_
      subst he
      refine ⟨_, rfl, ⟨a', c', zs, ?_, hc, hn, hD, hdz, htz, ?_⟩, hb⟩
      · rw [pos_of_val hdz htz, hvz]
        congr 2
        rcases hsg with ⟨s1, s2⟩ | ⟨s1, s2⟩
        · simp [s1]; omega
        · simp [s1]; omega
      · rw [hvz]; omega
    · have hs0 : sizeV ds es < 0 := by
        rw [hsv]; unfold cmpI
        rw [if_pos (by omega)]; omega
      refine (plus_lt a b ca cb ds es _ _ w hmn (by omega) (len_of_val k5 h5 h6 (by omega)) h5 k5 hs0 (by omega) (by omega) h4 k4).mono fun e w' ⟨a', c', zs, he, hc, hn, hD, hdz, htz, hvz, hb⟩ => ?_
      subst he
      refine ⟨_, rfl, ⟨a', c', zs, ?_, hc, hn, hD, hdz, htz, ?_⟩, hb⟩
      · rw [pos_of_val hdz htz, hvz]
        congr 2
        rcases hsg with ⟨s1, s2⟩ | ⟨s1, s2⟩
        · simp [s2]; omega
        · simp [s2]; omega
      · rw [hvz]; omega
end Go.Proofs.Ytdinkopfdnjpmaa

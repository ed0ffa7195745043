import Derived.Test.YtmjeiepljlepbacGreatCellQ
set_option linter.unusedSimpArgs false
set_option linter.unusedVariables false
set_option maxRecDepth 100000
namespace Go.Proofs.YtmjeiepljlepbacGreat
open Go.RowKit Go.Sort

/-- The digits of a long, as they lie in memory. -/
def DigAt (w : World) (a : Option Addr) (ds : List Int) : Prop :=
  ds = [] ∨ ∃ b off, a = some ⟨b, off, none⟩ ∧ ∀ i x, ds[i]? = some x → w.cell? ⟨b, off + i, none⟩ = some (.int .u32 x)
theorem DigAt.later {w w' : World} {a : Option Addr} {ds : List Int} (h : DigAt w a ds) (hb : Below w.heap.size w w') : DigAt w' a ds := by
  rcases h with h | ⟨b, off, ha, h⟩
  · exact .inl h
  · exact .inr ⟨b, off, ha, fun i x hx => cell_later hb (h i x hx)⟩
theorem DigAt.take {w : World} {a : Option Addr} {ds : List Int} (h : DigAt w a ds) (n : Nat) : DigAt w a (ds.take n) := by
  rcases h with h | ⟨b, off, ha, h⟩
  · subst h; exact .inl (by simp)
  · exact .inr ⟨b, off, ha, fun i x hx => h i x (by
      by_cases hi : i < n
      · rwa [List.getElem?_take_of_lt hi] at hx
      · rw [List.getElem?_take, if_neg hi] at hx; cases hx)⟩
def dig (ds : List Int) (i : Nat) : Int := (ds[i]?).getD 0

theorem digit_any (a : Option Addr) (cap : Nat) (ds : List Int) (m : Bool) (i : Nat) (w : World) (hl : ds.length ≤ 1000000000) (hi : i ≤ 1000000000) (ha : DigAt w a ds) :
    Calls Tryz.prog 204 #[.agg #[.bool m, .slice a ds.length cap], .int .i64 i] w fun e w' => e = .returned (.int .u32 (dig ds i)) ∧ Below w.heap.size w w' := by
  have hb0 := below_alloc (Below.refl w.heap.size w) (.cells #[.bool m, .slice a ds.length cap] 159)
  by_cases h : i < ds.length
  · obtain ⟨x, hx⟩ : ∃ x, ds[i]? = some x := ⟨_, List.getElem?_eq_getElem h⟩
    have e : dig ds i = x := by simp [dig, hx]
    rw [e]
    have ha' := ha.later hb0
    rcases ha' with e | ⟨b, off, rfl, hc⟩
    · subst e; simp at h
    have hc1 := hc i x hx
    have i1 : (i : Int) < (ds.length : Int) := by omega
    clear hx ha hc e
    go_enter Tryz.func204, Tryz.ntmps204
    go_wp2
    go_ret
    exact ⟨rfl, hb0⟩
  · have e : dig ds i = 0 := by simp [dig, List.getElem?_eq_none (Nat.le_of_not_lt h)]
    rw [e]
    have i1 : ¬ (i : Int) < (ds.length : Int) := by omega
    clear ha
    go_enter Tryz.func204, Tryz.ntmps204
    go_wp2
    go_ret
    exact ⟨rfl, hb0⟩

/-- Without the zeros at the end. -/
def trimN (ds : List Int) : Nat → Nat
  | 0 => 0
  | n + 1 => if dig ds n = 0 then trimN ds n else n + 1
theorem trimN_le (ds : List Int) : ∀ n, trimN ds n ≤ n
  | 0 => Nat.le_refl _
  | n + 1 => by rw [trimN]; split; exact Nat.le_succ_of_le (trimN_le ds n); exact Nat.le_refl _
theorem dig_some {ds : List Int} {i : Nat} {x : Int} (h : ds[i]? = some x) : dig ds i = x := by simp [dig, h]

set_option maxHeartbeats 1000000 in
theorem trimmed_any (a : Option Addr) (cap : Nat) (ds : List Int) (m : Bool) (w : World) (hl : ds.length ≤ 1000000000) (hcap : ds.length ≤ cap) (ha : DigAt w a ds) :
    Calls Tryz.prog 156 #[.agg #[.bool m, .slice a ds.length cap]] w fun e w' => e = .returned (.agg #[.bool (m && decide (0 < trimN ds ds.length)), .slice a (trimN ds ds.length) cap]) ∧ Below w.heap.size w w' := by
  obtain ⟨T, hT⟩ : ∃ T, Hid (T = trimN ds ds.length) := ⟨_, rfl⟩
  rw [← unhide hT]
  go_enter Tryz.func156, Tryz.ntmps156
  go_wp2_with fail
  go_loopw [3] (fun i wx => ∃ k : Nat, k ≤ ds.length ∧ i = .int .i64 k ∧ Hid (T = trimN ds k) ∧ wx = (w.alloc (.cells #[.bool m, .slice a ds.length cap] 159)).alloc (.cells #[.bool false, .slice none 0 0] 159)) (fun i wx => (intOf i).toNat)
  case atStart => exact ⟨_, Nat.le_refl _, rfl, hT, rfl⟩
  case round =>
    obtain ⟨k, hk, rfl, HT, rfl⟩ := hrel
    have hb0 := below_alloc (below_alloc (Below.refl w.heap.size w) (.cells #[.bool m, .slice a ds.length cap] 159)) (.cells #[.bool false, .slice none 0 0] 159)
    cases k with
    | zero =>
      have E : Hid (T = 0) := unhide HT
      clear HT ha
      have i3 : (0 : Int) ≤ (cap : Int) := by omega
      go_wp2
      refine bodyPost_ret (v := .agg #[.bool false, .slice a 0 cap]) (by simp [results, Tryz.results156, go_sem]) rfl ⟨by rw [unhide E]; simp, ?_⟩
      (repeat (first | exact Below.refl _ _ | refine Below.alloc ?_ (by simp <;> omega) _ | refine Below.drew ?_ | refine Below.setCell ?_ (by simp <;> omega) _ | refine Below.trans ?_ (Below.mono (by assumption) (by first | omega | (simp; omega) | (simp; done)))))
    | succ k =>
      have h : k < ds.length := by omega
      obtain ⟨x, hx⟩ : ∃ x, ds[k]? = some x := ⟨_, List.getElem?_eq_getElem h⟩
      have ha' := ha.later hb0
      rcases ha' with e | ⟨b, off, rfl, hc⟩
      · subst e; simp at h
      have hc1 := hc k x hx
      have i1 : (k : Int) < (ds.length : Int) := by omega
      have hd := dig_some hx
      have i2 : (0 : Int) < ((k + 1 : Nat) : Int) := by omega
      have i5 : (((k : Int) + 1) == 0) = false := by simp; omega
      have i5' : (((k + 1 : Nat) : Int) == 0) = false := by simp; omega
      have i4 : ((k + 1 : Nat) : Int) - 1 = (k : Int) := by omega
      clear hc hx
      by_cases h0 : x = 0
      · have h0' : (x == 0) = true := by simpa using h0
        have HT2 : Hid (T = trimN ds k) := by have := unhide HT; rw [trimN, if_pos (by omega)] at this; exact this
        clear HT h0 hd ha
        go_wp2
        exact ⟨⟨k, by omega, rfl, HT2, trivial⟩, by simp [intOf]⟩
      · have h0' : (x == 0) = false := by simpa using h0
        have HT2 : Hid (T = k + 1) := by have := unhide HT; rw [trimN, if_neg (by omega)] at this; exact this
        clear HT h0 hd ha
        go_wp2
        refine bodyPost_ret (v := .agg #[.bool m, .slice (some ⟨b, off, none⟩) (k + 1) cap]) (by simp [results, Tryz.results156, go_sem]) rfl ⟨by rw [unhide HT2]; simp, ?_⟩
        (repeat (first | exact Below.refl _ _ | refine Below.alloc ?_ (by simp <;> omega) _ | refine Below.drew ?_ | refine Below.setCell ?_ (by simp <;> omega) _ | refine Below.trans ?_ (Below.mono (by assumption) (by first | omega | (simp; omega) | (simp; done)))))
end Go.Proofs.YtmjeiepljlepbacGreat
set_option linter.unusedSimpArgs false
set_option linter.unusedVariables false
set_option maxRecDepth 100000
namespace Go.Proofs.YtmjeiepljlepbacGreat
open Go.RowKit Go.Sort

/-- The order of two lists of digits of one length, from place n downward. -/
def sizeN (ds es : List Int) : Nat → Int
  | 0 => 0
  | n + 1 => if dig ds n = dig es n then sizeN ds es n else rcmpI (decide (dig ds n < dig es n)) false
def sizeV (ds es : List Int) : Int := if ds.length = es.length then sizeN ds es ds.length else rcmpI (decide (ds.length < es.length)) false

set_option maxHeartbeats 1000000 in
theorem size_anyL (a b : Option Addr) (ca cb : Nat) (ds es : List Int) (m n : Bool) (w : World) (hl : ds.length ≤ 1000000000) (hl2 : es.length ≤ 1000000000) (ha : DigAt w a ds) (hb : DigAt w b es) :
    Calls Tryz.prog 205 #[.agg #[.bool m, .slice a ds.length ca], .agg #[.bool n, .slice b es.length cb]] w fun e w' => e = .returned (.int .i64 (sizeV ds es)) ∧ Below w.heap.size w w' := by
  obtain ⟨T, hT⟩ : ∃ T, Hid (T = sizeV ds es) := ⟨_, rfl⟩
  rw [← unhide hT]
  have hb0 := below_alloc (below_alloc (Below.refl w.heap.size w) (.cells #[.bool m, .slice a ds.length ca] 159)) (.cells #[.bool n, .slice b es.length cb] 159)
  by_cases he : ds.length = es.length
  · have he' : ((ds.length : Int) != (es.length : Int)) = false := by simp; omega
    have HT : Hid (T = sizeN ds es ds.length) := by have := unhide hT; rw [sizeV, if_pos he] at this; exact this
    clear hT
    have HE := hide he
    clear he
    go_enter Tryz.func205, Tryz.ntmps205
    go_wp2_with fail
    go_loopw [5] (fun i wx => ∃ k : Nat, k ≤ ds.length ∧ i = .int .i64 ((k : Int) - 1) ∧ Hid (T = sizeN ds es k) ∧ wx.cell? ⟨w.heap.size, 1, none⟩ = some (.slice a ds.length ca) ∧ wx.cell? ⟨w.heap.size + 1, 1, none⟩ = some (.slice b es.length cb) ∧ Below w.heap.size w wx) (fun i wx => (intOf i + 1).toNat)
    case atStart => exact ⟨_, Nat.le_refl _, rfl, HT, by simp [go_sem], by simp [go_sem], hb0⟩
    case round =>
      obtain ⟨k, hk, rfl, HT2, x1, y1, hbel⟩ := hrel
      clear HT
      cases k with
      | zero =>
        have E : Hid (T = 0) := unhide HT2
        clear HT2 ha hb
        go_wp2
        go_ret
        exact ⟨by rw [unhide E]; rfl, hbel⟩
      | succ k =>
        have h : k < ds.length := by omega
        have h2 : k < es.length := by have := unhide HE; omega
        obtain ⟨x, hx⟩ : ∃ x, ds[k]? = some x := ⟨_, List.getElem?_eq_getElem h⟩
        obtain ⟨y, hy⟩ : ∃ y, es[k]? = some y := ⟨_, List.getElem?_eq_getElem h2⟩
        have ha' := ha.later hbel
        have hb' := hb.later hbel
        rcases ha' with e | ⟨ba, oa, rfl, hc⟩
        · subst e; simp at h
        rcases hb' with e | ⟨bb, ob, rfl, hc2⟩
        · subst e; simp at h2
        have c1 := hc k x hx
        have c2 := hc2 k y hy
        have i1 : (k : Int) < (ds.length : Int) := by omega
        have i2 : (k : Int) < (es.length : Int) := by omega
        have i4 : ((k + 1 : Nat) : Int) - 1 = (k : Int) := by omega
        have HS : Hid (T = if x = y then sizeN ds es k else rcmpI (decide (x < y)) false) := by have := unhide HT2; rw [sizeN, dig_some hx, dig_some hy] at this; exact this
        clear hc hc2 hx hy ha hb HT2
        have k0 := cell_regrown c1
        have k1 := cell_regrown c2
        have k2 := cell_regrown x1
        have k3 := cell_regrown y1
        rw [i4]
        go_wp2_with fail
        refine wp_region_quiet_below (by kernel_rfl) (by kernel_rfl) ?_
        repeat (go_big_quiet_step (fail))
        refine wpQuiet_nil ?_
        intro w' hw'
        have hB : Below wr.heap.size wr w' := by obtain ⟨p, rfl⟩ := hw'; exact below_regrown _ _ _
        clear hw'
        have hbel' := below_step hbel hB
        have c1' := cell_later hB c1
        have c2' := cell_later hB c2
        have x1' := cell_later hB x1
        have y1' := cell_later hB y1
        clear k0 k1 k2 k3
        by_cases hxy : x = y
        · have hxy' : (x != y) = false := by simpa using hxy
          have HT3 : Hid (T = sizeN ds es k) := by have := unhide HS; rw [if_pos hxy] at this; exact this
          clear HS hxy
          go_wp2
          go_roundw
          case rel => exact ⟨k, by omega, by go_num, HT3, x1', y1', hbel'⟩
          case measure => simp [intOf]
        · have hxy' : (x != y) = true := by simpa using hxy
          have HT3 : Hid (T = rcmpI (decide (x < y)) false) := by have := unhide HS; rw [if_neg hxy] at this; exact this
          clear HS hxy c1 c2 x1 y1
          have k0 := cell_regrown c1'
          have k1 := cell_regrown c2'
          have k2 := cell_regrown x1'
          have k3 := cell_regrown y1'
          go_wp2_with fail
          refine wp_region_quiet_below (by kernel_rfl) (by kernel_rfl) ?_
          repeat (go_big_quiet_step ((go_at_call 206; exact Calls.regrown_of ((rcmp_d _ _ _).mono (by rintro e w1 ⟨rfl, rfl⟩; exact ⟨rfl, Below.refl _ _⟩)))))
          refine wpQuiet_nil ?_
          intro w2 hw2
          have hB2 : Below w'.heap.size w' w2 := by obtain ⟨p, rfl⟩ := hw2; exact below_regrown _ _ _
          clear hw2
          go_wp2
          go_ret
          exact ⟨by rw [unhide HT3]; rfl, below_step hbel' hB2⟩
  · have he' : ((ds.length : Int) != (es.length : Int)) = true := by simp; omega
    have HT : Hid (T = rcmpI (decide ((ds.length : Int) < (es.length : Int))) false) := by have := unhide hT; rw [sizeV, if_neg he] at this; rw [this]; show _ = _; congr 2; simp
    clear hT ha hb
    go_enter Tryz.func205, Tryz.ntmps205
    go_wp2_with (go_at_call 206; refine (rcmp_d _ _ _).mono ?_; rintro e w1 ⟨rfl, rfl⟩)
    go_ret
    refine ⟨?_, hb0⟩
    rw [unhide HT]
    refine congrArg (fun z => Ending.returned (Value.int IntKind.i64 z)) ?_
    simp
end Go.Proofs.YtmjeiepljlepbacGreat

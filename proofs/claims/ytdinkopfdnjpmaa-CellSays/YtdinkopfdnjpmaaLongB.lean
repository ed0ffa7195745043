import Derived.Test.YtdinkopfdnjpmaaLongA
set_option linter.unusedSimpArgs false
set_option linter.unusedVariables false
namespace Go.Proofs.Ytdinkopfdnjpmaa
open Go.RowKit Go.Sort

/-- The order of two lists of digits of one length, from place n downward. -/
def sizeN (ds es : List Int) : Nat → Int
  | 0 => 0
  | n + 1 => if dig ds n = dig es n then sizeN ds es n else rcmpI (decide (dig ds n < dig es n)) false
def sizeV (ds es : List Int) : Int := if ds.length = es.length then sizeN ds es ds.length else rcmpI (decide (ds.length < es.length)) false

set_option maxHeartbeats 1000000 in
theorem size_any (a b : Option Addr) (ca cb : Nat) (ds es : List Int) (m n : Bool) (w : World) (hl : ds.length ≤ 1000000000) (hl2 : es.length ≤ 1000000000) (ha : DigAt w a ds) (hb : DigAt w b es) :
    Calls Try.prog 74 #[.agg #[.bool m, .slice a ds.length ca], .agg #[.bool n, .slice b es.length cb]] w fun e w' => e = .returned (.int .i64 (sizeV ds es)) ∧ Below w.heap.size w w' := by
  obtain ⟨T, hT⟩ : ∃ T, Hid (T = sizeV ds es) := ⟨_, rfl⟩
  rw [← unhide hT]
  have hb0 := below_alloc (below_alloc (Below.refl w.heap.size w) (.cells #[.bool m, .slice a ds.length ca] 58)) (.cells #[.bool n, .slice b es.length cb] 58)
  by_cases he : ds.length = es.length
  · have he' : ((ds.length : Int) != (es.length : Int)) = false := by simp; omega
    have HT : Hid (T = sizeN ds es ds.length) := by have := unhide hT; rw [sizeV, if_pos he] at this; exact this
    clear hT
    have HE := hide he
    clear he
    go_enter Try.func74, Try.ntmps74
    go_wp2_with fail
    go_loopw [5] (fun i wx => ∃ k : Nat, k ≤ ds.length ∧ i = .int .i64 ((k : Int) - 1) ∧ Hid (T = sizeN ds es k) ∧ wx.cell? ⟨w.heap.size, 1, none⟩ = some (.slice a ds.length ca) ∧ wx.cell? ⟨w.heap.size + 1, 1, none⟩ = some (.slice b es.length cb) ∧ Below w.heap.size w wx) (fun i wx => (intOf i + 1).toNat)
    case atStart => exact ⟨_, Nat.le_refl _, rfl, HT, by simp [go_sem], by simp [go_sem], hb0⟩
    case round =>
      obtain ⟨k, hk, rfl, HT2, x1, y1, hbel⟩ := hrel
      clear HT
      cases k with
      | zero =>
        have E : Hid (T = 0) := unhide HT2
        clear HT2 ha hb
        go_wp2
        go_ret
        exact ⟨by rw [unhide E]; rfl, hbel⟩
      | succ k =>
        have h : k < ds.length := by omega
        have h2 : k < es.length := by have := unhide HE; omega
        obtain ⟨x, hx⟩ : ∃ x, ds[k]? = some x := ⟨_, List.getElem?_eq_getElem h⟩
        obtain ⟨y, hy⟩ : ∃ y, es[k]? = some y := ⟨_, List.getElem?_eq_getElem h2⟩
        have ha' := ha.later hbel
        have hb' := hb.later hbel
        rcases ha' with e | ⟨ba, oa, rfl, hc⟩
        · subst e; simp at h
        rcases hb' with e | ⟨bb, ob, rfl, hc2⟩
        · subst e; simp at h2
        have c1 := hc k x hx
        have c2 := hc2 k y hy
        have i1 : (k : Int) < (ds.length : Int) := by omega
        have i2 : (k : Int) < (es.length : Int) := by omega
        have i4 : ((k + 1 : Nat) : Int) - 1 = (k : Int) := by omega
        have HS : Hid (T = if x = y then sizeN ds es k else rcmpI (decide (x < y)) false) := by have := unhide HT2; rw [sizeN, dig_some hx, dig_some hy] at this; exact this
        clear hc hc2 hx hy ha hb HT2
        have k0 := cell_regrown c1
        have k1 := cell_regrown c2
        have k2 := cell_regrown x1
        have k3 := cell_regrown y1
        rw [i4]
        go_wp2_with fail
        refine wp_region_quiet_below (by kernel_rfl) (by kernel_rfl) ?_
        repeat (go_big_quiet_step (fail))
        refine wpQuiet_nil ?_
        intro w' hw'
        have hB : Below wr.heap.size wr w' := by obtain ⟨p, rfl⟩ := hw'; exact below_regrown _ _ _
        clear hw'
        have hbel' := below_step hbel hB
        have c1' := cell_later hB c1
        have c2' := cell_later hB c2
        have x1' := cell_later hB x1
        have y1' := cell_later hB y1
        clear k0 k1 k2 k3
        by_cases hxy : x = y
        · have hxy' : (x != y) = false := by simpa using hxy
          have HT3 : Hid (T = sizeN ds es k) := by have := unhide HS; rw [if_pos hxy] at this; exact this
          clear HS hxy
          go_wp2
          go_roundw
          case rel => exact ⟨k, by omega, by go_num, HT3, x1', y1', hbel'⟩
          case measure => simp [intOf]
        · have hxy' : (x != y) = true := by simpa using hxy
          have HT3 : Hid (T = rcmpI (decide (x < y)) false) := by have := unhide HS; rw [if_neg hxy] at this; exact this
          clear HS hxy c1 c2 x1 y1
          have k0 := cell_regrown c1'
          have k1 := cell_regrown c2'
          have k2 := cell_regrown x1'
          have k3 := cell_regrown y1'
          go_wp2_with fail
          refine wp_region_quiet_below (by kernel_rfl) (by kernel_rfl) ?_
          repeat (go_big_quiet_step ((go_at_call 47; exact Calls.regrown_of ((rcmp_d _ _ _).mono (by rintro e w1 ⟨rfl, rfl⟩; exact ⟨rfl, Below.refl _ _⟩)))))
          refine wpQuiet_nil ?_
          intro w2 hw2
          have hB2 : Below w'.heap.size w' w2 := by obtain ⟨p, rfl⟩ := hw2; exact below_regrown _ _ _
          clear hw2
          go_wp2
          go_ret
          exact ⟨by rw [unhide HT3]; rfl, below_step hbel' hB2⟩
  · have he' : ((ds.length : Int) != (es.length : Int)) = true := by simp; omega
    have HT : Hid (T = rcmpI (decide ((ds.length : Int) < (es.length : Int))) false) := by have := unhide hT; rw [sizeV, if_neg he] at this; rw [this]; show _ = _; congr 2; simp
    clear hT ha hb
    go_enter Try.func74, Try.ntmps74
    go_wp2_with (go_at_call 47; refine (rcmp_d _ _ _).mono ?_; rintro e w1 ⟨rfl, rfl⟩)
    go_ret
    refine ⟨?_, hb0⟩
    rw [unhide HT]
    refine congrArg (fun z => Ending.returned (Value.int IntKind.i64 z)) ?_
    simp
end Go.Proofs.Ytdinkopfdnjpmaa

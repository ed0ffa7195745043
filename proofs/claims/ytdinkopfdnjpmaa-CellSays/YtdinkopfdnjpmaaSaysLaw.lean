import Derived.Test.YtdinkopfdnjpmaaLongR
import Derived.Test.YtdinkopfdnjpmaaCellR
import Derived.Test.YtdinkopfdnjpmaaCellS
import Derived.Lib.QuietBelow
import Derived.Deep.DeepCutAuto
import Derived.Deep.DrawnRows
set_option linter.unusedSimpArgs false
set_option linter.unusedVariables false
namespace Go.Proofs.Ytdinkopfdnjpmaa
open Go.RowKit Go.Sort

theorem clean_o (x c : Val) (h : cleanV x = c) (w : World) : Calls Try.prog 9 #[.agg #[.int .i64 x.k, .int .i64 x.n, .string x.s]] w fun e w' => e = .returned (.agg #[.int .i64 c.k, .int .i64 c.n, .string c.s]) ∧ Below w.heap.size w w' := h ▸ clean_any x w
theorem rclean_o (x c : Val) (h : cleanV x = c) (w : World) : Calls Try.prog 10 #[.agg #[.int .i64 x.k, .int .i64 x.n, .string x.s]] w fun e w' => e = .returned (.agg #[.int .i64 c.k, .int .i64 c.n, .string c.s]) ∧ Below w.heap.size w w' := h ▸ rclean_any x w
theorem order_o (x y : Val) (o : Int) (h : ordV x y = o) (w : World) : Calls Try.prog 11 #[.agg #[.int .i64 x.k, .int .i64 x.n, .string x.s], .agg #[.int .i64 y.k, .int .i64 y.n, .string y.s]] w fun e w' => e = .returned (.int .i64 o) ∧ Below w.heap.size w w' := h ▸ order_any x y w
theorem rorder_o (x y : Val) (o : Int) (h : ordV x y = o) (w : World) : Calls Try.prog 12 #[.agg #[.int .i64 x.k, .int .i64 x.n, .string x.s], .agg #[.int .i64 y.k, .int .i64 y.n, .string y.s]] w fun e w' => e = .returned (.int .i64 o) ∧ Below w.heap.size w w' := h ▸ rorder_any x y w
theorem test_o (op : Int) (x y r : Val) (h : testV op x y = r) (w : World) : Calls Try.prog 13 #[.int .i64 op, .agg #[.int .i64 x.k, .int .i64 x.n, .string x.s], .agg #[.int .i64 y.k, .int .i64 y.n, .string y.s]] w fun e w' => e = .returned (.agg #[.int .i64 r.k, .int .i64 r.n, .string r.s]) ∧ Below w.heap.size w w' := h ▸ test_any op x y w
theorem rtest_o (op : Int) (x y r : Val) (h : testV op x y = r) (w : World) : Calls Try.prog 14 #[.int .i64 op, .agg #[.int .i64 x.k, .int .i64 x.n, .string x.s], .agg #[.int .i64 y.k, .int .i64 y.n, .string y.s]] w fun e w' => e = .returned (.agg #[.int .i64 r.k, .int .i64 r.n, .string r.s]) ∧ Below w.heap.size w w' := h ▸ rtest_any op x y w
theorem reckon_o (op : Int) (x y r : Val) (hx : In64 x.n) (hy : In64 y.n) (h : reckV op x y = r) (w : World) : Calls Try.prog 15 #[.int .i64 op, .agg #[.int .i64 x.k, .int .i64 x.n, .string x.s], .agg #[.int .i64 y.k, .int .i64 y.n, .string y.s]] w fun e w' => e = .returned (.agg #[.int .i64 r.k, .int .i64 r.n, .string r.s]) ∧ Below w.heap.size w w' := h ▸ reckon_any op x y hx hy w
theorem rreckon_o (op : Int) (x y r : Val) (hx : In64 x.n) (hy : In64 y.n) (h : reckV op x y = r) (w : World) : Calls Try.prog 16 #[.int .i64 op, .agg #[.int .i64 x.k, .int .i64 x.n, .string x.s], .agg #[.int .i64 y.k, .int .i64 y.n, .string y.s]] w fun e w' => e = .returned (.agg #[.int .i64 r.k, .int .i64 r.n, .string r.s]) ∧ Below w.heap.size w w' := h ▸ rreckon_any op x y hx hy w
theorem cat_o (x y r : Val) (hx : x.s.size ≤ 140737488355328) (hy : y.s.size ≤ 140737488355328) (h : catV x y = r) (w : World) : Calls Try.prog 17 #[.agg #[.int .i64 x.k, .int .i64 x.n, .string x.s], .agg #[.int .i64 y.k, .int .i64 y.n, .string y.s]] w fun e w' => e = .returned (.agg #[.int .i64 r.k, .int .i64 r.n, .string r.s]) ∧ Below w.heap.size w w' := h ▸ cat_any x y w hx hy
theorem rcat_o (x y r : Val) (hx : x.s.size ≤ 140737488355328) (hy : y.s.size ≤ 140737488355328) (h : catV x y = r) (w : World) : Calls Try.prog 18 #[.agg #[.int .i64 x.k, .int .i64 x.n, .string x.s], .agg #[.int .i64 y.k, .int .i64 y.n, .string y.s]] w fun e w' => e = .returned (.agg #[.int .i64 r.k, .int .i64 r.n, .string r.s]) ∧ Below w.heap.size w w' := h ▸ rcat_any x y w hx hy
theorem true_o (x : Val) (t : Bool) (h : trueB x = t) (w : World) : Calls Try.prog 19 #[.agg #[.int .i64 x.k, .int .i64 x.n, .string x.s]] w fun e w' => e = .returned (.bool t) ∧ Below w.heap.size w w' := h ▸ true_any x w
theorem rtrue_o (x : Val) (t : Bool) (h : trueB x = t) (w : World) : Calls Try.prog 20 #[.agg #[.int .i64 x.k, .int .i64 x.n, .string x.s]] w fun e w' => e = .returned (.bool t) ∧ Below w.heap.size w w' := h ▸ rtrue_any x w
theorem not_o (x r : Val) (h : notV x = r) (w : World) : Calls Try.prog 21 #[.agg #[.int .i64 x.k, .int .i64 x.n, .string x.s]] w fun e w' => e = .returned (.agg #[.int .i64 r.k, .int .i64 r.n, .string r.s]) ∧ Below w.heap.size w w' := h ▸ not_any x w
theorem rnot_o (x r : Val) (h : notV x = r) (w : World) : Calls Try.prog 22 #[.agg #[.int .i64 x.k, .int .i64 x.n, .string x.s]] w fun e w' => e = .returned (.agg #[.int .i64 r.k, .int .i64 r.n, .string r.s]) ∧ Below w.heap.size w w' := h ▸ rnot_any x w
theorem both_o (op : Int) (x y r : Val) (h : bothV op x y = r) (w : World) : Calls Try.prog 23 #[.int .i64 op, .agg #[.int .i64 x.k, .int .i64 x.n, .string x.s], .agg #[.int .i64 y.k, .int .i64 y.n, .string y.s]] w fun e w' => e = .returned (.agg #[.int .i64 r.k, .int .i64 r.n, .string r.s]) ∧ Below w.heap.size w w' := h ▸ both_any op x y w
theorem rboth_o (op : Int) (x y r : Val) (h : bothV op x y = r) (w : World) : Calls Try.prog 24 #[.int .i64 op, .agg #[.int .i64 x.k, .int .i64 x.n, .string x.s], .agg #[.int .i64 y.k, .int .i64 y.n, .string y.s]] w fun e w' => e = .returned (.agg #[.int .i64 r.k, .int .i64 r.n, .string r.s]) ∧ Below w.heap.size w w' := h ▸ rboth_any op x y w

set_option maxHeartbeats 8000000 in
set_option maxRecDepth 100000 in
theorem law_says (op : Int) (a b : Val) (w : World) (ha : In64 a.n) (hb : In64 b.n) (sa : a.s.size ≤ 140737488355328) (sb : b.s.size ≤ 140737488355328) :
    Calls Try.prog 3 #[.int .i64 op, a.v, b.v] w fun e w' => e = .returned (.bool true) ∧ Below w.heap.size w w' := by
  rw [a.open_, b.open_]
  obtain ⟨c, hc⟩ : ∃ c, cleanV a = c := ⟨_, rfl⟩
  obtain ⟨d, hd⟩ : ∃ d, cleanV b = d := ⟨_, rfl⟩
  obtain ⟨o, ho⟩ : ∃ o, ordV a b = o := ⟨_, rfl⟩
  obtain ⟨t, ht⟩ : ∃ t, testV op a b = t := ⟨_, rfl⟩
  obtain ⟨r, hr⟩ : ∃ r, reckV op a b = r := ⟨_, rfl⟩
  obtain ⟨g, hg⟩ : ∃ g, catV a b = g := ⟨_, rfl⟩
  obtain ⟨tr, htr⟩ : ∃ tr, trueB a = tr := ⟨_, rfl⟩
  obtain ⟨nn, hnn⟩ : ∃ nn, notV a = nn := ⟨_, rfl⟩
  obtain ⟨m, hm⟩ : ∃ m, bothV op a b = m := ⟨_, rfl⟩
  have H9 := hide (clean_o a c hc)
  have H10 := hide (rclean_o a c hc)
  have H10b := hide (rclean_o b d hd)
  have H11 := hide (order_o a b o ho)
  have H12 := hide (rorder_o a b o ho)
  have H13 := hide (test_o op a b t ht)
  have H14 := hide (rtest_o op a b t ht)
  have H15 := hide (reckon_o op a b r ha hb hr)
  have H16 := hide (rreckon_o op a b r ha hb hr)
  have H17 := hide (cat_o a b g sa sb hg)
  have H18 := hide (rcat_o a b g sa sb hg)
  have H19 := hide (true_o a tr htr)
  have H20 := hide (rtrue_o c tr (by rw [← hc, true_clean]; exact htr))
  have H21 := hide (not_o a nn hnn)
  have H22 := hide (rnot_o c nn (by rw [← hc, not_clean]; exact hnn))
  have H23 := hide (both_o op a b m hm)
  have H24 := hide (rboth_o op c d m (by rw [← hc, ← hd, both_clean]; exact hm))
  clear hc hd ho ht hr hg htr hnn hm ha hb sa sb
  go_enter Try.func3, Try.ntmps3
  go_upto_region 1 with fail
  obtain ⟨⟨p0, p1, p2⟩, ⟨p3, p4, p5⟩, _⟩ := boxes_facts (w := w) (a := a) (b := b) (Below.refl _ _)
  have hb0 := boxes_below (w := w) (a := a) (b := b) (Below.refl _ _)
  unfold boxes at p0 p1 p2 p3 p4 p5 hb0
  obtain ⟨wa, hwa⟩ : ∃ wa, Hid (wa = (w.alloc (.cells #[.int .i64 a.k, .int .i64 a.n, .string a.s] 23)).alloc (.cells #[.int .i64 b.k, .int .i64 b.n, .string b.s] 23)) := ⟨_, rfl⟩
  rw [← unhide hwa] at p0 p1 p2 p3 p4 p5 hb0 ⊢
  clear hwa
  go_cut [44] (fun s44 wx => s44 = .bool false ∧ Below wa.heap.size wa wx)
  case first =>
    have k0 := cell_regrown p0
    have k1 := cell_regrown p1
    have k2 := cell_regrown p2
    have k3 := cell_regrown p3
    have k4 := cell_regrown p4
    have k5 := cell_regrown p5
    clear H17 H18 H19 H20 H21 H22 H23 H24 H10b p0 p1 p2 p3 p4 p5
    refine wp_region_quiet_below (by kernel_rfl) (by kernel_rfl) ?_
    repeat (go_big_quiet_step (first
      | (go_at_call 9; exact Calls.regrown_of (unhide H9 _))
      | (go_at_call 10; exact Calls.regrown_of (unhide H10 _))
      | (go_at_call 11; exact Calls.regrown_of (unhide H11 _))
      | (go_at_call 12; exact Calls.regrown_of (unhide H12 _))
      | (go_at_call 13; exact Calls.regrown_of (unhide H13 _))
      | (go_at_call 14; exact Calls.regrown_of (unhide H14 _))
      | (go_at_call 15; exact Calls.regrown_of (unhide H15 _))
      | (go_at_call 16; exact Calls.regrown_of (unhide H16 _))))
    refine wpQuiet_nil ?_
    intro w' hw'
    have hB : Below wa.heap.size wa w' := by obtain ⟨p, rfl⟩ := hw'; exact below_regrown _ _ _
    clear hw'
    go_wp2
    go_meet
    exact ⟨rfl, hB⟩
  case rest =>
    obtain ⟨rfl, hB⟩ := hcut
    have hw := below_step hb0 hB
    have A1 : BoxAt wa w.heap.size a := ⟨p0, p1, p2⟩
    have A2 : BoxAt wa (w.heap.size + 1) b := ⟨p3, p4, p5⟩
    replace A1 := A1.later hB
    replace A2 := A2.later hB
    clear hB H9 H11 H12 H13 H14 H15 H16 p0 p1 p2 p3 p4 p5 hb0
    rename World => wb
    have HA1 := hide A1
    have HA2 := hide A2
    have hlt : w.heap.size + 1 < wb.heap.size := by
      have h0 := A2.1
      refine Nat.lt_of_not_le fun hh => ?_
      simp [World.cell?, Array.getElem?_eq_none hh] at h0
    obtain ⟨p0, p1, p2⟩ := A1
    obtain ⟨p3, p4, p5⟩ := A2
    go_upto_region 5 with (first
      | (go_at_call_of 10 (Value.agg #[Value.int IntKind.i64 a.k, Value.int IntKind.i64 a.n, Value.string a.s]); refine (unhide H10 _).mono ?_; rintro e w1 ⟨rfl, hb1⟩; have hs1 := hb1.size; have hlt1 : w.heap.size + 1 < w1.heap.size := (by omega); obtain ⟨p3, p4, p5⟩ := (unhide HA2).later hb1)
      | (go_at_call_of 10 (Value.agg #[Value.int IntKind.i64 b.k, Value.int IntKind.i64 b.n, Value.string b.s]); refine (unhide H10b _).mono ?_; rintro e w2 ⟨rfl, hb2⟩)
      | fail)
    have hb3 := below_step (below_alloc hb1 (.cells #[.int .i64 c.k, .int .i64 c.n, .string c.s] 23)) hb2
    have bl := below_alloc (Below.refl _ w2) (.cells #[.int .i64 d.k, .int .i64 d.n, .string d.s] 23)
    have C1 : BoxAt (w1.alloc (.cells #[.int .i64 c.k, .int .i64 c.n, .string c.s] 23)) w1.heap.size c := ⟨by simp [go_sem], by simp [go_sem], by simp [go_sem]⟩
    have D1 : BoxAt (w2.alloc (.cells #[.int .i64 d.k, .int .i64 d.n, .string d.s] 23)) w2.heap.size d := ⟨by simp [go_sem], by simp [go_sem], by simp [go_sem]⟩
    have C2 := (C1.later hb2).later bl
    have A3 := ((unhide HA1).later hb3).later bl
    have B3 := ((unhide HA2).later hb3).later bl
    have hw2 := below_step (below_step hw hb3) bl
    obtain ⟨wc, hwc⟩ : ∃ wc, Hid (wc = w2.alloc (.cells #[.int .i64 d.k, .int .i64 d.n, .string d.s] 23)) := ⟨_, rfl⟩
    rw [← unhide hwc] at D1 C2 A3 B3 hw2 ⊢
    clear p0 p1 p2 p3 p4 p5 hb1 hb2 hb3 bl C1 hwc HA1 HA2 hw hs1 hlt hlt1 H10 H10b
    obtain ⟨p0, p1, p2⟩ := A3
    obtain ⟨p3, p4, p5⟩ := B3
    obtain ⟨p6, p7, p8⟩ := C2
    obtain ⟨p9, p10, p11⟩ := D1
    have k0 := cell_regrown p0
    have k1 := cell_regrown p1
    have k2 := cell_regrown p2
    have k3 := cell_regrown p3
    have k4 := cell_regrown p4
    have k5 := cell_regrown p5
    have k6 := cell_regrown p6
    have k7 := cell_regrown p7
    have k8 := cell_regrown p8
    have k9 := cell_regrown p9
    have k10 := cell_regrown p10
    have k11 := cell_regrown p11
    clear p0 p1 p2 p3 p4 p5 p6 p7 p8 p9 p10 p11
    refine wp_region_quiet_below (by kernel_rfl) (by kernel_rfl) ?_
    repeat (go_big_quiet_step (first
      | (go_at_call 17; exact Calls.regrown_of (unhide H17 _))
      | (go_at_call 18; exact Calls.regrown_of (unhide H18 _))
      | (go_at_call 19; exact Calls.regrown_of (unhide H19 _))
      | (go_at_call 20; exact Calls.regrown_of (unhide H20 _))
      | (go_at_call 21; exact Calls.regrown_of (unhide H21 _))
      | (go_at_call 22; exact Calls.regrown_of (unhide H22 _))
      | (go_at_call 23; exact Calls.regrown_of (unhide H23 _))
      | (go_at_call 24; exact Calls.regrown_of (unhide H24 _))))
    refine wpQuiet_nil ?_
    intro w' hw'
    have hB : Below wc.heap.size wc w' := by obtain ⟨p, rfl⟩ := hw'; exact below_regrown _ _ _
    clear hw'
    go_wp2
    go_ret
    exact ⟨rfl, below_step hw2 hB⟩
end Go.Proofs.Ytdinkopfdnjpmaa

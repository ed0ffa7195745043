import Derived.Test.YtcbenpodohjbiaaGreatSpM
set_option linter.unusedSimpArgs false
set_option linter.unusedVariables false
set_option maxRecDepth 100000
namespace Go.Proofs.YtcbenpodohjbiaaGreat
open Go.RowKit Go.Sort

set_option maxHeartbeats 2000000 in
/-- Next (99), refused. -/
theorem ynext_hit {F : Nat → Prop} {b y m : Nat} {Y : Yv} {op : Option Nat} {w : World} (i : Int) (h : Yw w b y m Y op F) (hr : Y.rd = false) (hh : Y.hit = true) (hc : Y.cd ≠ 0) :
    Calls Tryz.prog 99 #[.pointer (some ⟨y, 0, none⟩), .int .i64 i] w fun e w' => e = .returned (.tuple #[.slice none 0 0, .bool false, .int .i64 Y.cd]) ∧ Yo w w' b y m Y.tick op F := by
  obtain ⟨h1, h2, F0, ks, h3, h4, h5, h6, h7⟩ := h
  have fb := h5.1
  have c0 := h6.c0
  have HC := hide (next_hit (.int .i64 i) h5 hr hh hc)
  have HO := hide (fun w => own_no Y.cd false w (.inl rfl))
  clear h5 hr hh hc
  have hm : ∀ w : World, (method 297 24 (.pointer (some ⟨b, 0, none⟩)) "Next").run Tryz.prog w = .ok (154, .pointer (some ⟨b, 0, none⟩)) w := fun _ => by kernel_rfl
  go_enter Tryz.func99, Tryz.ntmps99
  go_wp2_with (first | (go_at_call 154; refine (unhide HC).mono ?_; rintro _ w1 ⟨rfl, hP, hK⟩) | (go_at_call 60; refine (unhide HO _).mono ?_; rintro _ w9 ⟨rfl, hw9⟩; rw [hw9]; clear hw9))
  exact bodyPost_ret (v := .tuple #[.slice none 0 0, .bool false, .int .i64 Y.cd]) (by simp [results, Tryz.results99, go_sem]) rfl ⟨rfl, Yw.call1 h1 h2 h3 h4 h6 fb h7 hP hK rfl⟩
set_option maxHeartbeats 2000000 in
/-- Next (99), behind the last row. -/
theorem ynext_end {F : Nat → Prop} {b y m : Nat} {Y : Yv} {op : Option Nat} {w : World} {i : Nat} (h : Yw w b y m Y op F) (hop : op ≠ some i) (hi : Y.there[i]? = some true) (hrs : Y.runs[i]? = some []) (hn : Y.runs.length ≤ 1048576) (hr : Y.rd = false) (hh : Y.hit = false) :
    Calls Tryz.prog 99 #[.pointer (some ⟨y, 0, none⟩), .int .i64 i] w fun e w' => e = .returned (.tuple #[.slice none 0 0, .bool false, .int .i64 0]) ∧ Yo w w' b y m Y.tick op F := by
  obtain ⟨h1, h2, F0, ks, h3, h4, h5, h6, h7⟩ := h
  have fb := h5.1
  have c0 := h6.c0
  have HC := hide (next_end h5 hop hi hrs hn hr hh)
  have HO := hide (fun w => own_no 0 false w (.inl rfl))
  clear h5 hr hh
  have hm : ∀ w : World, (method 297 24 (.pointer (some ⟨b, 0, none⟩)) "Next").run Tryz.prog w = .ok (154, .pointer (some ⟨b, 0, none⟩)) w := fun _ => by kernel_rfl
  go_enter Tryz.func99, Tryz.ntmps99
  go_wp2_with (first | (go_at_call 154; refine (unhide HC).mono ?_; rintro _ w1 ⟨rfl, hP, hK⟩) | (go_at_call 60; refine (unhide HO _).mono ?_; rintro _ w9 ⟨rfl, hw9⟩; rw [hw9]; clear hw9))
  exact bodyPost_ret (v := .tuple #[.slice none 0 0, .bool false, .int .i64 0]) (by simp [results, Tryz.results99, go_sem]) rfl ⟨rfl, Yw.call1 h1 h2 h3 h4 h6 fb h7 hP hK rfl⟩
set_option maxHeartbeats 2000000 in
/-- Next (99), of a row. -/
theorem ynext_row {F : Nat → Prop} {b y m : Nat} {Y : Yv} {op : Option Nat} {w : World} {i : Nat} {r : List Val} {rs : List (List Val)} (h : Yw w b y m Y op F) (hop : op ≠ some i) (hi : Y.there[i]? = some true) (hrs : Y.runs[i]? = some (r :: rs)) (hn : Y.runs.length ≤ 1048576) (g0 : 0 ≤ Y.held) (g1 : Y.held ≤ 1048576) (hr : Y.rd = false) (hh : Y.hit = false) :
    Calls Tryz.prog 99 #[.pointer (some ⟨y, 0, none⟩), .int .i64 i] w fun e w' => ∃ v, e = .returned (.tuple #[v, .bool true, .int .i64 0]) ∧ Rw w' v (cleanR r) ∧ Yo w w' b y m ((Y.tick.read i rs).hold 1) op F := by
  obtain ⟨h1, h2, F0, ks, h3, h4, h5, h6, h7⟩ := h
  have fb := h5.1
  have c0 := h6.c0
  have HC := hide (next_row h5 hop hi hrs hn g0 g1 hr hh)
  clear h5 hr hh
  have hm : ∀ w : World, (method 297 24 (.pointer (some ⟨b, 0, none⟩)) "Next").run Tryz.prog w = .ok (154, .pointer (some ⟨b, 0, none⟩)) w := fun _ => by kernel_rfl
  go_enter Tryz.func99, Tryz.ntmps99
  go_wp2_with (first | (go_at_call 154; refine (unhide HC).mono ?_; rintro _ w1 ⟨v1, rfl, ⟨a1, c1, rfl, hq1, hl1⟩, F1, n1, m1, hP, hK⟩; have HO := hide (own_yes a1 c1 r w1 hl1 hq1.at); clear hq1) | (go_at_call 60; refine (unhide HO).mono ?_; rintro _ w2 ⟨v2, rfl, hv2, hb2⟩))
  exact bodyPost_ret (v := .tuple #[v2, .bool true, .int .i64 0]) (by simp [results, Tryz.results99, go_sem]) rfl ⟨v2, rfl, hv2, (Yw.under h1 h2 h3 h4 h6 n1 hP hK (live_same h7 rfl)).later hb2⟩
set_option maxHeartbeats 2000000 in
/-- letGo (96). -/
theorem letGo_any {F : Nat → Prop} {b y m : Nat} {Y : Yv} {op : Option Nat} {w : World} (h : Yw w b y m Y op F) (k : Nat) (h0 : (k : Int) ≤ Y.held) (g1 : Y.held ≤ 1048576) :
    Calls Tryz.prog 96 #[.pointer (some ⟨y, 0, none⟩), .int .i64 k] w fun e w' => e = .returned (.tuple #[]) ∧ Yo w w' b y m (if k = 0 then Y else Y.hold (-(k : Int))) op F := by
  by_cases hk : k = 0
  · subst hk
    rw [if_pos rfl]
    go_enter Tryz.func96, Tryz.ntmps96
    go_wp2
    go_end0
    exact ⟨rfl, F, Nw.refl _ _, fun _ q => q, h, Ky.refl _ _⟩
  · rw [if_neg hk]
    have hk1 : (0 : Int) < (k : Int) := by omega
    obtain ⟨h1, h2, F0, ks, h3, h4, h5, h6, h7⟩ := h
    have fb := h5.1
    have c0 := h6.c0
    have HC := hide (let_any h5 (k : Int) hk1 (by omega) g1)
    clear h5
    have hm : ∀ w : World, (method 297 24 (.pointer (some ⟨b, 0, none⟩)) "Let").run Tryz.prog w = .ok (152, .pointer (some ⟨b, 0, none⟩)) w := fun _ => by kernel_rfl
    go_enter Tryz.func96, Tryz.ntmps96
    go_wp2_with (first | (go_at_call 152; refine (unhide HC).mono ?_; rintro _ w1 ⟨rfl, hP, hK⟩))
    go_end0
    exact ⟨rfl, Yw.call1 h1 h2 h3 h4 h6 fb h7 hP hK rfl⟩
set_option maxHeartbeats 2000000 in
/-- A row is taken by the sink that came in (160), refused. -/
theorem otake_hit {F : Nat → Prop} {b y m : Nat} {Y : Yv} {op : Option Nat} {w : World} (u : Value) (h : Yw w b y m Y op F) (hr : Y.rd = false) (hh : Y.hit = true) (hc : Y.cd ≠ 0) :
    Calls Tryz.prog 160 #[.agg #[.pointer (some ⟨y, 0, none⟩), .iface 24 (.pointer (some ⟨b, 0, none⟩))], u] w fun e w' => e = .returned (.int .i64 Y.cd) ∧ Yo w w' b y m Y.tick op F := by
  obtain ⟨h1, h2, F0, ks, h3, h4, h5, h6, h7⟩ := h
  have fb := h5.1
  have c0 := h6.c0
  obtain ⟨W, hW⟩ : ∃ W, w.alloc (.cells #[.pointer (some ⟨y, 0, none⟩), .iface 24 (.pointer (some ⟨b, 0, none⟩))] 65) = W := ⟨_, rfl⟩
  have hbW : Below w.heap.size w W := by rw [← hW]; exact below_alloc (Below.refl _ _) _
  have e1 : W.cell? ⟨w.heap.size, 1, none⟩ = some (.iface 24 (.pointer (some ⟨b, 0, none⟩))) := by rw [← hW]; simp [go_sem]
  have HC := hide (take_hit u (h5.later hbW) hr hh hc)
  have hcd : (Y.cd == 0) = false := by simpa using hc
  clear h5 hr hh hc
  have hm : ∀ w : World, (method 297 24 (.pointer (some ⟨b, 0, none⟩)) "Take").run Tryz.prog w = .ok (155, .pointer (some ⟨b, 0, none⟩)) w := fun _ => by kernel_rfl
  go_enter Tryz.func160, Tryz.ntmps160
  go_wp2_with (first | (go_at_call 155; refine (unhide HC).mono ?_; rintro _ w1 ⟨rfl, hP, hK⟩))
  go_ret
  have h6' : Sy W y b m ks := h6.ky (G := fun _ => False) (Ky.of_below hbW) id id
  obtain ⟨F2, a1, a2, a3, a4⟩ := Yw.call1 h1 h2 h3 h4 h6' fb h7 hP hK rfl
  exact ⟨rfl, F2, fun k hk => (a1 k hk).imp id (fun q => by have := hbW.size; omega), a2, a3, (Ky.of_below hbW).trans a4 (Nw.refl _ _)⟩
theorem Py.cut {F : Nat → Prop} {w : World} {b : Nat} {Y : Yv} {op : Option Nat} (h : Py w b Y op F) : Py w b Y op (fun k => F k ∧ k < w.heap.size) := by
  obtain ⟨fb, vO, vR, vT, us, hB, hl⟩ := h
  exact ⟨⟨fb, hB.tg.lt⟩, vO, vR, vT, us, hB, hl.o, fun g e => ⟨hl.fo g e, (hl.o.tg e).lt⟩, hl.r, fun g e => ⟨hl.fr g e, (own_tg hl.r e).lt⟩, hl.l, hl.t, fun g e => ⟨hl.ft g e, (own_tg hl.t e).lt⟩, hl.lt, fun i u rs hu hr => ⟨(hl.e i u rs hu hr).1, fun g e => ⟨⟨((hl.e i u rs hu hr).2 g e).1, ((hl.e i u rs hu hr).2 g e).2.2.lt⟩, ((hl.e i u rs hu hr).2 g e).2⟩⟩, hl.d⟩
theorem Yw.cut {F : Nat → Prop} {w : World} {b y m : Nat} {Y : Yv} {op : Option Nat} (h : Yw w b y m Y op F) : Yw w b y m Y op (fun k => F k ∧ k < w.heap.size) := by
  obtain ⟨h1, h2, F0, ks, h3, h4, h5, h6, h7⟩ := h
  exact ⟨fun e => h1 e.1, ⟨h2, h6.mp.lt⟩, fun k => F0 k ∧ k < w.heap.size, ks, fun k e => ⟨h3 k e.1, e.2⟩, fun e => h4 e.1, h5.cut, h6, h7⟩
theorem Yo.wide {F : Nat → Prop} {w w' : World} {b y m : Nat} {Y : Yv} {op : Option Nat} (h : Yo w w' b y m Y op (fun k => F k ∧ k < w.heap.size)) (hy : ¬ F y) : Yo w w' b y m Y op F := by
  obtain ⟨F1, a1, a2, ⟨b1, b2, F0, ks, b3, b4, b5⟩, a4⟩ := h
  refine ⟨fun k => F k ∨ F1 k, fun k hk => ?_, fun k hk => .inl hk, ⟨fun e => ?_, .inr b2, F0, ks, fun k hk => .inr (b3 k hk), b4, b5⟩, a4.mono fun k e => e.1⟩
  · rcases hk with hk | hk
    · exact .inl hk
    · exact (a1 k hk).imp And.left id
  · rcases e with e | e
    · exact hy e
    · exact b1 e
set_option maxHeartbeats 2000000 in
/-- A row is taken by the sink that came in (160). -/
theorem otake_ok {F : Nat → Prop} {b y m : Nat} {Y : Yv} {op : Option Nat} {w : World} {u : Value} {r : List Val} (h : Yw w b y m Y op F) (hu : Rw w u r) (ho : Y.out.length ≤ 1048576) (g0 : 1 ≤ Y.held) (g1 : Y.held ≤ 1048576) (hr : Y.rd = false) (hh : Y.hit = false) :
    Calls Tryz.prog 160 #[.agg #[.pointer (some ⟨y, 0, none⟩), .iface 24 (.pointer (some ⟨b, 0, none⟩))], u] w fun e w' => e = .returned (.int .i64 0) ∧ Yo w w' b y m ((Y.tick.push r).hold (-1)) op F := by
  have hy0 := h.1
  replace h := h.cut
  obtain ⟨h1, h2, F0, ks, h3, h4, h5, h6, h7⟩ := h
  have fb := h5.1
  have c0 := h6.c0
  obtain ⟨W, hW⟩ : ∃ W, w.alloc (.cells #[.pointer (some ⟨y, 0, none⟩), .iface 24 (.pointer (some ⟨b, 0, none⟩))] 65) = W := ⟨_, rfl⟩
  have hbW : Below w.heap.size w W := by rw [← hW]; exact below_alloc (Below.refl _ _) _
  have e1 : W.cell? ⟨w.heap.size, 1, none⟩ = some (.iface 24 (.pointer (some ⟨b, 0, none⟩))) := by rw [← hW]; simp [go_sem]
  have e0 : W.cell? ⟨w.heap.size, 0, none⟩ = some (.pointer (some ⟨y, 0, none⟩)) := by rw [← hW]; simp [go_sem]
  have HC := hide (take_ok (h5.later hbW) (hu.later hbW) ho hr hh)
  have H6 : Hid (Sy W y b m ks) := h6.ky (G := fun _ => False) (Ky.of_below hbW) id id
  have HX : Hid (¬ F0 w.heap.size) := fun e => by have := (h3 _ e).2; omega
  have H3 := hide h3
  clear hr hh hu h5 h6 h3 c0
  have hm : ∀ w : World, (method 297 24 (.pointer (some ⟨b, 0, none⟩)) "Take").run Tryz.prog w = .ok (155, .pointer (some ⟨b, 0, none⟩)) w := fun _ => by kernel_rfl
  have hm2 : ∀ w : World, (method 297 24 (.pointer (some ⟨b, 0, none⟩)) "Let").run Tryz.prog w = .ok (152, .pointer (some ⟨b, 0, none⟩)) w := fun _ => by kernel_rfl
  have hW65 := hW
  have HW := hide hW
  clear hW65
  go_enter Tryz.func160, Tryz.ntmps160
  go_wp2_with (first | (go_at_call 155; refine (unhide HC).mono ?_; rintro _ w1 ⟨rfl, F1, n1, m1, hP, hK⟩; have d0 := hK.cell e0 (unhide HX); have h61 := (unhide H6).ky hK (fun e => h1 (unhide H3 y e)) h4; have c01 := h61.c0; have HL := hide (let_any hP 1 (by omega) (by show 0 ≤ Y.held - 1; omega) g1); have fb1 := hP.1; have H61 := hide h61; have HK := hide hK; have HN1 := hide n1; clear hP hK h61 n1) | (go_at_call 152; refine (unhide HL).mono ?_; rintro _ w2 ⟨rfl, hP2, hK2⟩))
  go_ret
  refine ⟨rfl, Yo.wide ?_ hy0⟩
  have q := Yw.under h1 h2 (unhide H3) h4 (unhide H6) (unhide HN1) hP2 ((unhide HK).trans (hK2.mono (G := F1) fun k e => by subst e; exact fb1) (unhide HN1)) (live_same h7 rfl)
  obtain ⟨F2, a1, a2, a3, a4⟩ := q
  exact ⟨F2, fun k hk => (a1 k hk).imp id (fun q => by have := hbW.size; omega), a2, a3, (Ky.of_below hbW).trans a4 (Nw.refl _ _)⟩
set_option maxHeartbeats 2000000 in
/-- A row is put into a run (162), refused. -/
theorem ptake_hit {F : Nat → Prop} {b y m : Nat} {Y : Yv} {op : Option Nat} {w : World} (i : Nat) (u : Value) (h : Yw w b y m Y op F) (hr : Y.rd = false) (hh : Y.hit = true) (hc : Y.cd ≠ 0) :
    Calls Tryz.prog 162 #[.agg #[.pointer (some ⟨y, 0, none⟩), .int .i64 i], u] w fun e w' => e = .returned (.int .i64 Y.cd) ∧ Yo w w' b y m Y.tick op F := by
  obtain ⟨h1, h2, F0, ks, h3, h4, h5, h6, h7⟩ := h
  have fb := h5.1
  have c0 := h6.c0
  obtain ⟨W, hW⟩ : ∃ W, w.alloc (.cells #[.pointer (some ⟨y, 0, none⟩), .int .i64 (i : Int)] 114) = W := ⟨_, rfl⟩
  have hbW : Below w.heap.size w W := by rw [← hW]; exact below_alloc (Below.refl _ _) _
  have e1 : W.cell? ⟨w.heap.size, 1, none⟩ = some (.int .i64 (i : Int)) := by rw [← hW]; simp [go_sem]
  have e0 : W.cell? ⟨w.heap.size, 0, none⟩ = some (.pointer (some ⟨y, 0, none⟩)) := by rw [← hW]; simp [go_sem]
  have hbd : Below w.heap.size w W.drew := hbW.drew
  have HC := hide (put_hit (.int .i64 i) u (h5.later hbd) hr hh hc)
  have h6' : Sy W.drew y b m ks := h6.ky (G := fun _ => False) (Ky.of_below hbd) id id
  have d0 := h6'.c0
  have H6 := hide h6'
  clear h5 hr hh hc h6' h6 c0
  have hm : ∀ w : World, (method 297 24 (.pointer (some ⟨b, 0, none⟩)) "Put").run Tryz.prog w = .ok (167, .pointer (some ⟨b, 0, none⟩)) w := fun _ => by kernel_rfl
  go_enter Tryz.func162, Tryz.ntmps162
  go_upto_region 1 with fail
  try rw [hW]
  go_region_with (first | (go_at_call 167; refine (unhide HC).mono ?_; rintro _ w1 ⟨rfl, hP, hK⟩))
  all_goals (go_wp2; go_ret)
  all_goals (
    obtain ⟨F2, a1, a2, a3, a4⟩ := Yw.call1 h1 h2 h3 h4 (unhide H6) fb h7 hP hK rfl
    exact ⟨rfl, F2, fun k hk => (a1 k hk).imp id (fun q => by have := hbd.size; omega), a2, a3, (Ky.of_below hbd).trans a4 (Nw.refl _ _)⟩)
set_option maxHeartbeats 2000000 in
/-- A row is put into a run (162). -/
theorem ptake_ok {F : Nat → Prop} {b y m : Nat} {Y : Yv} {w : World} {u : Value} {r : List Val} {i : Nat} {rs : List (List Val)} (h : Yw w b y m Y (some i) F) (hur : Rw w u r) (hi : Y.there[i]? = some true) (hrs : Y.runs[i]? = some rs) (hn : Y.runs.length ≤ 1048576) (hm' : rs.length ≤ 1048576) (g0 : 1 ≤ Y.held) (g1 : Y.held ≤ 1048576) (g2 : 0 ≤ Y.puts) (g3 : Y.puts ≤ 1099511627776) (hr : Y.rd = false) (hh : Y.hit = false) :
    Calls Tryz.prog 162 #[.agg #[.pointer (some ⟨y, 0, none⟩), .int .i64 i], u] w fun e w' => e = .returned (.int .i64 0) ∧ Yo w w' b y m ((Y.tick.put i (rs ++ [r])).hold (-1)) (some i) F := by
  obtain ⟨h1, h2, F0, ks, h3, h4, h5, h6, h7⟩ := h
  have fb := h5.1
  have c0 := h6.c0
  obtain ⟨W, hW⟩ : ∃ W, w.alloc (.cells #[.pointer (some ⟨y, 0, none⟩), .int .i64 (i : Int)] 114) = W := ⟨_, rfl⟩
  have hbW : Below w.heap.size w W := by rw [← hW]; exact below_alloc (Below.refl _ _) _
  have e1 : W.cell? ⟨w.heap.size, 1, none⟩ = some (.int .i64 (i : Int)) := by rw [← hW]; simp [go_sem]
  have e0 : W.cell? ⟨w.heap.size, 0, none⟩ = some (.pointer (some ⟨y, 0, none⟩)) := by rw [← hW]; simp [go_sem]
  have hbd : Below w.heap.size w W.drew := hbW.drew
  have HC := hide (put_ok (h5.later hbd) (hur.later hbd) hi hrs hn hm' g0 g1 g2 g3 hr hh)
  have h6' : Sy W.drew y b m ks := h6.ky (G := fun _ => False) (Ky.of_below hbd) id id
  have d0 := h6'.c0
  have H6 := hide h6'
  have H7 := hide h7
  clear h5 hr hh h6' h6 c0 hur hi hrs g0 g1 g2 g3
  have hm : ∀ w : World, (method 297 24 (.pointer (some ⟨b, 0, none⟩)) "Put").run Tryz.prog w = .ok (167, .pointer (some ⟨b, 0, none⟩)) w := fun _ => by kernel_rfl
  go_enter Tryz.func162, Tryz.ntmps162
  go_upto_region 1 with fail
  try rw [hW]
  go_region_with (first | (go_at_call 167; refine (unhide HC).mono ?_; rintro _ w1 ⟨rfl, F1, n1, m1, hP, hK⟩))
  all_goals (go_wp2; go_ret)
  all_goals (
    obtain ⟨F2, a1, a2, a3, a4⟩ := Yw.under h1 h2 h3 h4 (unhide H6) n1 hP hK (live_same (unhide H7) rfl)
    exact ⟨rfl, F2, fun k hk => (a1 k hk).imp id (fun q => by have := hbd.size; omega), a2, a3, (Ky.of_below hbd).trans a4 (Nw.refl _ _)⟩)
end Go.Proofs.YtcbenpodohjbiaaGreat

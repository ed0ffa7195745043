import Derived.Test.YtfnacpkodfhfoacRmP
import Derived.Test.YtfnacpkodfhfoacRmI2
set_option linter.unusedSimpArgs false
set_option linter.unusedVariables false
namespace Go.Proofs.Ytfnacpkodfhfoac
open Go.RowKit Go.Sort

theorem six6 {w : World} {b g : Nat} {e : Ex} {a : Option Addr} {c : Nat} (h : Six w b e a c) (hg : b ≠ g) (u0 u1 u2 u3 u4 u5 : Value) :
    Six ((((((w.setCell ⟨g, 0, none⟩ u0).setCell ⟨g, 1, none⟩ u1).setCell ⟨g, 2, none⟩ u2).setCell ⟨g, 3, none⟩ u3).setCell ⟨g, 4, none⟩ u4).setCell ⟨g, 5, none⟩ u5) b e a c :=
  six_put (six_put (six_put (six_put (six_put (six_put h _ _ _ hg) _ _ _ hg) _ _ _ hg) _ _ _ hg) _ _ _ hg) _ _ _ hg
set_option maxHeartbeats 400000 in
/-- tallylaw.num (8). -/
theorem lawnum_any (n : Int) (w : World) : Calls Try.prog 8 #[.int .i64 n] w fun r w' => r = .returned (.int .i64 n) ∧ Below w.heap.size w w' := by
  go_enter Try.func8, Try.ntmps8
  go_wp2
  go_ret
  exact ⟨rfl, by first | exact Below.refl _ _ | exact below_alloc (Below.refl _ _) _⟩
/-- What both sides' Moved answer. -/
def movR (tt : List Int) (e : Ex) : Ex × Int := if okM tt e then (madeE (movG tt) e, 0) else (zeroE, 1)
/-- What both sides' Put answer. -/
def putR (by_ : List Ex) (e : Ex) : Ex × Int := if okP by_ e then (madeE (putG by_) e, 0) else (zeroE, errP by_ e)
/-- An expression and an error. -/
def RPost (R : Ex × Int) (w : World) (r : Ending) (w' : World) : Prop := ∃ a2 c2, r = .returned (.tuple #[R.1.val a2 c2, .int .i64 R.2]) ∧ ExK w.heap.size w' a2 R.1.args ∧ Below w.heap.size w w'
def RPost0 (R : Ex × Int) (w : World) (r : Ending) (w' : World) : Prop := ∃ a2 c2, r = .returned (.tuple #[R.1.val a2 c2, .int .i64 R.2]) ∧ Ex.all w' a2 R.1.args ∧ Below w.heap.size w w'
theorem mov_one {tt : List Int} {e : Ex} {w w' : World} {r : Ending} (h : MovPost tt e w r w') : RPost0 (movR tt e) w r w' := by
  unfold movR
  rcases h with ⟨h1, a2, c2, rfl, h3, h4⟩ | ⟨h1, rfl, h3⟩
  · rw [if_pos h1]
    exact ⟨a2, c2, rfl, h3, h4⟩
  · rw [if_neg (by rw [h1]; decide)]
    exact ⟨none, 0, rfl, by show Ex.all _ _ []; rw [Ex.all]; trivial, h3⟩
theorem put_one {by_ : List Ex} {e : Ex} {w w' : World} {r : Ending} (h : PutPost2 by_ e w r w') : RPost (putR by_ e) w r w' := by
  unfold putR
  rcases h with ⟨h1, h2, h3, h4, a2, c2, rfl, h6, h7⟩ | ⟨h1, rfl, h3⟩
  · have hk : okP by_ e = true := by
      have : (by_.any fun e => !builtE e) = false := by
        rw [List.any_eq_false]
        intro x hx
        rw [h2 x hx]
        simp
      unfold okP
      rw [h1, h3, h4, this]
      rfl
    rw [if_pos hk]
    exact ⟨a2, c2, rfl, h6, h7⟩
  · rw [if_neg (by rw [h1]; decide)]
    exact ⟨none, 0, rfl, fun W' _ => by show Ex.all _ _ []; rw [Ex.all]; trivial, h3⟩
theorem zero_short : zeroE.short := by
  show Ex.short (.mk 0 0 .null [])
  rw [Ex.short, Ex.shorts]
  exact ⟨Nat.zero_le _, trivial⟩
theorem mov_short (tt : List Int) (e : Ex) : (movR tt e).1.short := by
  unfold movR
  by_cases h : okM tt e = true
  · rw [if_pos h]
    unfold okM at h
    simp only [Bool.and_eq_true, Bool.not_eq_true'] at h
    obtain ⟨⟨h1, h2⟩, h3⟩ := h
    refine meas_short soundE _ 400 40 (by omega) (mov_built tt (fun n hn => ?_) e h1 h2)
    have := List.any_eq_false.1 h3 n hn
    simp at this
    exact this
  · rw [if_neg h]; exact zero_short
theorem putR_short (by_ : List Ex) (e : Ex) : (putR by_ e).1.short := by
  unfold putR
  by_cases h : okP by_ e = true
  · rw [if_pos h]
    unfold okP at h
    simp only [Bool.and_eq_true] at h
    exact meas_short soundE _ 400 40 (by omega) h.2
  · rw [if_neg h]; exact zero_short
mutual
theorem copy_short : ∀ (e : Ex), e.short → (copyE e).short
  | .mk op n v l, h => by
    rw [Ex.short] at h
    rw [copyE, Ex.short, copyL_map, List.length_map, ← copyL_map]
    exact ⟨h.1, copy_shorts l h.2⟩
theorem copy_shorts : ∀ (l : List Ex), Ex.shorts l → Ex.shorts (copyL l)
  | [], _ => by rw [copyL, Ex.shorts]; trivial
  | e :: l, h => by
    rw [Ex.shorts] at h
    rw [copyL, Ex.shorts]
    exact ⟨copy_short e h.1, copy_shorts l h.2⟩
end
theorem fold_short : ∀ (l : List Ex) (x : Ex), x.short → (∀ y ∈ l, y.short) → (l.foldl (fun acc y => andE acc (copyE y)) x).short
  | [], x, h, _ => h
  | y :: l, x, h, hl => by
    rw [List.foldl_cons]
    refine fold_short l _ ?_ fun z hz => hl z (by simp [hz])
    unfold andE
    rw [Ex.short, Ex.shorts, Ex.shorts, Ex.shorts]
    exact ⟨by show 2 ≤ _; omega, h, copy_short y (hl y (by simp)), trivial⟩
theorem all_short (by_ : List Ex) (h : ∀ x ∈ by_, x.short) : (allX by_).short := by
  cases by_ with
  | nil =>
    show Ex.short (.mk 2 0 (.num 1) [])
    rw [Ex.short, Ex.shorts]
    exact ⟨Nat.zero_le _, trivial⟩
  | cons x l => exact fold_short l _ (copy_short x (h x (by simp))) fun y hy => h y (by simp [hy])
set_option maxHeartbeats 2000000 in
set_option maxRecDepth 100000 in
/-- The law: what both sides answer of Moved, Put and All is the same. -/
theorem law_eu (e : Ex) (hf : e.fin) (a : Option Addr) (c : Nat) (tt : List Int) (hti : ∀ n ∈ tt, In64 n) (htl : tt.length ≤ 2000000) (aT : Option Addr) (cT : Nat) (by_ : List Ex) (hbf : Ex.fins by_) (hbl : by_.length ≤ 1000000) (aB : Option Addr) (cB : Nat) (hcB : by_.length ≤ cB) (hm : ∀ x ∈ by_, (measE allE x 33554432 131072).2.2 = true)
    (w : World) (ha : Ex.all w a e.args) (hT : IntsAt w aT tt) (hA : Ex.all w aB by_) :
    Calls Try.prog 3 #[e.val a c, .slice aT tt.length cT, .slice aB by_.length cB] w fun r w' => r = .returned (.bool true) ∧ Below w.heap.size w w' := by
  have hsh : ∀ x ∈ by_, x.short := fun x hx => meas_short allE x _ _ (by omega) (hm x hx)
  have HM1 : Hid (∀ W, Below w.heap.size w W → Calls Try.prog 6 #[e.val a c, .slice aT tt.length cT] W (RPost0 (movR tt e) W)) := fun W hW => (moved_any tt (by omega) aT cT e hf a c W (Ex.all_later _ ha hW) (hT.later hW)).mono fun r w' h => mov_one h
  have HM2 : Hid (∀ W, Below w.heap.size w W → Calls Try.prog 7 #[e.val a c, .slice aT tt.length cT] W (RPost0 (movR tt e) W)) := fun W hW => (rmoved_any tt hti htl aT cT e hf a c W (Ex.all_later _ ha hW) (hT.later hW)).mono fun r w' h => mov_one h
  have HP1 : Hid (∀ W, Below w.heap.size w W → Calls Try.prog 10 #[e.val a c, .slice aB by_.length cB] W (RPost (putR by_ e) W)) := fun W hW => (put_err by_ hbf (by omega) aB cB e hf a c W (Ex.all_later _ ha hW) (Ex.all_later _ hA hW)).mono fun r w' h => put_one h
  have HP2 : Hid (∀ W, Below w.heap.size w W → Calls Try.prog 11 #[e.val a c, .slice aB by_.length cB] W (RPost (putR by_ e) W)) := fun W hW => (rput_any by_ hbf (by omega) aB cB e hf a c W (Ex.all_later _ ha hW) (Ex.all_later _ hA hW)).mono fun r w' h => put_one h
  have HA1 : Hid (∀ W, Below w.heap.size w W → Calls Try.prog 12 #[.slice aB by_.length cB] W (APost by_ W)) := fun W hW => all12_any by_ aB cB W hcB hbl (Ex.all_later _ hA hW) fun x hx a' c' W' hW' => (copied_any x (Ex.fins_mem hbf hx) a' c' W' hW').mono fun r w' ⟨a2, c2, h1, h2, _, h4⟩ => by
    have h2 := h2 (hm x hx)
    have ec : copyT x = copyE x := by unfold copyT; rw [hm x hx]; rfl
    rw [ec] at h1 h2
    exact ⟨a2, c2, h1, h2, h4⟩
  have HA2 : Hid (∀ W, Below w.heap.size w W → Calls Try.prog 13 #[.slice aB by_.length cB] W (APost by_ W)) := fun W hW => all13_any by_ aB cB W hcB hbl (Ex.all_later _ hA hW) fun x hx a' c' W' hW' => neat_any x (hsh x hx) a' c' W' hW'
  have HS1 := hide (fun (a b : Option Addr) (c d : Nat) (W : World) (h1 : Ex.all W a (movR tt e).1.args) (h2 : Ex.all W b (movR tt e).1.args) => rsame_any (movR tt e).1 (mov_short tt e) a b c d W h1 h2)
  have HS2 := hide (fun (a b : Option Addr) (c d : Nat) (W : World) (h1 : Ex.all W a (putR by_ e).1.args) (h2 : Ex.all W b (putR by_ e).1.args) => rsame_any (putR by_ e).1 (putR_short by_ e) a b c d W h1 h2)
  have HS3 := hide (fun (a b : Option Addr) (c d : Nat) (W : World) (h1 : Ex.all W a (allX by_).args) (h2 : Ex.all W b (allX by_).args) => rsame_any (allX by_) (all_short by_ hsh) a b c d W h1 h2)
  have HNM := hide lawnum_any
  unfold RPost0 at HM1 HM2
  unfold RPost at HP1 HP2
  unfold APost at HA1 HA2
  generalize movR tt e = M at *
  generalize putR by_ e = P at *
  generalize allX by_ = X at *
  obtain ⟨F1, E1⟩ := M
  obtain ⟨F2, E2⟩ := P
  simp only at HM1 HM2 HP1 HP2 HS1 HS2
  have HB0 := hide (below_alloc (Below.refl _ w) (.cells #[.int .i64 e.op, .int .i64 e.n, .int .i64 e.v.k, .int .i64 e.v.n, .string e.v.s, .slice a e.args.length c] 26))
  have H6 := hide (Six.new w e a c)
  have hs0 : (w.alloc (.cells #[.int .i64 e.op, .int .i64 e.n, .int .i64 e.v.k, .int .i64 e.v.n, .string e.v.s, .slice a e.args.length c] 26)).heap.size = w.heap.size + 1 := by simp [go_sem]
  rw [Ex.val_open] at HM1 HM2 HP1 HP2 ⊢
  clear ha hT hA hm hsh hbf hti hf
  go_enter Try.func3, Try.ntmps3
  go_upto_region 2 with (go_at_call 6; refine (unhide HM1 _ (unhide HB0)).mono ?_; rintro r w1 ⟨a1, c1, rfl, hX1, hb1⟩; rw [Ex.val_open])
  have hs1 := hb1.size
  rw [hs0] at hs1
  obtain ⟨b7, hb7⟩ : ∃ b7, b7 = w1.heap.size := ⟨_, rfl⟩
  refine enter_with (fun wx => Six wx w.heap.size e a c ∧ Box6 wx b7 F1 a1 c1 ∧ Ex.all wx a1 F1.args ∧ Below w.heap.size w wx ∧ b7 < wx.heap.size) ?_ ?_
  · exact ⟨((unhide H6).later hb1).later (below_alloc (Below.refl _ _) _), by rw [hb7]; exact Box6.new w1 F1 a1 c1, Ex.all_later _ hX1 (below_alloc (Below.refl _ _) _), below_alloc (below_step (unhide HB0) hb1) _, by rw [hb7]; simp [go_sem]⟩
  intro wx HW
  rw [← hb7]
  have hb7s : w.heap.size < b7 := by omega
  clear hX1 hb1 hs1 hb7 hs0 H6 HB0
  obtain ⟨⟨b0, b1, b2, b3, b4, b5⟩, _, _, hBx, _⟩ := unhide HW
  go_upto_region 3 with (go_at_call 7; refine (unhide HM2 wx hBx).mono ?_; rintro r w2 ⟨a2, c2, rfl, hX2, hb2⟩; rw [Ex.val_open])
  obtain ⟨b9, hb9⟩ : ∃ b9, b9 = w2.heap.size := ⟨_, rfl⟩
  have hs2 := hb2.size
  have hlx := (unhide HW).2.2.2.2
  refine enter_with (fun wy => Six wy w.heap.size e a c ∧ Box6 wy b7 F1 a1 c1 ∧ Box6 wy b9 F1 a2 c2 ∧ Ex.all wy a1 F1.args ∧ Ex.all wy a2 F1.args ∧ Below w.heap.size w wy ∧ b9 < wy.heap.size) ?_ ?_
  · obtain ⟨g1, g2, g3, g4, g5⟩ := unhide HW
    exact ⟨(g1.later hb2).later (below_alloc (Below.refl _ _) _), (g2.later hb2).later (below_alloc (Below.refl _ _) _), by rw [hb9]; exact Box6.new w2 F1 a2 c2, Ex.all_later _ (Ex.all_later _ g3 hb2) (below_alloc (Below.refl _ _) _), Ex.all_later _ hX2 (below_alloc (Below.refl _ _) _), below_alloc (below_step g4 hb2) _, by rw [hb9]; simp [go_sem]⟩
  intro wy HY
  rw [← hb9]
  have hb9s : b7 < b9 := by omega
  clear hX2 hb2 hs2 hlx hb9 HW hBx b0 b1 b2 b3 b4 b5
  obtain ⟨_, ⟨⟨x0, x1, x2, x3, x4, x5⟩, _⟩, ⟨⟨y0, y1, y2, y3, y4, y5⟩, _⟩, hA1, hA2, hBy, _⟩ := unhide HY
  have HN1 := hide (unhide HNM E1 wy)
  have HS1a := hide (fun (W : World) (hW : Below wy.heap.size wy W) => unhide HS1 a1 a2 c1 c2 W (Ex.all_later _ hA1 hW) (Ex.all_later _ hA2 hW))
  rw [Ex.val_open, Ex.val_open] at HS1a
  clear HS1 hA1 hA2
  go_upto_region 5 with (first
    | (go_at_call 8; refine (unhide HN1).mono ?_; rintro r w3 ⟨rfl, hb3⟩; obtain ⟨_, ⟨⟨x0, x1, x2, x3, x4, x5⟩, _⟩, ⟨⟨y0, y1, y2, y3, y4, y5⟩, _⟩, _, _, _, _⟩ := unhide HY; have x0 := clater x0 hb3; have x1 := clater x1 hb3; have x2 := clater x2 hb3; have x3 := clater x3 hb3; have x4 := clater x4 hb3; have x5 := clater x5 hb3; have y0 := clater y0 hb3; have y1 := clater y1 hb3; have y2 := clater y2 hb3; have y3 := clater y3 hb3; have y4 := clater y4 hb3; have y5 := clater y5 hb3)
    | (go_at_call 9; refine (unhide HS1a w3 hb3).mono ?_; rintro r w4 ⟨rfl, hb4⟩))
  refine enter_with (fun wz => Six wz w.heap.size e a c ∧ Box6 wz b7 F1 a1 c1 ∧ Box6 wz b9 F1 a2 c2 ∧ Below w.heap.size w wz ∧ b9 < wz.heap.size) ?_ ?_
  · obtain ⟨g1, g2, g3, _, _, g6, g7⟩ := unhide HY
    have hb34 := below_step hb3 hb4
    exact ⟨g1.later hb34, g2.later hb34, g3.later hb34, below_step g6 hb34, Nat.lt_of_lt_of_le g7 hb34.size⟩
  intro wz HZ
  clear hb3 hb4 x0 x1 x2 x3 x4 x5 y0 y1 y2 y3 y4 y5 HY hBy HS1a HN1 HM1 HM2
  obtain ⟨⟨b0, b1, b2, b3, b4, b5⟩, _, _, hBz, _⟩ := unhide HZ
  have HX5 := hide (unhide HP1 wz hBz)
  go_upto_region 6 with (go_at_call 10; refine (unhide HX5).mono ?_; rintro r w5 ⟨a4, c4, rfl, hK5, hb5⟩; rw [Ex.val_open]; obtain ⟨⟨x0, x1, x2, x3, x4, x5⟩, f0, f1, f2, f3, f4, f5⟩ := (unhide HZ).2.1.later hb5)
  have hlz := (unhide HZ).2.2.2.2
  refine enter_with (fun wq => Six wq w.heap.size e a c ∧ Box6 wq b7 F2 a4 c4 ∧ Box6 wq b9 F1 a2 c2 ∧ ExK wz.heap.size wq a4 F2.args ∧ Below w.heap.size w wq ∧ wz.heap.size ≤ wq.heap.size) ?_ ?_
  · obtain ⟨g1, g2, g3, g4, g5⟩ := unhide HZ
    refine ⟨six6 (g1.later hb5) (by omega) _ _ _ _ _ _, box6_store (g2.later hb5) F2 a4 c4, box6_other (g3.later hb5) (by omega) _ _ _ _ _ _, ?_, put6 (below_step g4 hb5) (by omega) _ _ _ _ _ _, by have := hb5.size; simp only [World.setCell]; simp; omega⟩
    refine hK5.on ((((((Kept.of_low _ _ _ _ ?_).trans (Kept.of_low _ _ _ _ ?_)).trans (Kept.of_low _ _ _ _ ?_)).trans (Kept.of_low _ _ _ _ ?_)).trans (Kept.of_low _ _ _ _ ?_)).trans (Kept.of_low _ _ _ _ ?_)) <;> omega
  intro wq HQ
  clear hb5 hK5 x0 x1 x2 x3 x4 x5 f0 f1 f2 f3 f4 f5 hBz b0 b1 b2 b3 b4 b5 HX5 HP1
  obtain ⟨⟨b0, b1, b2, b3, b4, b5⟩, _, _, _, hBq, hsq⟩ := unhide HQ
  have HX6 := hide (unhide HP2 wq hBq)
  go_upto_region 7 with (go_at_call 11; refine (unhide HX6).mono ?_; rintro r w6 ⟨a5, c5, rfl, hK6, hb6⟩; rw [Ex.val_open]; obtain ⟨⟨y0, y1, y2, y3, y4, y5⟩, f0, f1, f2, f3, f4, f5⟩ := (unhide HQ).2.2.1.later hb6)
  refine enter_with (fun wv => Box6 wv b7 F2 a4 c4 ∧ Box6 wv b9 F2 a5 c5 ∧ Ex.all wv a4 F2.args ∧ Ex.all wv a5 F2.args ∧ Below w.heap.size w wv) ?_ ?_
  · obtain ⟨g1, g2, g3, g4, g5, g6⟩ := unhide HQ
    refine ⟨box6_other (g2.later hb6) (by omega) _ _ _ _ _ _, box6_store (g3.later hb6) F2 a5 c5, ?_, ?_, put6 (below_step g5 hb6) (by omega) _ _ _ _ _ _⟩
    · refine ((g4.on (Kept.of_below _ _ hb6)).on ((((((Kept.of_low _ _ _ _ ?_).trans (Kept.of_low _ _ _ _ ?_)).trans (Kept.of_low _ _ _ _ ?_)).trans (Kept.of_low _ _ _ _ ?_)).trans (Kept.of_low _ _ _ _ ?_)).trans (Kept.of_low _ _ _ _ ?_))).now <;> omega
    · refine (hK6.on ((((((Kept.of_low _ _ _ _ ?_).trans (Kept.of_low _ _ _ _ ?_)).trans (Kept.of_low _ _ _ _ ?_)).trans (Kept.of_low _ _ _ _ ?_)).trans (Kept.of_low _ _ _ _ ?_)).trans (Kept.of_low _ _ _ _ ?_))).now <;> omega
  intro wv HV
  clear hb6 hK6 y0 y1 y2 y3 y4 y5 f0 f1 f2 f3 f4 f5 hBq hsq b0 b1 b2 b3 b4 b5 HX6 HP2 HQ HZ
  obtain ⟨⟨⟨x0, x1, x2, x3, x4, x5⟩, _⟩, ⟨⟨y0, y1, y2, y3, y4, y5⟩, _⟩, hA4, hA5, hBv⟩ := unhide HV
  have HN1 := hide (unhide HNM E2 wv)
  have HS2a := hide (fun (W : World) (hW : Below wv.heap.size wv W) => unhide HS2 a4 a5 c4 c5 W (Ex.all_later _ hA4 hW) (Ex.all_later _ hA5 hW))
  rw [Ex.val_open, Ex.val_open] at HS2a
  clear HS2 hA4 hA5
  go_wp2_with (first
    | (go_at_call 13; refine (unhide HA2 w6 hB6).mono ?_; rintro r w7 ⟨a7, c7, rfl, hX7, hb7'⟩; have hB7 := below_step hB6 hb7'; have HX7 := hide hX7; have HX6b := hide (Ex.all_later _ (unhide HX6) hb7'); clear hX7; rw [Ex.val_open])
    | (go_at_call 12; refine (unhide HA1 w5 hB5).mono ?_; rintro r w6 ⟨a6, c6, rfl, hX6, hb6⟩; have hB6 := below_step hB5 hb6; have HX6 := hide hX6; clear hX6; rw [Ex.val_open])
    | (go_at_call 8; refine (unhide HN1).mono ?_; rintro r w3 ⟨rfl, hb3⟩; have x0 := clater x0 hb3; have x1 := clater x1 hb3; have x2 := clater x2 hb3; have x3 := clater x3 hb3; have x4 := clater x4 hb3; have x5 := clater x5 hb3; have y0 := clater y0 hb3; have y1 := clater y1 hb3; have y2 := clater y2 hb3; have y3 := clater y3 hb3; have y4 := clater y4 hb3; have y5 := clater y5 hb3)
    | (go_at_call 9; have HX9 := unhide HS3 a6 a7 c6 c7 w7 (unhide HX6b) (unhide HX7); rw [Ex.val_open, Ex.val_open] at HX9; refine HX9.mono ?_; rintro r w8 ⟨rfl, hb8⟩; have hB8 := below_step hB7 hb8)
    | (go_at_call 9; refine (unhide HS2a w3 hb3).mono ?_; rintro r w5 ⟨rfl, hb5⟩; have hB5 := below_step hBv (below_step hb3 hb5)))
  go_ret
  exact ⟨rfl, hB8⟩
end Go.Proofs.Ytfnacpkodfhfoac

import Derived.Test.YtfnacpkodfhfoadMyA
import Derived.Test.YtfnacpkodfhfoadRmF
set_option linter.unusedSimpArgs false
set_option linter.unusedVariables false
namespace Go.Proofs.Ytfnacpkodfhfoad
open Go.RowKit Go.Sort

theorem at_zeroE {w : World} {a : Option Addr} {x : Ex} {l : List Ex} (h : Ex.all w a (x :: l)) : ∃ b off, a = some ⟨b, off, none⟩ ∧ Ex.at w b off x := by
  rw [Ex.all] at h
  obtain ⟨b, off, h1, h2, _⟩ := h
  exact ⟨b, off, h1, h2⟩
theorem at_twoE {w : World} {a : Option Addr} {x y : Ex} (h : Ex.all w a [x, y]) : ∃ b off, a = some ⟨b, off, none⟩ ∧ Ex.at w b off x ∧ Ex.at w b (off + 6) y := by
  rw [Ex.all] at h
  obtain ⟨b, off, h1, h2, h3⟩ := h
  rw [Ex.all] at h3
  obtain ⟨b', off', h4, h5, _⟩ := h3
  simp only [Option.some.injEq, Addr.mk.injEq, and_true] at h4
  obtain ⟨rfl, rfl⟩ := h4
  exact ⟨b, off, h1, h2, h5⟩
/-- The column of a test for null. -/
def colI (e : Ex) : Int := if nulcol e then (e.args.headD zeroE').n else 0
set_option maxHeartbeats 400000 in
set_option maxRecDepth 100000 in
/-- possible's closure (44). -/
theorem rnull_any (e : Ex) (hs : e.op = 5 → e.args.length = 1) (a : Option Addr) (c : Nat) (w : World) (ha : Ex.all w a e.args) : Calls Try.prog 44 #[e.val a c] w fun r w' => r = .returned (.tuple #[.int .i64 (colI e), .bool (nulcol e)]) ∧ Below w.heap.size w w' := by
  have hBa := below_alloc (Below.refl _ w) (.cells #[.int .i64 e.op, .int .i64 e.n, .int .i64 e.v.k, .int .i64 e.v.n, .string e.v.s, .slice a e.args.length c] 26)
  rw [Ex.val_open]
  by_cases h5 : e.op = 5
  · have hl := hs h5
    obtain ⟨x, hx⟩ : ∃ x, e.args = [x] := by
      match e.args, hl with
      | [x], _ => exact ⟨x, rfl⟩
    have hk : nulcol e = (x.op == 1) := by unfold nulcol; rw [h5, hx]; rfl
    have hc : colI e = if x.op == 1 then x.n else 0 := by unfold colI; rw [hk, hx]; rfl
    rw [hx] at ha
    rw [hc, hk, h5, hx]
    rw [h5, hx] at hBa
    obtain ⟨vb, vo, rfl, hat⟩ := at_zeroE (Ex.all_later _ ha hBa)
    obtain ⟨a', c', ⟨d0, d1, d2, d3, d4, d5⟩, hal⟩ := Ex.at_open hat
    clear hal hat hk hl hs ha hx hc
    have HB := hide hBa
    rw [List.length_cons, List.length_nil] at d0 d1 d2 d3 d4 d5 HB ⊢
    clear hBa
    by_cases h1 : x.op = 1
    · have e1 : (x.op == 1) = true := by simpa using h1
      rw [e1]
      rw [h1] at d0
      simp only [if_true]
      clear h1 e1
      go_enter Try.func44, Try.ntmps44
      go_wp2
      exact bodyPost_ret (v := .tuple #[.int .i64 x.n, .bool true]) (by simp [results, Try.results44, go_sem]) rfl ⟨rfl, unhide HB⟩
    · have e1 : (x.op == 1) = false := by simpa using h1
      rw [e1]
      simp only [Bool.false_eq_true, if_false]
      go_enter Try.func44, Try.ntmps44
      go_wp2
      exact bodyPost_ret (v := .tuple #[.int .i64 0, .bool false]) (by simp [results, Try.results44, go_sem]) rfl ⟨rfl, unhide HB⟩
  · have e1 : (e.op == 5) = false := by simpa using h5
    have hk : nulcol e = false := by unfold nulcol; rw [e1]; rfl
    have hc : colI e = 0 := by unfold colI; rw [hk]; rfl
    rw [hc, hk]
    clear hk hs hc
    go_enter Try.func44, Try.ntmps44
    go_wp2
    exact bodyPost_ret (v := .tuple #[.int .i64 0, .bool false]) (by simp [results, Try.results44, go_sem]) rfl ⟨rfl, hBa⟩
/-- A column and a constant: the column, the constant, the operator. -/
def toldR (p : Ex) : Int × Val × Int × Bool :=
  if decide (p.op < 12) || decide (17 < p.op) then (0, .null, 0, false)
  else if (p.args.getD 0 zeroE').op == 1 && (p.args.getD 1 zeroE').op == 2 then ((p.args.getD 0 zeroE').n, (p.args.getD 1 zeroE').v, p.op, true)
  else if (p.args.getD 0 zeroE').op == 2 && (p.args.getD 1 zeroE').op == 1 then ((p.args.getD 1 zeroE').n, (p.args.getD 0 zeroE').v, turnI p.op, true)
  else (0, .null, 0, false)
def TPost (T : Int × Val × Int × Bool) (w : World) (r : Ending) (w' : World) : Prop := r = .returned (.tuple #[.int .i64 T.1, T.2.1.v, .int .i64 T.2.2.1, .bool T.2.2.2]) ∧ Below w.heap.size w w'
/-- A value's box that may be written. -/
def Tri3 (w : World) (b : Nat) (v : Val) : Prop := (w.cell? ⟨b, 0, none⟩ = some (.int .i64 v.k) ∧ w.cell? ⟨b, 1, none⟩ = some (.int .i64 v.n) ∧ w.cell? ⟨b, 2, none⟩ = some (.string v.s)) ∧ w.frozen? ⟨b, 0, none⟩ = false ∧ w.frozen? ⟨b, 1, none⟩ = false ∧ w.frozen? ⟨b, 2, none⟩ = false
theorem Tri3.later {w w1 : World} {b : Nat} {v : Val} (h : Tri3 w b v) (hb : Below w.heap.size w w1) : Tri3 w1 b v := by
  obtain ⟨⟨h0, h1, h2⟩, f0, f1, f2⟩ := h
  have hlt := World.block_lt_of_cell? _ _ h0
  exact ⟨⟨clater h0 hb, clater h1 hb, clater h2 hb⟩, by rw [hb.frozen (p := ⟨b, 0, none⟩) hlt]; exact f0, by rw [hb.frozen (p := ⟨b, 1, none⟩) hlt]; exact f1, by rw [hb.frozen (p := ⟨b, 2, none⟩) hlt]; exact f2⟩
theorem Tri3.new (w : World) (v : Val) : Tri3 (w.alloc (.cells #[.int .i64 v.k, .int .i64 v.n, .string v.s] 23)) w.heap.size v := ⟨⟨by simp [go_sem], by simp [go_sem], by simp [go_sem]⟩, by simp [go_sem], by simp [go_sem], by simp [go_sem]⟩
set_option maxHeartbeats 4000000 in
set_option maxRecDepth 100000 in
/-- tallyref.told (47). -/
theorem told_any (p : Ex) (hs : 12 ≤ p.op → p.op ≤ 17 → p.args.length = 2) (a : Option Addr) (c : Nat) (w : World) (ha : Ex.all w a p.args) : Calls Try.prog 47 #[p.val a c] w (TPost (toldR p) w) := by
  obtain ⟨wa, hwa⟩ : ∃ wa, wa = (w.alloc (.cells #[.int .i64 p.op, .int .i64 p.n, .int .i64 p.v.k, .int .i64 p.v.n, .string p.v.s, .slice a p.args.length c] 26)).alloc (.cells #[.int .i64 0, .int .i64 0, .string ⟨#[]⟩] 23) := ⟨_, rfl⟩
  have hs1 : (w.alloc (.cells #[.int .i64 p.op, .int .i64 p.n, .int .i64 p.v.k, .int .i64 p.v.n, .string p.v.s, .slice a p.args.length c] 26)).heap.size = w.heap.size + 1 := by simp [go_sem]
  have HBA : Hid (Below w.heap.size w wa) := by rw [hwa]; exact below_alloc (below_alloc (Below.refl _ _) _) _
  have H6 : Hid (Six wa w.heap.size p a c) := by rw [hwa]; exact (Six.new w p a c).later (below_alloc (Below.refl _ _) _)
  have H3 : Hid (Tri3 wa (w.heap.size + 1) .null) := by
    have q := Tri3.new (w.alloc (.cells #[.int .i64 p.op, .int .i64 p.n, .int .i64 p.v.k, .int .i64 p.v.n, .string p.v.s, .slice a p.args.length c] 26)) .null
    rw [hs1] at q
    rw [hwa]
    exact q
  have HAL := hide (Ex.all_later _ ha (unhide HBA))
  have HNO := hide (fun W => none_any W)
  rw [Val.open_] at HNO
  obtain ⟨T, hT⟩ : ∃ T, T = toldR p := ⟨_, rfl⟩
  rw [← hT]
  rw [Ex.val_open]
  clear hs1 ha
  by_cases hlo : p.op < 12
  · have hT2 : T = (0, .null, 0, false) := by rw [hT]; unfold toldR; simp [hlo]
    subst hT2
    clear hT hs HAL
    go_enter Try.func47, Try.ntmps47
    go_upto_region 1 with fail
    rw [← hwa]
    clear hwa
    obtain ⟨s0, s1, s2, s3, s4, s5⟩ := unhide H6
    go_wp2_with (go_at_call 73; refine (unhide HNO _).mono ?_; rintro r w1 ⟨rfl, hb1⟩; obtain ⟨⟨t0, t1, t2⟩, f0, f1, f2⟩ := (unhide H3).later hb1)
    have HBB := hide (unhide HBA)
    exact bodyPost_ret (v := .tuple #[.int .i64 0, Val.null.v, .int .i64 0, .bool false]) (by simp [results, Try.results47, go_sem, Val.open_, *]) rfl ⟨rfl, put3 (below_step (unhide HBB) hb1) (by omega) _ _ _⟩
  by_cases hhi : 17 < p.op
  · have hT2 : T = (0, .null, 0, false) := by rw [hT]; unfold toldR; simp [hhi]
    subst hT2
    clear hT hs HAL
    go_enter Try.func47, Try.ntmps47
    go_upto_region 1 with fail
    rw [← hwa]
    clear hwa
    obtain ⟨s0, s1, s2, s3, s4, s5⟩ := unhide H6
    go_wp2_with (go_at_call 73; refine (unhide HNO _).mono ?_; rintro r w1 ⟨rfl, hb1⟩; obtain ⟨⟨t0, t1, t2⟩, f0, f1, f2⟩ := (unhide H3).later hb1)
    have HBB := hide (unhide HBA)
    exact bodyPost_ret (v := .tuple #[.int .i64 0, Val.null.v, .int .i64 0, .bool false]) (by simp [results, Try.results47, go_sem, Val.open_, *]) rfl ⟨rfl, put3 (below_step (unhide HBB) hb1) (by omega) _ _ _⟩
  have h12 : 12 ≤ p.op := by omega
  have h17 : p.op ≤ 17 := by omega
  have hl2 := hs h12 h17
  obtain ⟨x, y, hxy⟩ : ∃ x y, p.args = [x, y] := by
    match p.args, hl2 with
    | [x, y], _ => exact ⟨x, y, rfl⟩
  have hd : (decide (p.op < 12) || decide (17 < p.op)) = false := by simp; omega
  have HT : Hid (T = if x.op == 1 && y.op == 2 then (x.n, y.v, p.op, true) else if x.op == 2 && y.op == 1 then (y.n, x.v, turnI p.op, true) else (0, .null, 0, false)) := by
    show _ = _
    rw [hT]
    unfold toldR
    rw [hd, hxy]
    rfl
  rw [hxy] at HAL
  obtain ⟨xb, xf, exx, hax, hay⟩ := at_twoE (unhide HAL)
  obtain ⟨ax, cx, ⟨d0, d1, d2, d3, d4, d5⟩, _⟩ := Ex.at_open hax
  obtain ⟨ay, cy, ⟨e0, e1, e2, e3, e4, e5⟩, _⟩ := Ex.at_open hay
  have HLL := hide hl2
  have HEX := hide exx
  have HS := hide (And.intro h12 h17)
  clear hT hs hxy hd hax hay hl2 exx HAL
  go_enter Try.func47, Try.ntmps47
  go_upto_region 1 with fail
  rw [← hwa]
  clear hwa
  obtain ⟨s0, s1, s2, s3, s4, s5⟩ := unhide H6
  go_upto_region 3 with fail
  rw [unhide HLL, unhide HEX] at s5
  go_cut [6, 7] (fun s6 s7 wr => ∃ b6 b7 : Nat, s6 = .pointer (some ⟨b6, 0, none⟩) ∧ s7 = .pointer (some ⟨b7, 0, none⟩) ∧ Hid (Six wr b6 x ax cx) ∧ Hid (Six wr b7 y ay cy) ∧ Hid (Below wa.heap.size wa wr))
  case first =>
    have al : ∀ {b o : Nat} {u : Value}, wa.cell? ⟨b, o, none⟩ = some u → ∀ ob, (wa.alloc ob).cell? ⟨b, o, none⟩ = some u := fun h ob => clater h (below_alloc (Below.refl _ _) ob)
    have al2 : ∀ {b o : Nat} {u : Value}, wa.cell? ⟨b, o, none⟩ = some u → ∀ ob ob', ((wa.alloc ob).alloc ob').cell? ⟨b, o, none⟩ = some u := fun h ob ob' => clater (clater h (below_alloc (Below.refl _ _) ob)) (below_alloc (Below.refl _ _) ob')
    have m0 := al d0
    have m1 := al d1
    have m2 := al d2
    have m3 := al d3
    have m4 := al d4
    have m5 := al d5
    have m6 := al e0
    have m7 := al e1
    have m8 := al e2
    have m9 := al e3
    have m10 := al e4
    have m11 := al e5
    have m12 := al s5
    have n0 := al2 d0
    have n1 := al2 d1
    have n2 := al2 d2
    have n3 := al2 d3
    have n4 := al2 d4
    have n5 := al2 d5
    have n6 := al2 e0
    have n7 := al2 e1
    have n8 := al2 e2
    have n9 := al2 e3
    have n10 := al2 e4
    have n11 := al2 e5
    have n12 := al2 s5
    clear al al2
    go_region
    all_goals
      go_wp2
      go_meet
      exact ⟨_, _, rfl, rfl, ⟨by simp [go_sem], by simp [go_sem], by simp [go_sem], by simp [go_sem], by simp [go_sem], by simp [go_sem]⟩, ⟨by simp [go_sem], by simp [go_sem], by simp [go_sem], by simp [go_sem], by simp [go_sem], by simp [go_sem]⟩, (below_alloc (below_alloc (Below.refl _ _) _) _).drew⟩
  case rest =>
    obtain ⟨b6, b7, rfl, rfl, HX, HY, HBQ⟩ := hcut
    rename World => wq
    have HBB := hide (below_step (unhide HBA) (unhide HBQ))
    have H6q := hide ((unhide H6).later (unhide HBQ))
    have H3q := hide ((unhide H3).later (unhide HBQ))
    clear H6 H3 HBA HBQ s0 s1 s2 s3 s4 s5 d0 d1 d2 d3 d4 d5 e0 e1 e2 e3 e4 e5 HLL HEX
    obtain ⟨x0, x1, x2, x3, x4, x5⟩ := unhide HX
    obtain ⟨y0, y1, y2, y3, y4, y5⟩ := unhide HY
    obtain ⟨s0, s1, s2, s3, s4, s5⟩ := unhide H6q
    obtain ⟨⟨t0, t1, t2⟩, f0, f1, f2⟩ := unhide H3q
    by_cases hx1 : x.op = 1
    · by_cases hy2 : y.op = 2
      · rw [hx1] at x0
        rw [hy2] at y0
        have HT2 : Hid (T = (x.n, y.v, p.op, true)) := by have q := unhide HT; rw [hx1, hy2] at q; exact q
        clear HT hx1 hy2
        go_upto_region 5 with fail
        go_region
        all_goals
          go_wp2
          exact bodyPost_ret (v := .tuple #[.int .i64 x.n, y.v.v, .int .i64 p.op, .bool true]) (by simp [results, Try.results47, go_sem, Val.open_, *]) rfl ⟨by rw [unhide HT2], (put3 (unhide HBB) (by omega) _ _ _).drew⟩
      · rw [hx1] at x0
        have e2 : (y.op == 2) = false := by simpa using hy2
        have HT2 : Hid (T = (0, .null, 0, false)) := by have q := unhide HT; rw [hx1, e2] at q; exact q
        clear HT hx1
        go_wp2_with (go_at_call 73; refine (unhide HNO _).mono ?_; rintro r w1 ⟨rfl, hb1⟩; obtain ⟨⟨t0, t1, t2⟩, f0, f1, f2⟩ := (unhide H3q).later hb1)
        exact bodyPost_ret (v := .tuple #[.int .i64 0, Val.null.v, .int .i64 0, .bool false]) (by simp [results, Try.results47, go_sem, Val.open_, *]) rfl ⟨by rw [unhide HT2], put3 (below_step (unhide HBB) hb1) (by omega) _ _ _⟩
    · have e1 : (x.op == 1) = false := by simpa using hx1
      by_cases hx2 : x.op = 2
      · by_cases hy1 : y.op = 1
        · rw [hx2] at x0
          rw [hy1] at y0
          have HT2 : Hid (T = (y.n, x.v, turnI p.op, true)) := by have q := unhide HT; rw [hx2, hy1] at q; exact q
          clear HT hx1 hx2 hy1 e1
          have hop : p.op = 12 ∨ p.op = 13 ∨ p.op = 14 ∨ p.op = 15 ∨ p.op = 16 ∨ p.op = 17 := by omega
          have hlt : w.heap.size + 1 < wq.heap.size := World.block_lt_of_cell? _ _ t0
          have hne : ¬ wq.heap.size = w.heap.size + 1 := by omega
          have hne2 : ¬ w.heap.size + 1 = wq.heap.size := by omega
          clear hlt
          rcases hop with h | h | h | h | h | h
          · have HT3 : Hid (T = (y.n, x.v, 12, true)) := by have q := unhide HT2; rw [h] at q; exact q
            have HH := hide h
            rw [h] at s0
            clear HT2 h h12 h17 HS hlo hhi
            go_upto_region 8 with fail
            refine enter_with (fun wz => Six wz b6 x ax cx ∧ Six wz b7 y ay cy ∧ Six wz w.heap.size p a c ∧ Tri3 wz (w.heap.size + 1) .null ∧ Below w.heap.size w wz ∧ wz.cell? ⟨wq.heap.size, 0, none⟩ = some (.int .i64 12)) ⟨(unhide HX).later (below_alloc (Below.refl _ _) _), (unhide HY).later (below_alloc (Below.refl _ _) _), (unhide H6q).later (below_alloc (Below.refl _ _) _), (unhide H3q).later (below_alloc (Below.refl _ _) _), below_alloc (unhide HBB) _, by simp [go_sem]⟩ ?_
            intro wz HZ
            clear x0 x1 x2 x3 x4 x5 y0 y1 y2 y3 y4 y5 s0 s1 s2 s3 s4 s5 t0 t1 t2 f0 f1 f2
            obtain ⟨⟨x0, x1, x2, x3, x4, x5⟩, ⟨y0, y1, y2, y3, y4, y5⟩, ⟨s0, s1, s2, s3, s4, s5⟩, ⟨⟨t0, t1, t2⟩, f0, f1, f2⟩, hBz, q0⟩ := unhide HZ
            rw [unhide HH] at s0
            go_region
            all_goals
              go_wp2
              exact bodyPost_ret (v := .tuple #[.int .i64 y.n, x.v.v, .int .i64 12, .bool true]) (by simp [results, Try.results47, go_sem, Val.open_, *]) rfl ⟨by rw [unhide HT3], (put3 hBz (by omega) _ _ _).drew⟩
          · have HT3 : Hid (T = (y.n, x.v, 13, true)) := by have q := unhide HT2; rw [h] at q; exact q
            have HH := hide h
            rw [h] at s0
            clear HT2 h h12 h17 HS hlo hhi
            go_upto_region 8 with fail
            refine enter_with (fun wz => Six wz b6 x ax cx ∧ Six wz b7 y ay cy ∧ Six wz w.heap.size p a c ∧ Tri3 wz (w.heap.size + 1) .null ∧ Below w.heap.size w wz ∧ wz.cell? ⟨wq.heap.size, 1, none⟩ = some (.int .i64 13)) ⟨(unhide HX).later (below_alloc (Below.refl _ _) _), (unhide HY).later (below_alloc (Below.refl _ _) _), (unhide H6q).later (below_alloc (Below.refl _ _) _), (unhide H3q).later (below_alloc (Below.refl _ _) _), below_alloc (unhide HBB) _, by simp [go_sem]⟩ ?_
            intro wz HZ
            clear x0 x1 x2 x3 x4 x5 y0 y1 y2 y3 y4 y5 s0 s1 s2 s3 s4 s5 t0 t1 t2 f0 f1 f2
            obtain ⟨⟨x0, x1, x2, x3, x4, x5⟩, ⟨y0, y1, y2, y3, y4, y5⟩, ⟨s0, s1, s2, s3, s4, s5⟩, ⟨⟨t0, t1, t2⟩, f0, f1, f2⟩, hBz, q0⟩ := unhide HZ
            rw [unhide HH] at s0
            go_region
            all_goals
              go_wp2
              exact bodyPost_ret (v := .tuple #[.int .i64 y.n, x.v.v, .int .i64 13, .bool true]) (by simp [results, Try.results47, go_sem, Val.open_, *]) rfl ⟨by rw [unhide HT3], (put3 hBz (by omega) _ _ _).drew⟩
          · have HT3 : Hid (T = (y.n, x.v, 16, true)) := by have q := unhide HT2; rw [h] at q; exact q
            have HH := hide h
            rw [h] at s0
            clear HT2 h h12 h17 HS hlo hhi
            go_upto_region 8 with fail
            refine enter_with (fun wz => Six wz b6 x ax cx ∧ Six wz b7 y ay cy ∧ Six wz w.heap.size p a c ∧ Tri3 wz (w.heap.size + 1) .null ∧ Below w.heap.size w wz ∧ wz.cell? ⟨wq.heap.size, 2, none⟩ = some (.int .i64 16)) ⟨(unhide HX).later (below_alloc (Below.refl _ _) _), (unhide HY).later (below_alloc (Below.refl _ _) _), (unhide H6q).later (below_alloc (Below.refl _ _) _), (unhide H3q).later (below_alloc (Below.refl _ _) _), below_alloc (unhide HBB) _, by simp [go_sem]⟩ ?_
            intro wz HZ
            clear x0 x1 x2 x3 x4 x5 y0 y1 y2 y3 y4 y5 s0 s1 s2 s3 s4 s5 t0 t1 t2 f0 f1 f2
            obtain ⟨⟨x0, x1, x2, x3, x4, x5⟩, ⟨y0, y1, y2, y3, y4, y5⟩, ⟨s0, s1, s2, s3, s4, s5⟩, ⟨⟨t0, t1, t2⟩, f0, f1, f2⟩, hBz, q0⟩ := unhide HZ
            rw [unhide HH] at s0
            go_region
            all_goals
              go_wp2
              exact bodyPost_ret (v := .tuple #[.int .i64 y.n, x.v.v, .int .i64 16, .bool true]) (by simp [results, Try.results47, go_sem, Val.open_, *]) rfl ⟨by rw [unhide HT3], (put3 hBz (by omega) _ _ _).drew⟩
          · have HT3 : Hid (T = (y.n, x.v, 17, true)) := by have q := unhide HT2; rw [h] at q; exact q
            have HH := hide h
            rw [h] at s0
            clear HT2 h h12 h17 HS hlo hhi
            go_upto_region 8 with fail
            refine enter_with (fun wz => Six wz b6 x ax cx ∧ Six wz b7 y ay cy ∧ Six wz w.heap.size p a c ∧ Tri3 wz (w.heap.size + 1) .null ∧ Below w.heap.size w wz ∧ wz.cell? ⟨wq.heap.size, 3, none⟩ = some (.int .i64 17)) ⟨(unhide HX).later (below_alloc (Below.refl _ _) _), (unhide HY).later (below_alloc (Below.refl _ _) _), (unhide H6q).later (below_alloc (Below.refl _ _) _), (unhide H3q).later (below_alloc (Below.refl _ _) _), below_alloc (unhide HBB) _, by simp [go_sem]⟩ ?_
            intro wz HZ
            clear x0 x1 x2 x3 x4 x5 y0 y1 y2 y3 y4 y5 s0 s1 s2 s3 s4 s5 t0 t1 t2 f0 f1 f2
            obtain ⟨⟨x0, x1, x2, x3, x4, x5⟩, ⟨y0, y1, y2, y3, y4, y5⟩, ⟨s0, s1, s2, s3, s4, s5⟩, ⟨⟨t0, t1, t2⟩, f0, f1, f2⟩, hBz, q0⟩ := unhide HZ
            rw [unhide HH] at s0
            go_region
            all_goals
              go_wp2
              exact bodyPost_ret (v := .tuple #[.int .i64 y.n, x.v.v, .int .i64 17, .bool true]) (by simp [results, Try.results47, go_sem, Val.open_, *]) rfl ⟨by rw [unhide HT3], (put3 hBz (by omega) _ _ _).drew⟩
          · have HT3 : Hid (T = (y.n, x.v, 14, true)) := by have q := unhide HT2; rw [h] at q; exact q
            have HH := hide h
            rw [h] at s0
            clear HT2 h h12 h17 HS hlo hhi
            go_upto_region 8 with fail
            refine enter_with (fun wz => Six wz b6 x ax cx ∧ Six wz b7 y ay cy ∧ Six wz w.heap.size p a c ∧ Tri3 wz (w.heap.size + 1) .null ∧ Below w.heap.size w wz ∧ wz.cell? ⟨wq.heap.size, 4, none⟩ = some (.int .i64 14)) ⟨(unhide HX).later (below_alloc (Below.refl _ _) _), (unhide HY).later (below_alloc (Below.refl _ _) _), (unhide H6q).later (below_alloc (Below.refl _ _) _), (unhide H3q).later (below_alloc (Below.refl _ _) _), below_alloc (unhide HBB) _, by simp [go_sem]⟩ ?_
            intro wz HZ
            clear x0 x1 x2 x3 x4 x5 y0 y1 y2 y3 y4 y5 s0 s1 s2 s3 s4 s5 t0 t1 t2 f0 f1 f2
            obtain ⟨⟨x0, x1, x2, x3, x4, x5⟩, ⟨y0, y1, y2, y3, y4, y5⟩, ⟨s0, s1, s2, s3, s4, s5⟩, ⟨⟨t0, t1, t2⟩, f0, f1, f2⟩, hBz, q0⟩ := unhide HZ
            rw [unhide HH] at s0
            go_region
            all_goals
              go_wp2
              exact bodyPost_ret (v := .tuple #[.int .i64 y.n, x.v.v, .int .i64 14, .bool true]) (by simp [results, Try.results47, go_sem, Val.open_, *]) rfl ⟨by rw [unhide HT3], (put3 hBz (by omega) _ _ _).drew⟩
          · have HT3 : Hid (T = (y.n, x.v, 15, true)) := by have q := unhide HT2; rw [h] at q; exact q
            have HH := hide h
            rw [h] at s0
            clear HT2 h h12 h17 HS hlo hhi
            go_upto_region 8 with fail
            refine enter_with (fun wz => Six wz b6 x ax cx ∧ Six wz b7 y ay cy ∧ Six wz w.heap.size p a c ∧ Tri3 wz (w.heap.size + 1) .null ∧ Below w.heap.size w wz ∧ wz.cell? ⟨wq.heap.size, 5, none⟩ = some (.int .i64 15)) ⟨(unhide HX).later (below_alloc (Below.refl _ _) _), (unhide HY).later (below_alloc (Below.refl _ _) _), (unhide H6q).later (below_alloc (Below.refl _ _) _), (unhide H3q).later (below_alloc (Below.refl _ _) _), below_alloc (unhide HBB) _, by simp [go_sem]⟩ ?_
            intro wz HZ
            clear x0 x1 x2 x3 x4 x5 y0 y1 y2 y3 y4 y5 s0 s1 s2 s3 s4 s5 t0 t1 t2 f0 f1 f2
            obtain ⟨⟨x0, x1, x2, x3, x4, x5⟩, ⟨y0, y1, y2, y3, y4, y5⟩, ⟨s0, s1, s2, s3, s4, s5⟩, ⟨⟨t0, t1, t2⟩, f0, f1, f2⟩, hBz, q0⟩ := unhide HZ
            rw [unhide HH] at s0
            go_region
            all_goals
              go_wp2
              exact bodyPost_ret (v := .tuple #[.int .i64 y.n, x.v.v, .int .i64 15, .bool true]) (by simp [results, Try.results47, go_sem, Val.open_, *]) rfl ⟨by rw [unhide HT3], (put3 hBz (by omega) _ _ _).drew⟩
        · rw [hx2] at x0
          have e2 : (y.op == 1) = false := by simpa using hy1
          have HT2 : Hid (T = (0, .null, 0, false)) := by have q := unhide HT; rw [hx2, e2] at q; exact q
          clear HT hx1 hx2 e1
          go_wp2_with (go_at_call 73; refine (unhide HNO _).mono ?_; rintro r w1 ⟨rfl, hb1⟩; obtain ⟨⟨t0, t1, t2⟩, f0, f1, f2⟩ := (unhide H3q).later hb1)
          exact bodyPost_ret (v := .tuple #[.int .i64 0, Val.null.v, .int .i64 0, .bool false]) (by simp [results, Try.results47, go_sem, Val.open_, *]) rfl ⟨by rw [unhide HT2], put3 (below_step (unhide HBB) hb1) (by omega) _ _ _⟩
      · have e2 : (x.op == 2) = false := by simpa using hx2
        have HT2 : Hid (T = (0, .null, 0, false)) := by have q := unhide HT; rw [e1, e2] at q; exact q
        clear HT
        go_wp2_with (go_at_call 73; refine (unhide HNO _).mono ?_; rintro r w1 ⟨rfl, hb1⟩; obtain ⟨⟨t0, t1, t2⟩, f0, f1, f2⟩ := (unhide H3q).later hb1)
        exact bodyPost_ret (v := .tuple #[.int .i64 0, Val.null.v, .int .i64 0, .bool false]) (by simp [results, Try.results47, go_sem, Val.open_, *]) rfl ⟨by rw [unhide HT2], put3 (below_step (unhide HBB) hb1) (by omega) _ _ _⟩
end Go.Proofs.Ytfnacpkodfhfoad

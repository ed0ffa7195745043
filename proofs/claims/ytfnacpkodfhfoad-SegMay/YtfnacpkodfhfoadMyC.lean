import Derived.Test.YtfnacpkodfhfoadMyB
import Derived.Test.YtfnacpkodfhfoadKnB
set_option linter.unusedSimpArgs false
set_option linter.unusedVariables false
namespace Go.Proofs.Ytfnacpkodfhfoad
open Go.RowKit Go.Sort

def colOf (e : Ex) : Nat := (e.args.headD zeroE').n.toNat
/-- Is it certainly true of no row? -/
def neverE (h : Hd) (p : Ex) : Bool :=
  if p.op == 2 then !trueB p.v else if nulcol p then decide (h.nulls.getD (colOf p) 0 ≤ 0)
  else if p.op == 4 && nulcol (p.args.headD zeroE') then nulV (h.low.getD (colOf (p.args.headD zeroE')) .null)
  else if decide (12 ≤ p.op) && decide (p.op ≤ 17) then neverSo h p.op (p.args.getD 0 zeroE') (p.args.getD 1 zeroE')
  else false
/-- All its lists have this length. -/
def Hd.len (h : Hd) (N : Nat) : Prop := h.low.length = N ∧ h.high.length = N ∧ h.nulls.length = N
theorem arity_one {p : Ex} (hg : goodE p) (h : p.op = 5 ∨ p.op = 4) : p.args.length = 1 := by
  have hl := sound_len (good_open hg).1
  rcases h with h | h
  · rw [h, show arI 5 = 1 by decide] at hl; omega
  · rw [h, show arI 4 = 1 by decide] at hl; omega
theorem arity_two {p : Ex} (hg : goodE p) (h1 : 12 ≤ p.op) (h2 : p.op ≤ 17) : p.args.length = 2 := by
  have hl := sound_len (good_open hg).1
  have : arI p.op = 2 := by
    unfold arI
    rw [if_neg (by simp; omega), if_neg (by simp; omega), if_neg (by simp; omega), if_pos (by simp; omega)]
  omega
theorem one_argM {p : Ex} (h : p.args.length = 1) : ∃ x, p.args = [x] := by
  match p.args, h with
  | [x], _ => exact ⟨x, rfl⟩
theorem two_argsM {p : Ex} (h : p.args.length = 2) : ∃ x y, p.args = [x, y] := by
  match p.args, h with
  | [x, y], _ => exact ⟨x, y, rfl⟩
theorem at_zero {w : World} {a : Option Addr} {x : Ex} {l : List Ex} (h : Ex.all w a (x :: l)) : ∃ b off, a = some ⟨b, off, none⟩ ∧ Ex.at w b off x := by
  rw [Ex.all] at h
  obtain ⟨b, off, h1, h2, _⟩ := h
  exact ⟨b, off, h1, h2⟩
theorem at_two {w : World} {a : Option Addr} {x y : Ex} (h : Ex.all w a [x, y]) : ∃ b off, a = some ⟨b, off, none⟩ ∧ Ex.at w b off x ∧ Ex.at w b (off + 6) y := by
  rw [Ex.all] at h
  obtain ⟨b, off, h1, h2, h3⟩ := h
  rw [Ex.all] at h3
  obtain ⟨b', off', h4, h5, _⟩ := h3
  simp only [Option.some.injEq, Addr.mk.injEq, and_true] at h4
  obtain ⟨rfl, rfl⟩ := h4
  exact ⟨b, off, h1, h2, h5⟩
theorem nulcol_yes {e : Ex} (h : nulcol e = true) : e.op = 5 ∧ (e.args.headD zeroE').op = 1 := by
  unfold nulcol at h
  simpa using h
theorem getD_nat {l : List Int} {n : Nat} (h : n < l.length) : l[n]? = some (l.getD n 0) := by
  rw [List.getD_eq_getElem?_getD, List.getElem?_eq_getElem h]
  rfl
set_option maxHeartbeats 4000000 in
set_option maxRecDepth 100000 in
/-- isNever (19). -/
theorem never_any (h : Hd) (m : Hm) (N : Nat) (hN : h.len N) (hN64 : N ≤ 140737488355328) (p : Ex) (hg : goodE p) (hu : usesB p N = true) (a : Option Addr) (c : Nat) (w : World) (ha : Ex.all w a p.args) (hh : HdAt w h m) :
    Calls Try.prog 19 #[p.val a c, h.val m] w fun r w' => r = .returned (.bool (neverE h p)) ∧ Below w.heap.size w w' := by
  obtain ⟨wa, hwa⟩ : ∃ wa, wa = (w.alloc (p.box a c)).alloc (h.box m) := ⟨_, rfl⟩
  have HBA : Hid (Below w.heap.size w wa) := by rw [hwa]; exact below_alloc (below_alloc (Below.refl _ _) _) _
  have HX : Hid (Six wa w.heap.size p a c) := by rw [hwa]; exact (Six.new w p a c).later (below_alloc (Below.refl _ _) _)
  have hs1 : (w.alloc (p.box a c)).heap.size = w.heap.size + 1 := by simp [go_sem]
  have HH : Hid (Four wa (w.heap.size + 1) h m) := by
    have q := Four.new (w.alloc (p.box a c)) h m
    rw [hs1] at q
    rw [hwa]
    exact q
  have HAT := hide (hh.later (unhide HBA))
  have HAL := hide (Ex.all_later _ ha (unhide HBA))
  have HNN := hide hN
  clear hN
  have HNC := hide (fun (W : World) (hW : Below w.heap.size w W) => nulcol_any p (fun h5 => arity_one hg (.inl h5)) a c W (Ex.all_later _ ha hW))
  obtain ⟨R, hR⟩ : ∃ R, R = neverE h p := ⟨_, rfl⟩
  rw [← hR]
  rw [Ex.val_open] at HNC
  rw [Ex.val_open, Hd.val_open]
  unfold Ex.box Hd.box at hwa
  clear hs1 ha hh
  by_cases h2 : p.op = 2
  · have HR : Hid (R = !trueB p.v) := by show _ = _; rw [hR]; unfold neverE; rw [h2]; rfl
    have HT := hide (fun W => true_any p.v W)
    rw [Val.open_] at HT
    generalize trueB p.v = tb at *
    have H2 := hide h2
    clear hR h2 HNC hg hu
    go_enter Try.func19, Try.ntmps19
    go_upto_region 1 with fail
    rw [← hwa]
    clear hwa
    obtain ⟨s0, s1, s2, s3, s4, s5⟩ := unhide HX
    rw [unhide H2] at s0
    go_wp2_with (go_at_call 7; refine (unhide HT _).mono ?_; rintro r w1 ⟨rfl, hb1⟩)
    go_ret
    exact ⟨by rw [unhide HR]; rfl, below_step (unhide HBA) hb1⟩
  have n2 : (p.op == 2) = false := by simpa using h2
  cases hnc : nulcol p with
  | true =>
    obtain ⟨h5, hx1⟩ := nulcol_yes hnc
    obtain ⟨x, hx⟩ := one_argM (arity_one hg (.inl h5))
    rw [hx] at hx1
    have hx1 : x.op = 1 := hx1
    have hxg : p.args[0]? = some x := by rw [hx]; rfl
    have hgx := good_arg hg hxg
    have hxn := col_nat hgx hx1
    have hxl := uses_col (uses_arg hu hxg) hx1
    obtain ⟨n, hn⟩ : ∃ n : Nat, x.n = n := ⟨x.n.toNat, by omega⟩
    have hcol : colOf p = n := by unfold colOf; rw [hx]; show x.n.toNat = n; rw [hn]; rfl
    have HR : Hid (R = decide (h.nulls.getD n 0 ≤ 0)) := by show _ = _; rw [hR]; unfold neverE; rw [n2, hnc, hcol]; rfl
    have hgn := getD_nat (l := h.nulls) (n := n) (by have := (unhide HNN).2.2; omega)
    generalize h.nulls.getD n 0 = q at *
    obtain ⟨nb, nf, en, q0⟩ := (unhide HAT).2.2.get hgn
    rw [hx] at HAL
    obtain ⟨xb, xf, exx, hat⟩ := at_zero (unhide HAL)
    obtain ⟨a', c', ⟨d0, d1, d2, d3, d4, d5⟩, _⟩ := Ex.at_open hat
    rw [hn] at d1
    rw [hnc] at HNC
    have hll : p.args.length = 1 := by rw [hx]; rfl
    have hnl : (n : Int) < (h.nulls.length : Int) := by have := (unhide HNN).2.2; omega
    rw [h5] at HNC
    have H5 := hide h5
    have HLL := hide hll
    have HEN := hide en
    have HEX := hide exx
    clear hR h2 hnc h5 hx1 hx hxg hgx hxn hxl hn hcol hgn hat hg hu hll en exx HAL HAT n2
    go_enter Try.func19, Try.ntmps19
    go_upto_region 1 with fail
    rw [← hwa]
    clear hwa
    obtain ⟨s0, s1, s2, s3, s4, s5⟩ := unhide HX
    rw [unhide H5] at s0
    go_upto_region 4 with (go_at_call 36; refine (unhide HNC _ (unhide HBA)).mono ?_; rintro r w1 ⟨rfl, hb1⟩)
    clear s0 s1 s2 s3 s4 s5
    obtain ⟨s0, s1, s2, s3, s4, s5⟩ := (unhide HX).later hb1
    obtain ⟨u0, u1, u2, u3⟩ := (unhide HH).later hb1
    rw [unhide HLL, unhide HEX] at s5
    rw [unhide HEN] at u3
    have d1 := clater d1 hb1
    have q0 := clater q0 hb1
    go_quiet (fail)
    go_wp2
    go_ret
    exact ⟨by rw [unhide HR]; rfl, below_drewN (below_step (unhide HBA) hb1) _⟩
  | false =>
    rw [hnc] at HNC
    by_cases h4 : p.op = 4
    · obtain ⟨x, hx⟩ := one_argM (arity_one hg (.inr h4))
      have hxg : p.args[0]? = some x := by rw [hx]; rfl
      have hgx := good_arg hg hxg
      have hux := uses_arg hu hxg
      have hR2 : R = if nulcol x then nulV (h.low.getD (colOf x) .null) else false := by
        rw [hR]
        unfold neverE
        rw [n2, hnc, h4, hx]
        show (if nulcol x = true then _ else _) = _
        cases nulcol x <;> rfl
      have HR2 := hide hR2
      rw [hx] at HAL
      obtain ⟨xb, xf, exx, hat⟩ := at_zero (unhide HAL)
      obtain ⟨a', c', ⟨d0, d1, d2, d3, d4, d5⟩, hal⟩ := Ex.at_open hat
      have HNX := hide (fun (W : World) (hW : Below wa.heap.size wa W) => nulcol_any x (fun h5 => arity_one hgx (.inl h5)) a' c' W (Ex.all_later _ hal hW))
      rw [Ex.val_open] at HNX
      have hll : p.args.length = 1 := by rw [hx]; rfl
      rw [h4] at HNC
      have H4 := hide h4
      have HLL := hide hll
      have HEX := hide exx
      cases hnx : nulcol x with
      | false =>
        rw [hnx] at HNX HR2
        clear hR hR2 h2 hnc h4 hx hxg hgx hux hat hal hg hu hll exx HAL HAT n2 hnx
        go_enter Try.func19, Try.ntmps19
        go_upto_region 1 with fail
        rw [← hwa]
        clear hwa
        obtain ⟨s0, s1, s2, s3, s4, s5⟩ := unhide HX
        rw [unhide H4] at s0
        go_wp2_with (first
          | (go_at_call 36; refine (unhide HNX w1 hb1).mono ?_; rintro r w2 ⟨rfl, hb2⟩; obtain ⟨s0, s1, s2, s3, s4, s5⟩ := (unhide HX).later (below_step hb1 hb2); rw [unhide H4] at s0)
          | (go_at_call 36; refine (unhide HNC _ (unhide HBA)).mono ?_; rintro r w1 ⟨rfl, hb1⟩; obtain ⟨s0, s1, s2, s3, s4, s5⟩ := (unhide HX).later hb1; rw [unhide H4] at s0; rw [unhide HLL, unhide HEX] at s5; have d0 := clater d0 hb1; have d1 := clater d1 hb1; have d2 := clater d2 hb1; have d3 := clater d3 hb1; have d4 := clater d4 hb1; have d5 := clater d5 hb1))
        go_ret
        exact ⟨by rw [unhide HR2]; rfl, below_step (unhide HBA) (below_step hb1 hb2)⟩
      | true =>
        obtain ⟨g5, hz1⟩ := nulcol_yes hnx
        obtain ⟨z, hz⟩ := one_argM (arity_one hgx (.inl g5))
        rw [hz] at hz1
        have hz1 : z.op = 1 := hz1
        have hzg : x.args[0]? = some z := by rw [hz]; rfl
        have hzn := col_nat (good_arg hgx hzg) hz1
        have hzl := uses_col (uses_arg hux hzg) hz1
        obtain ⟨n, hn⟩ : ∃ n : Nat, z.n = n := ⟨z.n.toNat, by omega⟩
        have hcol : colOf x = n := by unfold colOf; rw [hz]; show z.n.toNat = n; rw [hn]; rfl
        rw [hnx, hcol] at HR2
        have hgl := getD_val (l := h.low) (n := n) (by have := (unhide HNN).1; omega)
        generalize h.low.getD n .null = lo at *
        obtain ⟨lb, lf, el, l0, l1, l2⟩ := (unhide HAT).1.lo hgl
        rw [hz] at hal
        obtain ⟨zb, zf, ez, hat2⟩ := at_zero hal
        obtain ⟨a3, c3, ⟨e0, e1, e2, e3, e4, e5⟩, _⟩ := Ex.at_open hat2
        rw [hn] at e1
        rw [hnx] at HNX
        have hzz : x.args.length = 1 := by rw [hz]; rfl
        have hnl : (n : Int) < (h.low.length : Int) := by have := (unhide HNN).1; omega
        have HSN := hide (fun W => segnull_any lo W)
        rw [Val.open_] at HSN
        have HEL := hide el
        have HEZ := hide ez
        have HZZ := hide hzz
        generalize nulV lo = nv at *
        clear hR hR2 h2 hnc h4 hx hxg hgx hux hat hal hg hu hll exx HAL HAT n2 hnx g5 hz1 hz hzg hzn hzl hn hcol hgl el ez hat2 hzz
        go_enter Try.func19, Try.ntmps19
        go_upto_region 1 with fail
        rw [← hwa]
        clear hwa
        obtain ⟨s0, s1, s2, s3, s4, s5⟩ := unhide HX
        rw [unhide H4] at s0
        go_upto_region 6 with (first
          | (go_at_call 36; refine (unhide HNX w1 hb1).mono ?_; rintro r w2 ⟨rfl, hb2⟩)
          | (go_at_call 36; refine (unhide HNC _ (unhide HBA)).mono ?_; rintro r w1 ⟨rfl, hb1⟩; obtain ⟨s0, s1, s2, s3, s4, s5⟩ := (unhide HX).later hb1; rw [unhide H4] at s0; rw [unhide HLL, unhide HEX] at s5; have d0 := clater d0 hb1; have d1 := clater d1 hb1; have d2 := clater d2 hb1; have d3 := clater d3 hb1; have d4 := clater d4 hb1; have d5 := clater d5 hb1))
        have hb12 := below_step hb1 hb2
        clear s0 s1 s2 s3 s4 s5
        obtain ⟨s0, s1, s2, s3, s4, s5⟩ := (unhide HX).later hb12
        obtain ⟨u0, u1, u2, u3⟩ := (unhide HH).later hb12
        rw [unhide HLL, unhide HEX] at s5
        rw [unhide HEL] at u1
        have d5 := clater d5 hb2
        rw [unhide HZZ, unhide HEZ] at d5
        have e1 := clater e1 hb12
        have l0 := clater l0 hb12
        have l1 := clater l1 hb12
        have l2 := clater l2 hb12
        have k0 := cell_regrown s5
        have k1 := cell_regrown u1
        have k2 := cell_regrown d5
        have k3 := cell_regrown e1
        have k4 := cell_regrown l0
        have k5 := cell_regrown l1
        have k6 := cell_regrown l2
        refine wp_region_quiet_below (by kernel_rfl) (by kernel_rfl) ?_
        repeat (go_big_quiet_step ((go_at_call 37; exact Calls.regrown_of (unhide HSN _))))
        refine wpQuiet_nil ?_
        intro w' hw'
        have hB : Below w2.heap.size w2 w' := by obtain ⟨p, rfl⟩ := hw'; exact below_regrown _ _ _
        clear hw' k0 k1 k2 k3 k4 k5 k6 s0 s1 s2 s3 s4 s5 u0 u1 u2 u3 d0 d1 d2 d3 d4 d5 e0 e1 e2 e3 e4 e5 l0 l1 l2
        go_wp2
        go_ret
        exact ⟨by rw [unhide HR2]; rfl, below_step (below_step (unhide HBA) hb12) hB⟩
    have n4 : (p.op == 4) = false := by simpa using h4
    by_cases hc : 12 ≤ p.op ∧ p.op ≤ 17
    · have hd : (decide (12 ≤ p.op) && decide (p.op ≤ 17)) = true := by simp; omega
      obtain ⟨x, y, hxy⟩ := two_argsM (arity_two hg hc.1 hc.2)
      have hxg : p.args[0]? = some x := by rw [hxy]; rfl
      have hyg : p.args[1]? = some y := by rw [hxy]; rfl
      have HR : Hid (R = neverSo h p.op x y) := by show _ = _; rw [hR]; unfold neverE; rw [n2, hnc, n4, hd, hxy]; rfl
      obtain ⟨hNl, hNh, hNn⟩ := unhide HNN
      have HSO := hide (fun (a b : Option Addr) (c d : Nat) (W : World) (hW : HdAt W h m) => neverso_any h m p.op x y (fun q => by have h1 := col_nat (good_arg hg hxg) q; have h2 := uses_col (uses_arg hu hxg) q; omega) (fun q => by have h1 := col_nat (good_arg hg hyg) q; have h2 := uses_col (uses_arg hu hyg) q; omega) (by omega) (by omega) a b c d W hW)
      rw [hxy] at HAL
      obtain ⟨xb, xf, exx, hax, hay⟩ := at_two (unhide HAL)
      obtain ⟨a1, c1, ⟨d0, d1, d2, d3, d4, d5⟩, _⟩ := Ex.at_open hax
      obtain ⟨a2, c2, ⟨e0, e1, e2, e3, e4, e5⟩, _⟩ := Ex.at_open hay
      have HSX := hide (fun (W : World) (hW : Below wa.heap.size wa W) => unhide HSO a1 a2 c1 c2 W ((unhide HAT).later hW))
      rw [Ex.val_open, Ex.val_open, Hd.val_open] at HSX
      have hll : p.args.length = 2 := by rw [hxy]; rfl
      have HLL := hide hll
      have HEX := hide exx
      have hc1 := hc.1
      have hc2 := hc.2
      generalize neverSo h p.op x y = NS at *
      clear hR hnc hg hu HAL hc hd hNl hNh hNn hxg hyg hax hay hll exx hxy HSO
      go_enter Try.func19, Try.ntmps19
      go_upto_region 1 with fail
      rw [← hwa]
      clear hwa
      obtain ⟨s0, s1, s2, s3, s4, s5⟩ := unhide HX
      go_upto_region 8 with (go_at_call 36; refine (unhide HNC _ (unhide HBA)).mono ?_; rintro r w1 ⟨rfl, hb1⟩; obtain ⟨s0, s1, s2, s3, s4, s5⟩ := (unhide HX).later hb1)
      clear s0 s1 s2 s3 s4 s5
      obtain ⟨s0, s1, s2, s3, s4, s5⟩ := (unhide HX).later hb1
      obtain ⟨u0, u1, u2, u3⟩ := (unhide HH).later hb1
      rw [unhide HLL, unhide HEX] at s5
      have k0 := cell_regrown s0
      have k1 := cell_regrown s5
      have k2 := cell_regrown u0
      have k3 := cell_regrown u1
      have k4 := cell_regrown u2
      have k5 := cell_regrown u3
      have m0 := cell_regrown (clater d0 hb1)
      have m1 := cell_regrown (clater d1 hb1)
      have m2 := cell_regrown (clater d2 hb1)
      have m3 := cell_regrown (clater d3 hb1)
      have m4 := cell_regrown (clater d4 hb1)
      have m5 := cell_regrown (clater d5 hb1)
      have n0 := cell_regrown (clater e0 hb1)
      have n1 := cell_regrown (clater e1 hb1)
      have n2 := cell_regrown (clater e2 hb1)
      have n3 := cell_regrown (clater e3 hb1)
      have n4 := cell_regrown (clater e4 hb1)
      have n5 := cell_regrown (clater e5 hb1)
      clear s0 s1 s2 s3 s4 s5 u0 u1 u2 u3 d0 d1 d2 d3 d4 d5 e0 e1 e2 e3 e4 e5
      refine wp_region_quiet_below (by kernel_rfl) (by kernel_rfl) ?_
      repeat (go_big_quiet_step ((go_at_call 38; exact Calls.regrown_of (unhide HSX _ (below_step hb1 (below_regrown _ _ _))))))
      refine wpQuiet_nil ?_
      intro w' hw'
      have hB : Below w1.heap.size w1 w' := by obtain ⟨p, rfl⟩ := hw'; exact below_regrown _ _ _
      clear hw' k0 k1 k2 k3 k4 k5 m0 m1 m2 m3 m4 m5 n0 n1 n2 n3 n4 n5
      go_wp2
      go_ret
      exact ⟨by rw [unhide HR]; rfl, below_step (below_step (unhide HBA) hb1) hB⟩
    · have hd : (decide (12 ≤ p.op) && decide (p.op ≤ 17)) = false := by
        by_cases q : (decide (12 ≤ p.op) && decide (p.op ≤ 17)) = true
        · simp at q; exact absurd q hc
        · simpa using q
      have HR : Hid (R = false) := by show _ = _; rw [hR]; unfold neverE; rw [n2, hnc, n4, hd]; rfl
      have hcd : p.op < 12 ∨ 17 < p.op := by omega
      clear hR hnc hg hu HAL HAT hc hd
      rcases hcd with hcd | hcd
      · have hcd2 : ¬ 12 ≤ p.op := by omega
        go_enter Try.func19, Try.ntmps19
        go_upto_region 1 with fail
        rw [← hwa]
        clear hwa
        obtain ⟨s0, s1, s2, s3, s4, s5⟩ := unhide HX
        go_wp2_with (go_at_call 36; refine (unhide HNC _ (unhide HBA)).mono ?_; rintro r w1 ⟨rfl, hb1⟩; obtain ⟨s0, s1, s2, s3, s4, s5⟩ := (unhide HX).later hb1)
        go_ret
        exact ⟨by rw [unhide HR]; rfl, below_step (unhide HBA) hb1⟩
      · have hcd2 : ¬ p.op ≤ 17 := by omega
        have hcd3 : 12 ≤ p.op := by omega
        go_enter Try.func19, Try.ntmps19
        go_upto_region 1 with fail
        rw [← hwa]
        clear hwa
        obtain ⟨s0, s1, s2, s3, s4, s5⟩ := unhide HX
        go_wp2_with (go_at_call 36; refine (unhide HNC _ (unhide HBA)).mono ?_; rintro r w1 ⟨rfl, hb1⟩; obtain ⟨s0, s1, s2, s3, s4, s5⟩ := (unhide HX).later hb1)
        go_ret
        exact ⟨by rw [unhide HR]; rfl, below_step (unhide HBA) hb1⟩
end Go.Proofs.Ytfnacpkodfhfoad

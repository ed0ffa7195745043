import Derived.Test.YtfnacpkodfhfoadMyC
import Derived.Test.YtfnacpkodfhfoadMyE
set_option linter.unusedSimpArgs false
set_option linter.unusedVariables false
namespace Go.Proofs.Ytfnacpkodfhfoad
open Go.RowKit Go.Sort

theorem copy_arg {p x : Ex} {i : Nat} (h : copyE p = p) (hx : p.args[i]? = some x) : copyE x = x := by
  have h2 := copy_args p
  rw [h] at h2
  have h3 : (p.args.map copyE)[i]? = some x := by rw [← h2]; exact hx
  rw [List.getElem?_map, hx] at h3
  simpa using h3
theorem copy_clean {x : Ex} (h : copyE x = x) (h2 : x.op = 2) : nulV x.v = (x.v.k == 0) := by
  have q := copy_v x
  rw [h, h2] at q
  unfold nulV
  rw [show cleanV x.v = x.v from q.symm]
theorem turn_in {op : Int} (h1 : 12 ≤ op) (h2 : op ≤ 17) : 12 ≤ turnI op ∧ turnI op ≤ 17 := by
  unfold turnI
  split
  · omega
  · split
    · omega
    · split
      · omega
      · split <;> omega
/-- What is told of a column and a constant. -/
theorem told_never (h : Hd) (N : Nat) (p : Ex) (hg : goodE p) (hu : usesB p N = true) (hcp : copyE p = p) (hnc : nulcol p = false) (h4 : ¬ p.op = 4) (h2 : ¬ p.op = 2) :
    (toldR p = (0, .null, 0, false) ∧ neverE h p = false) ∨ ∃ (n : Nat) (v : Val) (op : Int), toldR p = ((n : Int), v, op, true) ∧ 12 ≤ op ∧ op ≤ 17 ∧ n < N ∧ nulV v = (v.k == 0) ∧ neverE h p = if nulV (h.low.getD n .null) || nulV v then true else outB op (ordV (h.low.getD n .null) v) (ordV (h.high.getD n .null) v) := by
  have n4 : (p.op == 4) = false := by simpa using h4
  have n2 : (p.op == 2) = false := by simpa using h2
  by_cases hc : 12 ≤ p.op ∧ p.op ≤ 17
  · have hd : (decide (12 ≤ p.op) && decide (p.op ≤ 17)) = true := by simp; omega
    have hd2 : (decide (p.op < 12) || decide (17 < p.op)) = false := by simp; omega
    obtain ⟨x, y, hxy⟩ := two_argsM (arity_two hg hc.1 hc.2)
    have hxg : p.args[0]? = some x := by rw [hxy]; rfl
    have hyg : p.args[1]? = some y := by rw [hxy]; rfl
    have hN : neverE h p = neverSo h p.op x y := by unfold neverE; rw [n2, hnc, n4, hd, hxy]; rfl
    have hT : toldR p = if x.op == 1 && y.op == 2 then (x.n, y.v, p.op, true) else if x.op == 2 && y.op == 1 then (y.n, x.v, turnI p.op, true) else (0, .null, 0, false) := by unfold toldR; rw [hd2, hxy]; rfl
    rw [hN, hT]
    by_cases hx1 : x.op = 1
    · by_cases hy2 : y.op = 2
      · right
        have g1 := col_nat (good_arg hg hxg) hx1
        have g2 := uses_col (uses_arg hu hxg) hx1
        obtain ⟨n, hn⟩ : ∃ n : Nat, x.n = n := ⟨x.n.toNat, by omega⟩
        refine ⟨n, y.v, p.op, by rw [hx1, hy2, hn]; rfl, hc.1, hc.2, by omega, copy_clean (copy_arg hcp hyg) hy2, ?_⟩
        unfold neverSo soB
        rw [hx1, hy2, hn]
        rfl
      · left
        have e2 : (y.op == 2) = false := by simpa using hy2
        have e3 : (y.op != 2) = true := by simpa using hy2
        refine ⟨by rw [hx1, e2]; rfl, ?_⟩
        unfold neverSo soB
        rw [hx1, e3]
        rfl
    · have e1 : (x.op == 1) = false := by simpa using hx1
      have e1' : (x.op != 1) = true := by simpa using hx1
      by_cases hx2 : x.op = 2
      · by_cases hy1 : y.op = 1
        · right
          have g1 := col_nat (good_arg hg hyg) hy1
          have g2 := uses_col (uses_arg hu hyg) hy1
          obtain ⟨n, hn⟩ : ∃ n : Nat, y.n = n := ⟨y.n.toNat, by omega⟩
          have ht := turn_in hc.1 hc.2
          refine ⟨n, x.v, turnI p.op, by rw [hx2, hy1, hn]; rfl, ht.1, ht.2, by omega, copy_clean (copy_arg hcp hxg) hx2, ?_⟩
          unfold neverSo soB
          rw [hx2, hy1, hn]
          rfl
        · left
          have e2 : (y.op == 1) = false := by simpa using hy1
          have e3 : (y.op != 1) = true := by simpa using hy1
          refine ⟨by rw [hx2, e2]; rfl, ?_⟩
          unfold neverSo soB
          rw [hx2, e3]
          rfl
      · left
        have e2 : (x.op == 2) = false := by simpa using hx2
        refine ⟨by rw [e1, e2]; rfl, ?_⟩
        unfold neverSo soB
        rw [e2, e1']
        rfl
  · left
    have hd : (decide (12 ≤ p.op) && decide (p.op ≤ 17)) = false := by
      by_cases q : (decide (12 ≤ p.op) && decide (p.op ≤ 17)) = true
      · simp at q; exact absurd q hc
      · simpa using q
    refine ⟨?_, by unfold neverE; rw [n2, hnc, n4, hd]; rfl⟩
    have hd2 : (decide (p.op < 12) || decide (17 < p.op)) = true := by simp; omega
    unfold toldR
    rw [hd2]
    rfl
theorem told_other {p : Ex} (h : p.op = 4) : toldR p = (0, .null, 0, false) := by
  unfold toldR
  rw [h]
  rfl
theorem nout12 (l g : Int) : (!outB 12 l g) = (decide (l ≤ 0) && decide (0 ≤ g)) := by
  show (!(decide (0 < l) || decide (g < 0))) = _
  by_cases h1 : 0 < l
  · have h2 : ¬ l ≤ 0 := by omega
    simp [h1, h2]
  · have h2 : l ≤ 0 := by omega
    by_cases h3 : g < 0
    · have h4 : ¬ 0 ≤ g := by omega
      simp [h1, h2, h3, h4]
    · have h4 : 0 ≤ g := by omega
      simp [h1, h2, h3, h4]
theorem nout13 (l g : Int) : (!outB 13 l g) = (l != 0 || g != 0) := by
  show (!(l == 0 && g == 0)) = _
  rw [Bool.not_and]
  rfl
theorem nout14 (l g : Int) : (!outB 14 l g) = decide (l < 0) := by
  show (!decide (0 ≤ l)) = _
  by_cases h1 : 0 ≤ l
  · have h2 : ¬ l < 0 := by omega
    simp [h1, h2]
  · have h2 : l < 0 := by omega
    simp [h1, h2]
theorem nout15 (l g : Int) : (!outB 15 l g) = decide (l ≤ 0) := by
  show (!decide (0 < l)) = _
  by_cases h1 : 0 < l
  · have h2 : ¬ l ≤ 0 := by omega
    simp [h1, h2]
  · have h2 : l ≤ 0 := by omega
    simp [h1, h2]
theorem nout16 (l g : Int) : (!outB 16 l g) = decide (0 < g) := by
  show (!decide (g ≤ 0)) = _
  by_cases h1 : g ≤ 0
  · have h2 : ¬ 0 < g := by omega
    simp [h1, h2]
  · have h2 : 0 < g := by omega
    simp [h1, h2]
theorem nout17 (l g : Int) : (!outB 17 l g) = decide (0 ≤ g) := by
  show (!decide (g < 0)) = _
  by_cases h1 : g < 0
  · have h2 : ¬ 0 ≤ g := by omega
    simp [h1, h2]
  · have h2 : 0 ≤ g := by omega
    simp [h1, h2]
set_option maxHeartbeats 4000000 in
set_option maxRecDepth 100000 in
/-- tallyref.possible (23). -/
theorem possible_any (h : Hd) (m : Hm) (N : Nat) (hN : h.len N) (hN64 : N ≤ 140737488355328) (p : Ex) (hg : goodE p) (hu : usesB p N = true) (hcp : copyE p = p) (a : Option Addr) (c : Nat) (w : World) (ha : Ex.all w a p.args) (hh : HdAt w h m) :
    Calls Try.prog 23 #[p.val a c, h.val m] w fun r w' => r = .returned (.bool (!neverE h p)) ∧ Below w.heap.size w w' := by
  obtain ⟨wa, hwa⟩ : ∃ wa, wa = (w.alloc (p.box a c)).alloc (h.box m) := ⟨_, rfl⟩
  have HBA : Hid (Below w.heap.size w wa) := by rw [hwa]; exact below_alloc (below_alloc (Below.refl _ _) _) _
  have HX : Hid (Six wa w.heap.size p a c) := by rw [hwa]; exact (Six.new w p a c).later (below_alloc (Below.refl _ _) _)
  have hs1 : (w.alloc (p.box a c)).heap.size = w.heap.size + 1 := by simp [go_sem]
  have HH : Hid (Four wa (w.heap.size + 1) h m) := by
    have q := Four.new (w.alloc (p.box a c)) h m
    rw [hs1] at q
    rw [hwa]
    exact q
  have HAT := hide (hh.later (unhide HBA))
  have HAL := hide (Ex.all_later _ ha (unhide HBA))
  have HNN := hide hN
  have HNC := hide (fun (W : World) (hW : Below w.heap.size w W) => rnull_any p (fun h5 => arity_one hg (.inl h5)) a c W (Ex.all_later _ ha hW))
  have HTD := hide (fun (W : World) (hW : Below w.heap.size w W) => told_any p (fun g1 g2 => arity_two hg g1 g2) a c W (Ex.all_later _ ha hW))
  obtain ⟨R, hR⟩ : ∃ R, R = !neverE h p := ⟨_, rfl⟩
  rw [← hR]
  rw [Ex.val_open] at HNC HTD
  rw [Ex.val_open, Hd.val_open]
  unfold Ex.box Hd.box at hwa
  clear hs1 ha hh hN
  cases hnc : nulcol p with
  | true =>
    obtain ⟨h5, hx1⟩ := nulcol_yes hnc
    obtain ⟨x, hx⟩ := one_argM (arity_one hg (.inl h5))
    rw [hx] at hx1
    have hx1 : x.op = 1 := hx1
    have hxg : p.args[0]? = some x := by rw [hx]; rfl
    have hgx := good_arg hg hxg
    have hxn := col_nat hgx hx1
    have hxl := uses_col (uses_arg hu hxg) hx1
    obtain ⟨n, hn⟩ : ∃ n : Nat, x.n = n := ⟨x.n.toNat, by omega⟩
    have hcol : colOf p = n := by unfold colOf; rw [hx]; show x.n.toNat = n; rw [hn]; rfl
    have hcoI : colI p = n := by unfold colI; rw [hnc, hx]; show x.n = n; exact hn
    have HR : Hid (R = decide (0 < h.nulls.getD n 0)) := by
      have n2 : (p.op == 2) = false := by rw [h5]; rfl
      show _ = _
      rw [hR]
      unfold neverE
      rw [n2, hnc, hcol]
      show (!decide (h.nulls.getD n 0 ≤ 0)) = _
      generalize h.nulls.getD n 0 = X
      by_cases q : X ≤ 0
      · have q2 : ¬ 0 < X := by omega
        simp [q, q2]
      · have q2 : 0 < X := by omega
        simp [q, q2]
    have hgn := getD_nat (l := h.nulls) (n := n) (by have := (unhide HNN).2.2; omega)
    generalize h.nulls.getD n 0 = q at *
    obtain ⟨nb, nf, en, q0⟩ := (unhide HAT).2.2.get hgn
    rw [hnc, hcoI] at HNC
    have hnl : (n : Int) < (h.nulls.length : Int) := by have := (unhide HNN).2.2; omega
    have HEN := hide en
    clear hR hnc h5 hx1 hx hxg hgx hxn hxl hn hcol hcoI hgn hg hu en HAL HAT HTD hcp
    go_enter Try.func23, Try.ntmps23
    go_upto_region 2 with fail
    rw [← hwa]
    clear hwa
    obtain ⟨s0, s1, s2, s3, s4, s5⟩ := unhide HX
    go_upto_region 4 with (go_at_call 44; refine (unhide HNC _ (unhide HBA)).mono ?_; rintro r w1 ⟨rfl, hb1⟩)
    clear s0 s1 s2 s3 s4 s5
    obtain ⟨u0, u1, u2, u3⟩ := (unhide HH).later hb1
    rw [unhide HEN] at u3
    have q0 := clater q0 hb1
    go_wp2
    go_ret
    exact ⟨by rw [unhide HR]; rfl, below_step (unhide HBA) hb1⟩
  | false =>
    have hcI : colI p = 0 := by unfold colI; rw [hnc]; rfl
    rw [hnc, hcI] at HNC
    by_cases h4 : p.op = 4
    · obtain ⟨x, hx⟩ := one_argM (arity_one hg (.inr h4))
      have hxg : p.args[0]? = some x := by rw [hx]; rfl
      have hgx := good_arg hg hxg
      have hux := uses_arg hu hxg
      have hT := told_other h4
      have HR2 : Hid (R = !(if nulcol x then nulV (h.low.getD (colOf x) .null) else false)) := by
        have n2 : (p.op == 2) = false := by rw [h4]; rfl
        show _ = _
        rw [hR]
        unfold neverE
        rw [n2, hnc, h4, hx]
        show (!(if nulcol x = true then _ else _)) = _
        cases nulcol x <;> rfl
      rw [hx] at HAL
      obtain ⟨xb, xf, exx, hat⟩ := at_zero (unhide HAL)
      obtain ⟨a', c', ⟨d0, d1, d2, d3, d4, d5⟩, hal⟩ := Ex.at_open hat
      have HNX := hide (fun (W : World) (hW : Below wa.heap.size wa W) => rnull_any x (fun h5 => arity_one hgx (.inl h5)) a' c' W (Ex.all_later _ hal hW))
      rw [Ex.val_open] at HNX
      have hll : p.args.length = 1 := by rw [hx]; rfl
      rw [h4] at HNC
      have H4 := hide h4
      have HLL := hide hll
      have HEX := hide exx
      cases hnx : nulcol x with
      | false =>
        have hcx : colI x = 0 := by unfold colI; rw [hnx]; rfl
        rw [hnx] at HR2
        rw [hnx, hcx] at HNX
        rw [h4] at HTD
        unfold TPost at HTD
        rw [hT] at HTD
        rw [Val.open_] at HTD
        simp only [Val.null] at HTD
        clear hR hnc hcI h4 hx hxg hgx hux hat hal hg hu hll exx HAL HAT hnx hcx hT hcp
        go_enter Try.func23, Try.ntmps23
        go_upto_region 2 with fail
        rw [← hwa]
        clear hwa
        obtain ⟨s0, s1, s2, s3, s4, s5⟩ := unhide HX
        rw [unhide H4] at s0
        go_wp2_with (first
          | (go_at_call 47; refine (unhide HTD w2 (below_step (unhide HBA) (below_step hb1 hb2))).mono ?_; rintro r w3 ⟨rfl, hb3⟩)
          | (go_at_call 44; refine (unhide HNX w1 hb1).mono ?_; rintro r w2 ⟨rfl, hb2⟩; obtain ⟨s0, s1, s2, s3, s4, s5⟩ := (unhide HX).later (below_step hb1 hb2); rw [unhide H4] at s0)
          | (go_at_call 44; refine (unhide HNC _ (unhide HBA)).mono ?_; rintro r w1 ⟨rfl, hb1⟩; obtain ⟨s0, s1, s2, s3, s4, s5⟩ := (unhide HX).later hb1; rw [unhide H4] at s0; rw [unhide HLL, unhide HEX] at s5; have d0 := clater d0 hb1; have d1 := clater d1 hb1; have d2 := clater d2 hb1; have d3 := clater d3 hb1; have d4 := clater d4 hb1; have d5 := clater d5 hb1))
        go_ret
        exact ⟨by rw [unhide HR2]; rfl, below_alloc (below_step (unhide HBA) (below_step (below_step hb1 hb2) hb3)) _⟩
      | true =>
        obtain ⟨g5, hz1⟩ := nulcol_yes hnx
        obtain ⟨z, hz⟩ := one_argM (arity_one hgx (.inl g5))
        rw [hz] at hz1
        have hz1 : z.op = 1 := hz1
        have hzg : x.args[0]? = some z := by rw [hz]; rfl
        have hzn := col_nat (good_arg hgx hzg) hz1
        have hzl := uses_col (uses_arg hux hzg) hz1
        obtain ⟨n, hn⟩ : ∃ n : Nat, z.n = n := ⟨z.n.toNat, by omega⟩
        have hcol : colOf x = n := by unfold colOf; rw [hz]; show z.n.toNat = n; rw [hn]; rfl
        have hcoI : colI x = n := by unfold colI; rw [hnx, hz]; show z.n = n; exact hn
        rw [hnx, hcol] at HR2
        rw [hnx, hcoI] at HNX
        have hgl := getD_val (l := h.low) (n := n) (by have := (unhide HNN).1; omega)
        generalize h.low.getD n .null = lo at *
        obtain ⟨lb, lf, el, l0, l1, l2⟩ := (unhide HAT).1.lo hgl
        have hnl : (n : Int) < (h.low.length : Int) := by have := (unhide HNN).1; omega
        have HCL := hide (fun W => rclean_any lo W)
        rw [Val.open_, Val.open_] at HCL
        have HR3 : Hid (R = ((cleanV lo).k != 0)) := by have q := unhide HR2; show _ = _; rw [q]; rfl
        generalize cleanV lo = u at *
        have hfk := field0 u.k u.n u.s
        have HEL := hide el
        clear hR hnc hcI h4 hx hxg hgx hux hat hal hg hu hll exx HAL HAT hnx g5 hz1 hz hzg hzn hzl hn hcol hcoI hgl el hT HTD HR2 hcp
        go_enter Try.func23, Try.ntmps23
        go_upto_region 2 with fail
        rw [← hwa]
        clear hwa
        obtain ⟨s0, s1, s2, s3, s4, s5⟩ := unhide HX
        rw [unhide H4] at s0
        go_wp2_with (first
          | (go_at_call 45; refine (unhide HCL _).mono ?_; rintro r w3 ⟨rfl, hb3⟩)
          | (go_at_call 44; refine (unhide HNX w1 hb1).mono ?_; rintro r w2 ⟨rfl, hb2⟩; have hb12 := below_step hb1 hb2; obtain ⟨u0, u1, u2, u3⟩ := (unhide HH).later hb12; rw [unhide HEL] at u1; have l0 := clater l0 hb12; have l1 := clater l1 hb12; have l2 := clater l2 hb12)
          | (go_at_call 44; refine (unhide HNC _ (unhide HBA)).mono ?_; rintro r w1 ⟨rfl, hb1⟩; obtain ⟨s0, s1, s2, s3, s4, s5⟩ := (unhide HX).later hb1; rw [unhide H4] at s0; rw [unhide HLL, unhide HEX] at s5; have d0 := clater d0 hb1; have d1 := clater d1 hb1; have d2 := clater d2 hb1; have d3 := clater d3 hb1; have d4 := clater d4 hb1; have d5 := clater d5 hb1))
        go_ret
        exact ⟨by rw [unhide HR3]; rfl, below_step (unhide HBA) (below_step hb12 hb3)⟩
    · by_cases h2 : p.op = 2
      · have HR : Hid (R = trueB p.v) := by show _ = _; rw [hR]; unfold neverE; rw [h2]; show (!(!trueB p.v)) = _; rw [Bool.not_not]
        have HT := hide (fun W => rtrue_any p.v W)
        rw [Val.open_] at HT
        generalize trueB p.v = tb at *
        rw [h2] at HNC
        have H2 := hide h2
        clear hR h2 hg hu HTD HAL HAT hcp hnc hcI h4
        go_enter Try.func23, Try.ntmps23
        go_upto_region 2 with fail
        rw [← hwa]
        clear hwa
        obtain ⟨s0, s1, s2, s3, s4, s5⟩ := unhide HX
        rw [unhide H2] at s0
        go_wp2_with (first
          | (go_at_call 44; refine (unhide HNC _ (unhide HBA)).mono ?_; rintro r w1 ⟨rfl, hb1⟩; obtain ⟨s0, s1, s2, s3, s4, s5⟩ := (unhide HX).later hb1; rw [unhide H2] at s0)
          | (go_at_call 46; refine (unhide HT _).mono ?_; rintro r w2 ⟨rfl, hb2⟩))
        go_ret
        exact ⟨by rw [unhide HR]; rfl, below_step (unhide HBA) (below_step hb1 hb2)⟩
      · rcases told_never h N p hg hu hcp hnc h4 h2 with ⟨hT, hNv⟩ | ⟨n, v, op, hT, o1, o2, hnN, hnv, hNv⟩
        · have HR : Hid (R = true) := by show _ = _; rw [hR, hNv]; rfl
          unfold TPost at HTD
          rw [hT] at HTD
          rw [Val.open_] at HTD
          simp only [Val.null] at HTD
          clear hR hnc hcI hg hu HAL HAT hT hNv hcp
          go_enter Try.func23, Try.ntmps23
          go_upto_region 2 with fail
          rw [← hwa]
          clear hwa
          obtain ⟨s0, s1, s2, s3, s4, s5⟩ := unhide HX
          go_wp2_with (first
            | (go_at_call 47; refine (unhide HTD w1 (below_step (unhide HBA) hb1)).mono ?_; rintro r w3 ⟨rfl, hb3⟩)
            | (go_at_call 44; refine (unhide HNC _ (unhide HBA)).mono ?_; rintro r w1 ⟨rfl, hb1⟩; obtain ⟨s0, s1, s2, s3, s4, s5⟩ := (unhide HX).later hb1))
          go_ret
          exact ⟨by rw [unhide HR]; rfl, below_alloc (below_step (unhide HBA) (below_step hb1 hb3)) _⟩
        · have hgl := getD_val (l := h.low) (n := n) (by have := (unhide HNN).1; omega)
          have hgh := getD_val (l := h.high) (n := n) (by have := (unhide HNN).2.1; omega)
          generalize h.low.getD n .null = lo at *
          generalize h.high.getD n .null = hi at *
          obtain ⟨lb, lf, el, l0, l1, l2⟩ := (unhide HAT).1.lo hgl
          obtain ⟨gb, gf, eg, g0, g1, g2⟩ := (unhide HAT).2.1.lo hgh
          have hnl : (n : Int) < (h.low.length : Int) := by have := (unhide HNN).1; omega
          have hnh : (n : Int) < (h.high.length : Int) := by have := (unhide HNN).2.1; omega
          have HR : Hid (R = !(if (cleanV lo).k == 0 || v.k == 0 then true else outB op (ordV lo v) (ordV hi v))) := by
            show _ = _
            rw [hR, hNv, hnv]
            rfl
          unfold TPost at HTD
          rw [hT] at HTD
          rw [Val.open_] at HTD
          simp only at HTD
          have HCL := hide (fun W => rclean_any lo W)
          rw [Val.open_, Val.open_] at HCL
          generalize cleanV lo = u at *
          have hfk := field0 u.k u.n u.s
          have HO1 : Hid (∀ (q : Val) (W : World), Calls Try.prog 48 #[.agg #[.int .i64 q.k, .int .i64 q.n, .string q.s], .agg #[.int .i64 v.k, .int .i64 v.n, .string v.s]] W fun e w' => e = .returned (.int .i64 (ordV q v)) ∧ Below W.heap.size W w') := fun q W => rorder_any q v W
          have HEL := hide el
          have HEG := hide eg
          have HOP := hide (And.intro o1 o2)
          clear hR hnc hcI hg hu HAL HAT hT hNv hcp hgl hgh el eg o1 o2 hnN hnv
          go_enter Try.func23, Try.ntmps23
          go_upto_region 2 with fail
          rw [← hwa]
          clear hwa
          obtain ⟨s0, s1, s2, s3, s4, s5⟩ := unhide HX
          go_upto_region 12 with (first
            | (go_at_call 47; refine (unhide HTD w1 (below_step (unhide HBA) hb1)).mono ?_; rintro r w3 ⟨rfl, hb3⟩)
            | (go_at_call 44; refine (unhide HNC _ (unhide HBA)).mono ?_; rintro r w1 ⟨rfl, hb1⟩; obtain ⟨s0, s1, s2, s3, s4, s5⟩ := (unhide HX).later hb1))
          obtain ⟨B, hB⟩ : ∃ B, B = w3.heap.size := ⟨_, rfl⟩
          refine enter_with (fun wz => Below wa.heap.size wa wz ∧ Tri wz B v) ?_ ?_
          · rw [hB]
            exact ⟨below_alloc (below_step hb1 hb3) _, by simp [go_sem], by simp [go_sem], by simp [go_sem]⟩
          intro wz HZ
          rw [← hB]
          clear hB hb1 hb3 s0 s1 s2 s3 s4 s5
          obtain ⟨hbz, z0, z1, z2⟩ := unhide HZ
          obtain ⟨u0, u1, u2, u3⟩ := (unhide HH).later hbz
          rw [unhide HEL] at u1
          rw [unhide HEG] at u2
          have l0 := clater l0 hbz
          have l1 := clater l1 hbz
          have l2 := clater l2 hbz
          have g0 := clater g0 hbz
          have g1 := clater g1 hbz
          have g2 := clater g2 hbz
          have HBZ := hide (below_step (unhide HBA) hbz)
          by_cases huk : u.k = 0
          · have HR2 : Hid (R = false) := by have q := unhide HR; rw [huk] at q; exact q
            rw [huk] at HCL hfk
            clear HR huk
            go_wp2_with (go_at_call 45; refine (unhide HCL _).mono ?_; rintro r w4 ⟨rfl, hb4⟩)
            go_ret
            exact ⟨by rw [unhide HR2]; rfl, below_step (unhide HBZ) hb4⟩
          · have huk1 : (u.k == 0) = false := by simpa using huk
            by_cases hvk : v.k = 0
            · have HR2 : Hid (R = false) := by have q := unhide HR; rw [hvk, huk1] at q; exact q
              have HVK := hide hvk
              clear HR hvk z0 z1 z2
              go_wp2_with (go_at_call 45; refine (unhide HCL _).mono ?_; rintro r w4 ⟨rfl, hb4⟩; obtain ⟨z0, z1, z2⟩ := (unhide HZ).2.later hb4; rw [unhide HVK] at z0)
              go_ret
              exact ⟨by rw [unhide HR2]; rfl, below_step (unhide HBZ) hb4⟩
            · have hvk1 : (v.k == 0) = false := by simpa using hvk
              have HR2 : Hid (R = !outB op (ordV lo v) (ordV hi v)) := by have q := unhide HR; rw [huk1, hvk1] at q; exact q
              clear HR
              have HVK := hide hvk
              clear z0 z1 z2
              go_upto_region 16 with (go_at_call 45; refine (unhide HCL _).mono ?_; rintro r w4 ⟨rfl, hb4⟩; obtain ⟨z0, z1, z2⟩ := (unhide HZ).2.later hb4)
              have hb4z := below_step hbz hb4
              have HB4 := hide (below_step (unhide HBZ) hb4)
              clear u0 u1 u2 u3
              obtain ⟨u0, u1, u2, u3⟩ := (unhide HH).later hb4z
              rw [unhide HEL] at u1
              rw [unhide HEG] at u2
              have k0 := cell_regrown u1
              have k1 := cell_regrown u2
              have k2 := cell_regrown (clater l0 hb4)
              have k3 := cell_regrown (clater l1 hb4)
              have k4 := cell_regrown (clater l2 hb4)
              have k5 := cell_regrown (clater g0 hb4)
              have k6 := cell_regrown (clater g1 hb4)
              have k7 := cell_regrown (clater g2 hb4)
              have k8 := cell_regrown z0
              have k9 := cell_regrown z1
              have k10 := cell_regrown z2
              clear u0 u1 u2 u3 z0 z1 z2 l0 l1 l2 g0 g1 g2
              refine wp_region_quiet_below (by kernel_rfl) (by kernel_rfl) ?_
              repeat (go_big_quiet_step ((go_at_call 48; exact Calls.regrown_of (unhide HO1 _ _))))
              refine wpQuiet_nil ?_
              intro w' hw'
              have hB : Below w4.heap.size w4 w' := by obtain ⟨p, rfl⟩ := hw'; exact below_regrown _ _ _
              clear hw' k0 k1 k2 k3 k4 k5 k6 k7 k8 k9 k10
              have HBF := hide (below_step (unhide HB4) hB)
              generalize ordV lo v = ol at *
              generalize ordV hi v = oh at *
              have hop : op = 12 ∨ op = 13 ∨ op = 14 ∨ op = 15 ∨ op = 16 ∨ op = 17 := by have := unhide HOP; omega
              clear HO1 HCL hfk huk huk1 hvk hvk1 hb4 hB hb4z hbz
              have hol : ol < 0 ∨ ol = 0 ∨ 0 < ol := by omega
              rcases hop with rfl | rfl | rfl | rfl | rfl | rfl
              · rw [nout12] at HR2
                rcases hol with hol | hol | hol
                · have y1 : ol ≤ 0 := by omega
                  have y2 : ¬ ol = 0 := by omega
                  have HR3 : Hid (R = decide (0 ≤ oh)) := by show _ = _; rw [unhide HR2]; simp [hol, y1, y2]
                  clear HR2
                  go_wp2
                  go_ret
                  exact ⟨by rw [unhide HR3]; rfl, below_alloc (unhide HBF) _⟩
                · subst hol
                  have HR3 : Hid (R = decide (0 ≤ oh)) := by show _ = _; rw [unhide HR2]; simp
                  clear HR2
                  go_wp2
                  go_ret
                  exact ⟨by rw [unhide HR3]; rfl, below_alloc (unhide HBF) _⟩
                · have y1 : ¬ ol ≤ 0 := by omega
                  have y2 : ¬ ol = 0 := by omega
                  have y3 : ¬ ol < 0 := by omega
                  have HR3 : Hid (R = false) := by show _ = _; rw [unhide HR2]; simp [y1, y2, y3]
                  clear HR2
                  go_wp2
                  go_ret
                  exact ⟨by rw [unhide HR3]; rfl, below_alloc (unhide HBF) _⟩
              · rw [nout13] at HR2
                rcases hol with hol | hol | hol
                · have y1 : ol ≤ 0 := by omega
                  have y2 : ¬ ol = 0 := by omega
                  have HR3 : Hid (R = true) := by show _ = _; rw [unhide HR2]; simp [hol, y1, y2]
                  clear HR2
                  go_wp2
                  go_ret
                  exact ⟨by rw [unhide HR3]; rfl, below_alloc (unhide HBF) _⟩
                · subst hol
                  have HR3 : Hid (R = (oh != 0)) := by show _ = _; rw [unhide HR2]; simp
                  clear HR2
                  go_wp2
                  go_ret
                  exact ⟨by rw [unhide HR3]; rfl, below_alloc (unhide HBF) _⟩
                · have y1 : ¬ ol ≤ 0 := by omega
                  have y2 : ¬ ol = 0 := by omega
                  have y3 : ¬ ol < 0 := by omega
                  have HR3 : Hid (R = true) := by show _ = _; rw [unhide HR2]; simp [y1, y2, y3]
                  clear HR2
                  go_wp2
                  go_ret
                  exact ⟨by rw [unhide HR3]; rfl, below_alloc (unhide HBF) _⟩
              · rw [nout14] at HR2
                rcases hol with hol | hol | hol
                · have y1 : ol ≤ 0 := by omega
                  have y2 : ¬ ol = 0 := by omega
                  have HR3 : Hid (R = true) := by show _ = _; rw [unhide HR2]; simp [hol, y1, y2]
                  clear HR2
                  go_wp2
                  go_ret
                  exact ⟨by rw [unhide HR3]; rfl, below_alloc (unhide HBF) _⟩
                · subst hol
                  have HR3 : Hid (R = false) := by show _ = _; rw [unhide HR2]; simp
                  clear HR2
                  go_wp2
                  go_ret
                  exact ⟨by rw [unhide HR3]; rfl, below_alloc (unhide HBF) _⟩
                · have y1 : ¬ ol ≤ 0 := by omega
                  have y2 : ¬ ol = 0 := by omega
                  have y3 : ¬ ol < 0 := by omega
                  have HR3 : Hid (R = false) := by show _ = _; rw [unhide HR2]; simp [y1, y2, y3]
                  clear HR2
                  go_wp2
                  go_ret
                  exact ⟨by rw [unhide HR3]; rfl, below_alloc (unhide HBF) _⟩
              · rw [nout15] at HR2
                rcases hol with hol | hol | hol
                · have y1 : ol ≤ 0 := by omega
                  have y2 : ¬ ol = 0 := by omega
                  have HR3 : Hid (R = true) := by show _ = _; rw [unhide HR2]; simp [hol, y1, y2]
                  clear HR2
                  go_wp2
                  go_ret
                  exact ⟨by rw [unhide HR3]; rfl, below_alloc (unhide HBF) _⟩
                · subst hol
                  have HR3 : Hid (R = true) := by show _ = _; rw [unhide HR2]; simp
                  clear HR2
                  go_wp2
                  go_ret
                  exact ⟨by rw [unhide HR3]; rfl, below_alloc (unhide HBF) _⟩
                · have y1 : ¬ ol ≤ 0 := by omega
                  have y2 : ¬ ol = 0 := by omega
                  have y3 : ¬ ol < 0 := by omega
                  have HR3 : Hid (R = false) := by show _ = _; rw [unhide HR2]; simp [y1, y2, y3]
                  clear HR2
                  go_wp2
                  go_ret
                  exact ⟨by rw [unhide HR3]; rfl, below_alloc (unhide HBF) _⟩
              · rw [nout16] at HR2
                rcases hol with hol | hol | hol
                · have y1 : ol ≤ 0 := by omega
                  have y2 : ¬ ol = 0 := by omega
                  have HR3 : Hid (R = decide (0 < oh)) := by show _ = _; rw [unhide HR2]
                  clear HR2
                  go_wp2
                  go_ret
                  exact ⟨by rw [unhide HR3]; rfl, below_alloc (unhide HBF) _⟩
                · subst hol
                  have HR3 : Hid (R = decide (0 < oh)) := by show _ = _; rw [unhide HR2]
                  clear HR2
                  go_wp2
                  go_ret
                  exact ⟨by rw [unhide HR3]; rfl, below_alloc (unhide HBF) _⟩
                · have y1 : ¬ ol ≤ 0 := by omega
                  have y2 : ¬ ol = 0 := by omega
                  have y3 : ¬ ol < 0 := by omega
                  have HR3 : Hid (R = decide (0 < oh)) := by show _ = _; rw [unhide HR2]
                  clear HR2
                  go_wp2
                  go_ret
                  exact ⟨by rw [unhide HR3]; rfl, below_alloc (unhide HBF) _⟩
              · rw [nout17] at HR2
                rcases hol with hol | hol | hol
                · have y1 : ol ≤ 0 := by omega
                  have y2 : ¬ ol = 0 := by omega
                  have HR3 : Hid (R = decide (0 ≤ oh)) := by show _ = _; rw [unhide HR2]
                  clear HR2
                  go_wp2
                  go_ret
                  exact ⟨by rw [unhide HR3]; rfl, below_alloc (unhide HBF) _⟩
                · subst hol
                  have HR3 : Hid (R = decide (0 ≤ oh)) := by show _ = _; rw [unhide HR2]
                  clear HR2
                  go_wp2
                  go_ret
                  exact ⟨by rw [unhide HR3]; rfl, below_alloc (unhide HBF) _⟩
                · have y1 : ¬ ol ≤ 0 := by omega
                  have y2 : ¬ ol = 0 := by omega
                  have y3 : ¬ ol < 0 := by omega
                  have HR3 : Hid (R = decide (0 ≤ oh)) := by show _ = _; rw [unhide HR2]
                  clear HR2
                  go_wp2
                  go_ret
                  exact ⟨by rw [unhide HR3]; rfl, below_alloc (unhide HBF) _⟩
end Go.Proofs.Ytfnacpkodfhfoad

import Derived.Test.YtmagpdblacgneaaGreatPuC
set_option linter.unusedSimpArgs false
set_option linter.unusedVariables false
namespace Go.Proofs.YtmagpdblacgneaaGreat
open Go.RowKit Go.Sort

set_option maxHeartbeats 400000 in
/-- isBelowZero (21). -/
theorem belowzero_any (n : Int) (w : World) : Calls Tryz.prog 31 #[.int .i64 n] w fun r w' => r = .returned (.bool (decide (n < 0))) ∧ Below w.heap.size w w' := by
  go_enter Tryz.func31, Tryz.ntmps31
  go_wp2
  go_ret
  exact ⟨rfl, by first | exact Below.refl _ _ | exact below_alloc (Below.refl _ _) _⟩
set_option maxHeartbeats 400000 in
set_option maxRecDepth 100000 in
theorem indexI_any (a : Option Addr) (c : Nat) (l : List Int) (w : World) (hl : l.length ≤ 140737488355328) (ha : IntsAt w a l) :
    Calls Tryz.prog 50 #[.slice a l.length c, .func (.func 31) #[] #[]] w fun e w' => ∃ r : Int, e = .returned (.int .i64 r) ∧ decide (0 ≤ r) = l.any (fun n => decide (n < 0)) ∧ Below w.heap.size w w' := by
  have HA := hide ha
  have HC := hide belowzero_any
  clear ha
  go_enter Tryz.func50, Tryz.ntmps50
  go_wp2_with fail
  go_loopw [8] (fun i wr => ∃ k : Nat, k ≤ l.length ∧ i = .int .i64 (k : Int) ∧ Hid (∀ i x, i < k → l[i]? = some x → decide (x < 0) = false) ∧ Below w.heap.size w wr) (fun i _ => l.length - (intOf i).toNat)
  case atStart => exact ⟨0, Nat.zero_le _, rfl, fun i x hi => absurd hi (by omega), Below.refl _ _⟩
  case round =>
    obtain ⟨k, hk, rfl, HN, hb⟩ := hrel
    by_cases hlt : k < l.length
    · have h9 : (k : Int) < (l.length : Int) := by omega
      obtain ⟨x, hx⟩ : ∃ x, l[k]? = some x := ⟨_, List.getElem?_eq_getElem hlt⟩
      obtain ⟨vb, vo, rfl, d0⟩ := ((unhide HA).later hb).get hx
      have HX := hide (unhide HC x wr)
      have HB := hide hb
      clear hb
      cases hp : decide (x < 0)
      · have HE := hide (no_step (p := fun n : Int => decide (n < 0)) (unhide HN) hx hp)
        rw [hp] at HX
        clear hx HN hp
        go_wp2_with (go_at_call 31; refine (unhide HX).mono ?_; rintro r w1 ⟨rfl, hb1⟩)
        exact ⟨⟨k + 1, by omega, by go_num, unhide HE, below_step (unhide HB) hb1⟩, by simp [intOf]; omega⟩
      · have HE : Hid (l.any (fun n => decide (n < 0)) = true) := any_at (p := fun n : Int => decide (n < 0)) hx hp
        rw [hp] at HX
        clear hx HN hp
        go_wp2_with (go_at_call 31; refine (unhide HX).mono ?_; rintro r w1 ⟨rfl, hb1⟩)
        go_ret
        exact ⟨_, rfl, by rw [unhide HE]; simp, below_step (unhide HB) hb1⟩
    · have h9 : ¬ (k : Int) < (l.length : Int) := by omega
      have HE : Hid (l.any (fun n => decide (n < 0)) = false) := any_no fun i x hi hx => unhide HN i x (by omega) hx
      have HB := hide hb
      clear HN hb
      go_wp2
      go_ret
      exact ⟨_, rfl, by rw [unhide HE]; rfl, unhide HB⟩
theorem containsI_any (a : Option Addr) (c : Nat) (l : List Int) (w : World) (hl : l.length ≤ 140737488355328) (ha : IntsAt w a l) :
    Calls Tryz.prog 30 #[.slice a l.length c, .func (.func 31) #[] #[]] w fun e w' => e = .returned (.bool (l.any fun n => decide (n < 0))) ∧ Below w.heap.size w w' := by
  have HI := hide (indexI_any a c l w hl ha)
  clear ha
  generalize (l.any fun n => decide (n < 0)) = r at *
  go_enter Tryz.func30, Tryz.ntmps30
  go_wp2_with (go_at_call 50; refine (unhide HI).mono ?_; rintro e w1 ⟨q, rfl, hq, hb⟩)
  go_ret
  exact ⟨rfl, hb⟩
/-- With to[N] for a column N. -/
def movG (tt : List Int) (e : Ex) : Ex := if e.op == 1 then .mk e.op (tt.getD e.n.toNat 0) e.v e.args else e
theorem movG_col {tt : List Int} {x : Ex} (h : x.op = 1) : movG tt x = .mk 1 (tt.getD x.n.toNat 0) x.v x.args := by unfold movG; rw [h]; rfl
theorem movG_no {tt : List Int} {x : Ex} (h : ¬ x.op = 1) : movG tt x = x := by
  have e1 : (x.op == 1) = false := by simpa using h
  unfold movG
  rw [e1]
  rfl
theorem getD_int {l : List Int} {n : Nat} (h : n < l.length) : l[n]? = some (l.getD n 0) := by
  rw [List.getD_eq_getElem?_getD, List.getElem?_eq_getElem h]
  rfl
set_option maxHeartbeats 1000000 in
set_option maxRecDepth 100000 in
/-- What the closure of Moved does. -/
theorem mov1_any (tt : List Int) (hbl : tt.length ≤ 140737488355328) (B : Nat) (aB : Option Addr) (cB : Nat) (e : Ex) (hP : e.op = 1 → 0 ≤ e.n ∧ e.n < tt.length) (a : Option Addr) (c : Nat) (lo : Nat) (w : World) (hlo : lo ≤ w.heap.size) (hK : ExK lo w a c e.args) (hB : Box1 w B (.slice aB tt.length cB)) (hA : IntsAt w aB tt) :
    Calls Tryz.prog 32 #[e.val a c, .pointer (some ⟨B, 0, none⟩)] w fun r w' => ∃ a2 c2, r = .returned ((movG tt e).val a2 c2) ∧ ExK lo w' a2 c2 (movG tt e).args ∧ Below w.heap.size w w' := by
  have HB0 : Hid (Below w.heap.size w ((w.alloc (.cells #[.int .i64 e.op, .int .i64 e.n, .int .i64 e.v.k, .int .i64 e.v.n, .string e.v.s, .slice a e.args.length c] 26)).alloc (.cells #[.int .i64 0, .int .i64 0, .int .i64 0, .int .i64 0, .string ⟨#[]⟩, .slice none 0 0] 26))) := below_alloc (below_alloc (Below.refl _ w) _) _
  have HK := hide hK
  have hbx : ((w.alloc (.cells #[.int .i64 e.op, .int .i64 e.n, .int .i64 e.v.k, .int .i64 e.v.n, .string e.v.s, .slice a e.args.length c] 26)).alloc (.cells #[.int .i64 0, .int .i64 0, .int .i64 0, .int .i64 0, .string ⟨#[]⟩, .slice none 0 0] 26)).cell? ⟨B, 0, none⟩ = some (.slice aB tt.length cB) := clater hB (unhide HB0)
  rw [Ex.val_open]
  by_cases h1 : e.op = 1
  · obtain ⟨h0, hlt⟩ := hP h1
    obtain ⟨n, hn⟩ : ∃ n : Nat, e.n = n := ⟨e.n.toNat, by omega⟩
    have hx : tt[n]? = some (tt.getD n 0) := getD_int (by omega)
    have hp : movG tt e = .mk 1 (tt.getD n 0) e.v e.args := by rw [movG_col h1, hn]; rfl
    generalize tt.getD n 0 = x at *
    obtain ⟨vb, vo, rfl, d0⟩ := (hA.later (unhide HB0)).get hx
    have HV := hide hp
    rw [h1, hn] at HB0 hbx d0 ⊢
    have h8 : (n : Int) < (tt.length : Int) := by omega
    clear hx hp hK hP h0 hlt hA hB
    go_enter Tryz.func32, Tryz.ntmps32
    go_wp2
    refine bodyPost_ret (v := (Ex.mk 1 x e.v e.args).val a c) (by simp [results, Tryz.results32, go_sem, Ex.val, Ex.op, Ex.n, Ex.v, Ex.args, *]) rfl ⟨a, c, by rw [unhide HV], ?_, ?_⟩
    · rw [unhide HV]
      exact (unhide HK).on (Kept.of_below _ _ (below_alloc (below_alloc (Below.refl _ w) _) _))
    · exact below_alloc (below_alloc (Below.refl _ w) _) _
  · have hp := movG_no (tt := tt) h1
    rw [hp]
    clear hp hP
    go_enter Tryz.func32, Tryz.ntmps32
    go_wp2
    refine bodyPost_ret (v := e.val a c) (by simp [results, Tryz.results32, go_sem, Ex.val, *]) rfl ⟨a, c, rfl, (unhide HK).on (Kept.of_below _ _ (below_alloc (below_alloc (Below.refl _ w) _) _)), below_alloc (below_alloc (Below.refl _ w) _) _⟩
theorem entMov : Enters 32 := fun args w => by kernel_rfl
set_option maxRecDepth 100000 in
theorem by_mov (tt : List Int) (hbl : tt.length ≤ 140737488355328) (B : Nat) (aB : Option Addr) (cB : Nat) (W : World) (hB : Box1 W B (.slice aB tt.length cB)) (hA : IntsAt W aB tt) :
    By W (.func (.func 32) #[] #[.pointer (some ⟨B, 0, none⟩)]) (movG tt) (fun e => e.op = 1 → 0 ≤ e.n ∧ e.n < tt.length) :=
  ⟨32, #[.pointer (some ⟨B, 0, none⟩)], rfl, entMov, fun W' lo e a c hW hlo hP hK => mov1_any tt hbl B aB cB e hP a c lo W' hlo hK (hB.later hW) (hA.later hW)⟩
theorem made_mov (tt : List Int) (hbl : tt.length ≤ 140737488355328) (B : Nat) (aB : Option Addr) (cB : Nat) (e : Ex) (hbe : builtE e = true) (hu : usesB e tt.length = true) (a : Option Addr) (c : Nat) (w : World) (ha : Ex.all w a e.args) (hB : Box1 w B (.slice aB tt.length cB)) (hA : IntsAt w aB tt) :
    Calls Tryz.prog 23 #[e.val a c, .func (.func 32) #[] #[.pointer (some ⟨B, 0, none⟩)]] w fun r w' => ∃ a2 c2, r = .returned ((madeE (movG tt) e).val a2 c2) ∧ ExK w.heap.size w' a2 c2 (madeE (movG tt) e).args ∧ Below w.heap.size w w' :=
  made_all (Q := fun x => goodE x ∧ usesB x tt.length = true)
    (fun x hq h1 => by
      have h1 : x.op = 1 := h1
      have e1 : (nodeG (movG tt) x).n = x.n := by show (if x.op == 1 then x.n else 0) = x.n; rw [h1]; rfl
      rw [e1]
      exact ⟨col_nat hq.1 h1, uses_col hq.2 h1⟩)
    (fun x y i hq hy => ⟨good_arg hq.1 hy, uses_arg hq.2 hy⟩) e.size e (Nat.le_refl _) (meas_short soundE e 400 40 (by omega) hbe) ⟨built_good hbe, hu⟩ a c w ha (by_mov tt hbl B aB cB w hB hA)
/-- May its columns be moved? -/
def okM (tt : List Int) (e : Ex) : Bool := builtE e && usesB e tt.length && !(tt.any fun n => decide (n < 0))
/-- What Moved answers. -/
def MovPost (tt : List Int) (e : Ex) (w : World) (r : Ending) (w' : World) : Prop :=
  (okM tt e = true ∧ ∃ a2 c2, r = .returned (.tuple #[(madeE (movG tt) e).val a2 c2, .int .i64 0]) ∧ ExK w.heap.size w' a2 c2 (madeE (movG tt) e).args ∧ Below w.heap.size w w') ∨
  (okM tt e = false ∧ r = .returned (.tuple #[zeroE.val none 0, .int .i64 1]) ∧ Below w.heap.size w w')
set_option maxHeartbeats 1000000 in
set_option maxRecDepth 100000 in
/-- Moved (6). -/
theorem moved_any (tt : List Int) (hbl : tt.length ≤ 140737488355328) (aB : Option Addr) (cB : Nat) (e : Ex) (hf : e.fin) (a : Option Addr) (c : Nat) (w : World) (ha : Ex.all w a e.args) (hA : IntsAt w aB tt) :
    Calls Tryz.prog 9 #[e.val a c, .slice aB tt.length cB] w (MovPost tt e w) := by
  have HB := hide (fun (W : World) (hW : Below w.heap.size w W) => built_any e hf a c W (Ex.all_later _ ha hW))
  have HN := hide (fun (W : World) (hW : Below w.heap.size w W) => containsI_any aB cB tt W hbl (hA.later hW))
  have HU := hide (fun (hb : builtE e = true) (W : World) (hW : Below w.heap.size w W) => uses_any e (built_good hb) hf (built_bounds hb).1 tt.length a c W (Ex.all_later _ ha hW))
  have HM := hide (fun (hbe : builtE e = true) (hu : usesB e tt.length = true) (B : Nat) (W : World) (hW : Below w.heap.size w W) (hB : Box1 W B (.slice aB tt.length cB)) => made_mov tt hbl B aB cB e hbe hu a c W (Ex.all_later _ ha hW) hB (hA.later hW))
  obtain ⟨wa, hwa⟩ : ∃ wa, wa = (((w.alloc (.cells #[.int .i64 e.op, .int .i64 e.n, .int .i64 e.v.k, .int .i64 e.v.n, .string e.v.s, .slice a e.args.length c] 26)).alloc (.cells #[.slice aB tt.length cB] 27)).alloc (.cells #[.int .i64 0, .int .i64 0, .int .i64 0, .int .i64 0, .string ⟨#[]⟩, .slice none 0 0] 26)) := ⟨_, rfl⟩
  have HBA : Hid (Below w.heap.size w wa) := by rw [hwa]; exact below_alloc (below_alloc (below_alloc (Below.refl _ w) _) _) _
  have H6 : Hid (Six wa w.heap.size e a c) := by rw [hwa]; exact (Six.new w e a c).later (below_alloc (below_alloc (Below.refl _ _) _) _)
  have HBX : Hid (wa.cell? ⟨w.heap.size + 1, 0, none⟩ = some (.slice aB tt.length cB)) := by rw [hwa]; show _ = _; simp [go_sem]
  have HZ : Hid (Box6 wa (w.heap.size + 2) zeroE none 0) := by
    have h := Box6.new ((w.alloc (.cells #[.int .i64 e.op, .int .i64 e.n, .int .i64 e.v.k, .int .i64 e.v.n, .string e.v.s, .slice a e.args.length c] 26)).alloc (.cells #[.slice aB tt.length cB] 27)) zeroE none 0
    rw [show ((w.alloc (.cells #[.int .i64 e.op, .int .i64 e.n, .int .i64 e.v.k, .int .i64 e.v.n, .string e.v.s, .slice a e.args.length c] 26)).alloc (.cells #[.slice aB tt.length cB] 27)).heap.size = w.heap.size + 2 by simp [go_sem]] at h
    rw [hwa]
    exact h
  have hsa : wa.heap.size = w.heap.size + 3 := by rw [hwa]; simp [go_sem]
  rw [Ex.val_open] at HB HU HM ⊢
  clear ha hA
  cases hb : builtE e with
  | false =>
    rw [hb] at HB
    have HOK : Hid (okM tt e = false) := by show _ = _; unfold okM; rw [hb]; rfl
    clear hb HN HU HM
    go_enter Tryz.func9, Tryz.ntmps9
    go_upto_region 1 with fail
    rw [← hwa]
    clear hwa
    obtain ⟨b0, b1, b2, b3, b4, b5⟩ := unhide H6
    go_wp2_with (go_at_call 21; refine (unhide HB wa (unhide HBA)).mono ?_; rintro r w1 ⟨rfl, hb1⟩; have hB1 := below_step (unhide HBA) hb1; obtain ⟨b0, b1, b2, b3, b4, b5⟩ := (unhide H6).later hb1; have q0 := clater (unhide HBX) hb1; obtain ⟨⟨z0, z1, z2, z3, z4, z5⟩, f0, f1, f2, f3, f4, f5⟩ := (unhide HZ).later hb1)
    refine bodyPost_ret (v := .tuple #[zeroE.val none 0, .int .i64 1]) (by simp [results, Tryz.results9, go_sem, Ex.val, Ex.op, Ex.n, Ex.v, Ex.args, Val.null, *]) rfl (.inr ⟨unhide HOK, rfl, ?_⟩)
    exact put6 hB1 (by omega) _ _ _ _ _ _
  | true =>
    have HU := hide (unhide HU hb)
    rw [hb] at HB
    cases hu : usesB e tt.length with
    | false =>
      rw [hu] at HU
      have HOK : Hid (okM tt e = false) := by show _ = _; unfold okM; rw [hu]; simp
      clear hb hu HM HN
      go_enter Tryz.func9, Tryz.ntmps9
      go_upto_region 1 with fail
      rw [← hwa]
      clear hwa
      obtain ⟨b0, b1, b2, b3, b4, b5⟩ := unhide H6
      go_wp2_with (first
        | (go_at_call 28; refine (unhide HU w1 hB1).mono ?_; rintro r w3 ⟨rfl, hb3⟩; have hB3 := below_step hB1 hb3; have hb13 := below_step hb1 hb3; obtain ⟨b0, b1, b2, b3, b4, b5⟩ := (unhide H6).later hb13; have q0 := clater (unhide HBX) hb13; obtain ⟨⟨z0, z1, z2, z3, z4, z5⟩, f0, f1, f2, f3, f4, f5⟩ := (unhide HZ).later hb13)
        | (go_at_call 21; refine (unhide HB wa (unhide HBA)).mono ?_; rintro r w1 ⟨rfl, hb1⟩; have hB1 := below_step (unhide HBA) hb1; obtain ⟨b0, b1, b2, b3, b4, b5⟩ := (unhide H6).later hb1; have q0 := clater (unhide HBX) hb1; obtain ⟨⟨z0, z1, z2, z3, z4, z5⟩, f0, f1, f2, f3, f4, f5⟩ := (unhide HZ).later hb1))
      refine bodyPost_ret (v := .tuple #[zeroE.val none 0, .int .i64 1]) (by simp [results, Tryz.results9, go_sem, Ex.val, Ex.op, Ex.n, Ex.v, Ex.args, Val.null, *]) rfl (.inr ⟨unhide HOK, rfl, ?_⟩)
      exact put6 hB3 (by omega) _ _ _ _ _ _
    | true =>
      rw [hu] at HU
      cases hn : tt.any (fun n => decide (n < 0)) with
      | true =>
        rw [hn] at HN
        have HOK : Hid (okM tt e = false) := by show _ = _; unfold okM; rw [hn]; simp
        clear hb hn hu HM
        go_enter Tryz.func9, Tryz.ntmps9
        go_upto_region 1 with fail
        rw [← hwa]
        clear hwa
        obtain ⟨b0, b1, b2, b3, b4, b5⟩ := unhide H6
        go_wp2_with (first
          | (go_at_call 30; refine (unhide HN w3 hB3).mono ?_; rintro r w4 ⟨rfl, hb4⟩; have hB4 := below_step hB3 hb4; have hb14 := below_step hb13 hb4; obtain ⟨b0, b1, b2, b3, b4, b5⟩ := (unhide H6).later hb14; have q0 := clater (unhide HBX) hb14; obtain ⟨⟨z0, z1, z2, z3, z4, z5⟩, f0, f1, f2, f3, f4, f5⟩ := (unhide HZ).later hb14)
          | (go_at_call 28; refine (unhide HU w1 hB1).mono ?_; rintro r w3 ⟨rfl, hb3⟩; have hB3 := below_step hB1 hb3; have hb13 := below_step hb1 hb3; obtain ⟨b0, b1, b2, b3, b4, b5⟩ := (unhide H6).later hb13; have q0 := clater (unhide HBX) hb13; obtain ⟨⟨z0, z1, z2, z3, z4, z5⟩, f0, f1, f2, f3, f4, f5⟩ := (unhide HZ).later hb13)
          | (go_at_call 21; refine (unhide HB wa (unhide HBA)).mono ?_; rintro r w1 ⟨rfl, hb1⟩; have hB1 := below_step (unhide HBA) hb1; obtain ⟨b0, b1, b2, b3, b4, b5⟩ := (unhide H6).later hb1; have q0 := clater (unhide HBX) hb1; obtain ⟨⟨z0, z1, z2, z3, z4, z5⟩, f0, f1, f2, f3, f4, f5⟩ := (unhide HZ).later hb1))
        refine bodyPost_ret (v := .tuple #[zeroE.val none 0, .int .i64 1]) (by simp [results, Tryz.results9, go_sem, Ex.val, Ex.op, Ex.n, Ex.v, Ex.args, Val.null, *]) rfl (.inr ⟨unhide HOK, rfl, ?_⟩)
        exact put6 hB4 (by omega) _ _ _ _ _ _
      | false =>
        rw [hn] at HN
        have HM2 := hide (unhide HM hb hu (w.heap.size + 1))
        have HOK : Hid (okM tt e = true) := by show _ = _; unfold okM; rw [hb, hu, hn]; rfl
        clear hb hn hu HM
        go_enter Tryz.func9, Tryz.ntmps9
        go_upto_region 1 with fail
        rw [← hwa]
        clear hwa
        obtain ⟨b0, b1, b2, b3, b4, b5⟩ := unhide H6
        obtain ⟨f, hfe⟩ : ∃ f, f = madeE (movG tt) e := ⟨_, rfl⟩
        rw [← hfe] at HM2
        have HFE := hide hfe
        clear hfe
        go_wp2_with (first
          | (go_at_call 23; refine (unhide HM2 w4 hB4 q0).mono ?_; rintro r w5 ⟨a2, c2, rfl, hK5, hb5⟩; have hB5 := below_step hB4 hb5; have HK5 := hide hK5; have hb15 := below_step hb14 hb5; clear hK5; obtain ⟨⟨z0, z1, z2, z3, z4, z5⟩, f0, f1, f2, f3, f4, f5⟩ := (unhide HZ).later hb15; rw [Ex.val_open])
          | (go_at_call 30; refine (unhide HN w3 hB3).mono ?_; rintro r w4 ⟨rfl, hb4⟩; have hB4 := below_step hB3 hb4; have hb14 := below_step hb13 hb4; obtain ⟨b0, b1, b2, b3, b4, b5⟩ := (unhide H6).later hb14; have q0 := clater (unhide HBX) hb14; obtain ⟨⟨z0, z1, z2, z3, z4, z5⟩, f0, f1, f2, f3, f4, f5⟩ := (unhide HZ).later hb14)
          | (go_at_call 28; refine (unhide HU w1 hB1).mono ?_; rintro r w3 ⟨rfl, hb3⟩; have hB3 := below_step hB1 hb3; have hb13 := below_step hb1 hb3; obtain ⟨b0, b1, b2, b3, b4, b5⟩ := (unhide H6).later hb13; have q0 := clater (unhide HBX) hb13; obtain ⟨⟨z0, z1, z2, z3, z4, z5⟩, f0, f1, f2, f3, f4, f5⟩ := (unhide HZ).later hb13)
          | (go_at_call 21; refine (unhide HB wa (unhide HBA)).mono ?_; rintro r w1 ⟨rfl, hb1⟩; have hB1 := below_step (unhide HBA) hb1; obtain ⟨b0, b1, b2, b3, b4, b5⟩ := (unhide H6).later hb1; have q0 := clater (unhide HBX) hb1; obtain ⟨⟨z0, z1, z2, z3, z4, z5⟩, f0, f1, f2, f3, f4, f5⟩ := (unhide HZ).later hb1))
        have hE := put6 hB5 (B := w.heap.size + 2) (by omega) (.int .i64 f.op) (.int .i64 f.n) (.int .i64 f.v.k) (.int .i64 f.v.n) (.string f.v.s) (.slice a2 f.args.length c2)
        have hs3 := hb14.size
        refine bodyPost_ret (v := .tuple #[f.val a2 c2, .int .i64 0]) (by simp [results, Tryz.results9, go_sem, Ex.val, *]) rfl (.inl ⟨unhide HOK, a2, c2, by rw [← unhide HFE], ?_, hE⟩)
        rw [← unhide HFE]
        refine ((unhide HK5).on ((((((Kept.of_low _ _ _ _ ?_).trans (Kept.of_low _ _ _ _ ?_)).trans (Kept.of_low _ _ _ _ ?_)).trans (Kept.of_low _ _ _ _ ?_)).trans (Kept.of_low _ _ _ _ ?_)).trans (Kept.of_low _ _ _ _ ?_))).more (by omega) <;> omega
end Go.Proofs.YtmagpdblacgneaaGreat

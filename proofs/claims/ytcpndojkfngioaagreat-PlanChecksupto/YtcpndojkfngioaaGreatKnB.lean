import Derived.Test.YtcpndojkfngioaaGreatKnA
import Derived.Test.YtcpndojkfngioaaGreatPcS
import Derived.Test.YtcpndojkfngioaaGreatRmK
set_option linter.unusedSimpArgs false
set_option linter.unusedVariables false
set_option maxRecDepth 100000
namespace Go.Proofs.YtcpndojkfngioaaGreat
open Go.RowKit Go.Sort

mutual
/-- The kind of an expression over columns of these kinds; none: it does not fit. -/
def kE (ks : List Int) : Ex → Option Int
  | .mk op n v l => if op == 1 then some (ks.getD n.toNat 0) else if op == 2 then some (cleanV v).k else match kL ks l with
    | some d => if (kOf op d).2 then some (kOf op d).1 else none
    | none => none
def kL (ks : List Int) : List Ex → Option (List Int)
  | [] => some []
  | e :: l => match kE ks e with
    | some k => (match kL ks l with
      | some d => some (k :: d)
      | none => none)
    | none => none
end
theorem kE_eq (ks : List Int) (e : Ex) : kE ks e = if e.op == 1 then some (ks.getD e.n.toNat 0) else if e.op == 2 then some (cleanV e.v).k else match kL ks e.args with
    | some d => if (kOf e.op d).2 then some (kOf e.op d).1 else none
    | none => none := by cases e; rw [kE]; rfl
theorem kL_snoc (ks : List Int) : ∀ (l : List Ex) (x : Ex) {d : List Int} {y : Int}, kL ks l = some d → kE ks x = some y → kL ks (l ++ [x]) = some (d ++ [y])
  | [], x, d, y, h, hx => by
    rw [kL] at h
    injection h with h
    subst h
    rw [List.nil_append, kL, hx, kL]
    rfl
  | e :: l, x, d, y, h, hx => by
    rw [kL] at h
    rw [List.cons_append, kL]
    cases he : kE ks e with
    | none => rw [he] at h; cases h
    | some k =>
      rw [he] at h
      cases hl : kL ks l with
      | none => rw [hl] at h; cases h
      | some d' =>
        rw [hl] at h
        injection h with h
        subst h
        rw [kL_snoc ks l x hl hx]
        rfl
theorem kL_none (ks : List Int) : ∀ {l : List Ex} {x : Ex}, x ∈ l → kE ks x = none → kL ks l = none
  | e :: l, x, h, hx => by
    rw [kL]
    rcases List.mem_cons.1 h with rfl | h
    · rw [hx]
    · rw [kL_none ks h hx]
      cases kE ks e <;> rfl
theorem kL_len (ks : List Int) : ∀ (l : List Ex) {d : List Int}, kL ks l = some d → d.length = l.length
  | [], d, h => by rw [kL] at h; injection h with h; subst h; rfl
  | e :: l, d, h => by
    rw [kL] at h
    cases he : kE ks e with
    | none => rw [he] at h; cases h
    | some k =>
      rw [he] at h
      cases hl : kL ks l with
      | none => rw [hl] at h; cases h
      | some d' =>
        rw [hl] at h
        injection h with h
        subst h
        rw [List.length_cons, List.length_cons, kL_len ks l hl]
/-- What tells a kind answers. -/
def KPost (o : Option Int) (w : World) (r : Ending) (w' : World) : Prop := (∃ (k : Int) (ok : Bool), r = .returned (.tuple #[.int .i64 k, .bool ok]) ∧ ok = o.isSome ∧ ∀ x, o = some x → k = x) ∧ Below w.heap.size w w'
theorem OwnI.store {w : World} {base g N cap k : Nat} {L : List Int} (h : OwnI w base (.slice (some ⟨g, 0, none⟩) N cap) L) (hN : N = L.length) (y : Int) : OwnI (w.setCell ⟨g, k, none⟩ (.int .i64 y)) base (.slice (some ⟨g, 0, none⟩) N cap) (L.set k y) := by
  subst hN
  have h1 := (World.ownsRow.stored h k (.int .i64 y)).1
  unfold OwnI
  rw [List.length_set, List.map_set]
  exact h1
theorem OwnI.at {w : World} {base g N cap k : Nat} {L : List Int} {x : Int} (h : OwnI w base (.slice (some ⟨g, 0, none⟩) N cap) L) (hN : N = L.length) (hx : L[k]? = some x) : w.cell? ⟨g, k, none⟩ = some (.int .i64 x) ∧ w.frozen? ⟨g, k, none⟩ = false := by
  subst hN
  have hk := (List.getElem?_eq_some_iff.1 hx).1
  refine ⟨?_, World.ownsRow.frozenAt h k⟩
  rw [World.ownsRow.cellAt h k (by omega), List.getElem?_map, hx]
  rfl
theorem set_zero (d : List Int) (m : Nat) (y : Int) : (d ++ List.replicate (m + 1) 0).set d.length y = (d ++ [y]) ++ List.replicate m 0 := by
  rw [List.set_append, if_neg (by omega), Nat.sub_self, List.replicate_succ, List.set_cons_zero, List.append_assoc]
  rfl
/-- While the kinds of the parts are gathered. -/
def KLoop (ks : List Int) (e : Ex) (a : Option Addr) (c g : Nat) (w : World) (i : Value) (wr : World) : Prop := ∃ (k : Nat) (d : List Int), k ≤ e.args.length ∧ i = .int .i64 (k : Int) ∧ d.length = k ∧ Hid (kL ks (e.args.take k) = some d) ∧ Hid (OwnI wr (w.heap.size + 1) (.slice (some ⟨g, 0, none⟩) e.args.length e.args.length) (d ++ List.replicate (e.args.length - k) 0)) ∧ Hid (Below w.heap.size w wr) ∧ Hid (Six wr w.heap.size e a c) ∧ g < wr.heap.size
set_option maxHeartbeats 1000000 in
set_option maxRecDepth 100000 in
theorem kover_node (ks : List Int) (hkl : ks.length ≤ 140737488355328) (aK : Option Addr) (cK : Nat) (e : Ex) (hg : goodE e) (h1 : ¬ e.op = 1) (h2 : ¬ e.op = 2) (a : Option Addr) (c : Nat) (w : World) (ha : Ex.all w a e.args)
    (IH : ∀ (i : Nat) (x : Ex), e.args[i]? = some x → ∀ (a' : Option Addr) (c' : Nat) (W : World), Below w.heap.size w W → Ex.all W a' x.args → Calls Tryz.prog 116 #[x.val a' c', .slice aK ks.length cK] W (KPost (kE ks x) W)) :
    Calls Tryz.prog 116 #[e.val a c, .slice aK ks.length cK] w (KPost (kE ks e) w) := by
  have HIH := hide IH
  have HA := hide ha
  have hal := sound_len (good_open hg).1
  have har : arI e.op ≤ 3 := by unfold arI; split; omega; split; omega; split; omega; split; omega; split <;> omega
  have hlen : e.args.length ≤ 3 := by omega
  have e1 : (e.op == 1) = false := by simpa using h1
  have e2 : (e.op == 2) = false := by simpa using h2
  have HK : Hid (kE ks e = match kL ks e.args with
    | some d => if (kOf e.op d).2 then some (kOf e.op d).1 else none
    | none => none) := by show _ = _; rw [kE_eq, e1, e2]; rfl
  have HAL := hide hal
  obtain ⟨i4, hi4, z40, z41, z42⟩ := info_parts info3K
  have HB0 := hide (below_alloc (Below.refl _ w) (.cells #[.int .i64 e.op, .int .i64 e.n, .int .i64 e.v.k, .int .i64 e.v.n, .string e.v.s, .slice a e.args.length c] 74))
  have H6 := hide (Six.new w e a c)
  have hs0 : (w.alloc (.cells #[.int .i64 e.op, .int .i64 e.n, .int .i64 e.v.k, .int .i64 e.v.n, .string e.v.s, .slice a e.args.length c] 74)).heap.size = w.heap.size + 1 := by simp [go_sem]
  obtain ⟨R, hR⟩ : ∃ R, R = kE ks e := ⟨_, rfl⟩
  rw [← hR] at HK ⊢
  rw [Ex.val_open]
  clear IH ha hR hal har hg
  go_enter Tryz.func116, Tryz.ntmps116
  go_upto_region 7 with (at_make; refine wpList_make_full _ rfl (.tmp 28) (.tmp 28) 23 rfl (w.heap.size + 1) 3 i4 (.int .i64 0) 1 Tryz.underlying23 hi4 z40 z41 .i64 .i64 _ _ e.args.length rfl rfl rfl rfl (by rw [z42]; omega) (by unfold maxLen; omega) (by rw [hs0]; exact Nat.le_refl _) ?_; intro w2 hO2 hg2)
  rw [hs0] at hO2
  have hBg := grown_below hg2 (Nat.le_refl _) (fun g hg => by cases hg)
  refine enter_with (fun wx => KLoop ks e a c (w.heap.size + 1) w (.int .i64 (0 : Int)) wx) ?_ ?_
  · refine ⟨0, [], Nat.zero_le _, rfl, rfl, by rw [List.take_zero, kL]; rfl, ?_, below_step (unhide HB0) hBg, (unhide H6).later hBg, ?_⟩
    · show OwnI _ _ _ _
      unfold OwnI
      rw [List.nil_append, List.length_replicate, Nat.sub_zero, List.map_replicate]
      have hz : (madeCells (Value.cells (.int .i64 0)) (e.args.length * 1)).toList = List.replicate e.args.length (Value.int .i64 0) := by rw [Nat.mul_one]; exact toList_madeCells_one _ _
      rw [hz] at hO2
      exact hO2
    · rcases hO2.2 with ⟨q, _⟩ | ⟨g', _, _, q, _, hh, _⟩
      · cases q
      · simp only [Value.slice.injEq, Option.some.injEq, Addr.mk.injEq, and_true, true_and] at q
        rw [q.1]
        exact (Array.getElem?_eq_some_iff.1 hh).1
  intro wx HW
  clear hO2 hg2 hBg HB0 H6
  obtain ⟨_, _, _, _, _, _, _, _, HS, _⟩ := unhide HW
  obtain ⟨s0, s1, s2, s3, s4, s5⟩ := unhide HS
  go_upto_region 8 with fail
  clear s0 s1 s2 s3 s4 s5 HS
  go_loopw [33] (fun i wr => KLoop ks e a c (w.heap.size + 1) w i wr) (fun i _ => e.args.length - (intOf i).toNat)
  case atStart => exact unhide HW
  case round =>
    obtain ⟨k, d, hk, rfl, hdk, HL, HO, HB, H6r, hgs⟩ := hrel
    by_cases hlt : k < e.args.length
    · have h9 : (k : Int) < (e.args.length : Int) := by omega
      obtain ⟨x, hx⟩ : ∃ x, e.args[k]? = some x := ⟨_, List.getElem?_eq_getElem hlt⟩
      obtain ⟨vb, vo, ea, hat⟩ := Ex.all_get (Ex.all_later _ (unhide HA) (unhide HB)) hx
      obtain ⟨a', c', ⟨d0, d1, d2, d3, d4, d5⟩, hal⟩ := Ex.at_open hat
      have HB1 := hide (below_alloc (Below.refl _ wr) (.cells #[.int .i64 x.op, .int .i64 x.n, .int .i64 x.v.k, .int .i64 x.v.n, .string x.v.s, .slice a' x.args.length c'] 74))
      have HX := hide (unhide HIH k x hx a' c' _ (below_step (unhide HB) (unhide HB1)) (Ex.all_later _ hal (unhide HB1)))
      rw [Ex.val_open] at HX
      have HXX := hide hx
      subst ea
      clear hx hat hal
      cases hke : kE ks x with
      | none =>
        rw [hke] at HX
        have HR : Hid (R = none) := by
          show _ = _
          rw [unhide HK, kL_none ks (List.mem_of_getElem? (unhide HXX)) hke]
        clear hke
        go_wp2_with (go_at_call 116; refine (unhide HX).mono ?_; rintro r w1 ⟨⟨kk, ok, rfl, rfl, _⟩, hb1⟩)
        refine bodyPost_ret (v := .tuple #[.int .i64 0, .bool false]) (by simp [results, Tryz.results116, go_sem]) rfl ⟨⟨0, false, rfl, by rw [unhide HR]; rfl, fun y hy => by rw [unhide HR] at hy; cases hy⟩, below_step (unhide HB) (below_step (unhide HB1) hb1)⟩
      | some y =>
        rw [hke] at HX
        have HL2 : Hid (kL ks (e.args.take (k + 1)) = some (d ++ [y])) := by
          show _ = _
          rw [List.take_add_one, unhide HXX]
          exact kL_snoc ks _ x (unhide HL) hke
        clear hke
        obtain ⟨mm, hmm⟩ : ∃ mm, e.args.length - k = mm + 1 := ⟨e.args.length - k - 1, by omega⟩
        have HMM := hide hmm
        rw [hmm] at HO
        have hLL : e.args.length = (d ++ List.replicate (mm + 1) (0 : Int)).length := by rw [List.length_append, List.length_replicate]; omega
        have HLL := hide hLL
        have hat0 : (d ++ List.replicate (mm + 1) (0 : Int))[k]? = some 0 := by
          rw [List.getElem?_append_right (by omega), hdk, Nat.sub_self]
          rfl
        have HAT := hide hat0
        clear hmm hLL hat0
        go_wp2_with (go_at_call 116; refine (unhide HX).mono ?_; rintro r w1 ⟨⟨kk, ok, rfl, rfl, hkk⟩, hb1⟩; obtain rfl := hkk y rfl; have hb01 := below_step (unhide HB1) hb1; obtain ⟨q0, q1⟩ := ((unhide HO).later hb01).at (unhide HLL) (unhide HAT))
        have hO1 := (unhide HO).later hb01
        have hsz := hb01.size
        refine ⟨⟨k + 1, d ++ [kk], by omega, by go_num, by simp [hdk], unhide HL2, ?_, ?_, ?_, ?_⟩, by simp [intOf]; omega⟩
        · have h := hO1.store (k := k) (unhide HLL) kk
          rw [← hdk, set_zero, hdk] at h
          rw [show e.args.length - (k + 1) = mm by have := unhide HMM; omega]
          exact h
        · exact (below_step (unhide HB) hb01).setCell (by show w.heap.size ≤ w.heap.size + 1; omega) _
        · exact six_put ((unhide H6r).later hb01) _ _ _ (by omega)
        · simp only [World.setCell]
          simp
          omega
    · have h9 : ¬ (k : Int) < (e.args.length : Int) := by omega
      obtain rfl : k = e.args.length := by omega
      have hL := unhide HL
      rw [List.take_length] at hL
      have hO := unhide HO
      rw [Nat.sub_self, List.replicate_zero, List.append_nil] at hO
      have HKF := hide (kof_any e.op (some ⟨w.heap.size + 1, 0, none⟩) e.args.length d wr (by rw [hdk]; exact unhide HAL) (by omega) hO.ints)
      have HRR : Hid (R = if (kOf e.op d).2 then some (kOf e.op d).1 else none) := by show _ = _; rw [unhide HK, hL]
      rw [hdk] at HKF
      obtain ⟨KO, hKO⟩ : ∃ KO, KO = kOf e.op d := ⟨_, rfl⟩
      rw [← hKO] at HKF HRR
      obtain ⟨c1, c2⟩ := KO
      simp only at HKF HRR
      obtain ⟨s0, s1, s2, s3, s4, s5⟩ := unhide H6r
      clear hL hO HL HO HK hKO
      go_wp2_with (go_at_call 127; refine (unhide HKF).mono ?_; rintro r w1 ⟨rfl, hb1⟩)
      refine bodyPost_ret (v := .tuple #[.int .i64 c1, .bool c2]) (by simp [results, Tryz.results116, go_sem]) rfl ⟨⟨c1, c2, rfl, ?_, ?_⟩, below_step (unhide HB) hb1⟩
      · rw [unhide HRR]; cases c2 <;> rfl
      · intro y hy
        rw [unhide HRR] at hy
        cases c2 with
        | false => cases hy
        | true => injection hy
set_option maxHeartbeats 1000000 in
set_option maxRecDepth 100000 in
theorem kover_leaf (ks : List Int) (hkl : ks.length ≤ 140737488355328) (aK : Option Addr) (cK : Nat) (e : Ex) (hg : goodE e) (hu : usesB e ks.length = true) (h12 : e.op = 1 ∨ e.op = 2) (a : Option Addr) (c : Nat) (w : World) (hK : IntsAt w aK ks) :
    Calls Tryz.prog 116 #[e.val a c, .slice aK ks.length cK] w (KPost (kE ks e) w) := by
  have HB0 := hide (below_alloc (Below.refl _ w) (.cells #[.int .i64 e.op, .int .i64 e.n, .int .i64 e.v.k, .int .i64 e.v.n, .string e.v.s, .slice a e.args.length c] 74))
  rcases h12 with h1 | h2
  · have hn := col_nat hg h1
    have hlt := uses_col hu h1
    obtain ⟨n, hn2⟩ : ∃ n : Nat, e.n = n := ⟨e.n.toNat, by omega⟩
    have hke : kE ks e = some (ks.getD n 0) := by rw [kE_eq, h1, hn2]; rfl
    have hgk : ks[n]? = some (ks.getD n 0) := by
      rw [List.getD_eq_getElem?_getD, List.getElem?_eq_getElem (by omega)]
      rfl
    rw [hke]
    generalize ks.getD n 0 = q at *
    obtain ⟨vb, vo, rfl, d0⟩ := (hK.later (unhide HB0)).get hgk
    have h8 : (n : Int) < (ks.length : Int) := by omega
    rw [Ex.val_open]
    rw [h1, hn2] at HB0 d0 ⊢
    clear hke hgk hg hu hK hn hlt
    go_enter Tryz.func116, Tryz.ntmps116
    go_wp2
    refine bodyPost_ret (v := .tuple #[.int .i64 q, .bool true]) (by simp [results, Tryz.results116, go_sem]) rfl ⟨⟨q, true, rfl, rfl, fun x hx => by injection hx⟩, unhide HB0⟩
  · have hke : kE ks e = some (cleanV e.v).k := by rw [kE_eq, h2]; rfl
    have HC := hide (fun W => clean_any e.v W)
    rw [hke]
    rw [Val.open_, Val.open_] at HC
    generalize cleanV e.v = u at *
    have hfk := field0 u.k u.n u.s
    rw [Ex.val_open]
    rw [h2] at HB0 ⊢
    clear hke hg hu hK
    go_enter Tryz.func116, Tryz.ntmps116
    go_wp2_with (go_at_call 69; refine (unhide HC _).mono ?_; rintro r w1 ⟨rfl, hb1⟩)
    refine bodyPost_ret (v := .tuple #[.int .i64 u.k, .bool true]) (by simp [results, Tryz.results116, go_sem]) rfl ⟨⟨u.k, true, rfl, rfl, fun x hx => by injection hx⟩, below_step (unhide HB0) hb1⟩
/-- kindOver (35). -/
theorem kover_all (ks : List Int) (hkl : ks.length ≤ 140737488355328) (aK : Option Addr) (cK : Nat) : ∀ (k : Nat) (e : Ex), e.size ≤ k → goodE e → usesB e ks.length = true → ∀ (a : Option Addr) (c : Nat) (w : World), Ex.all w a e.args → IntsAt w aK ks → Calls Tryz.prog 116 #[e.val a c, .slice aK ks.length cK] w (KPost (kE ks e) w)
  | 0, e, hs, _, _, _, _, _, _, _ => by rw [Ex.size_mk] at hs; omega
  | k + 1, e, hs, hg, hu, a, c, w, ha, hK => by
    by_cases h1 : e.op = 1
    · exact kover_leaf ks hkl aK cK e hg hu (.inl h1) a c w hK
    · by_cases h2 : e.op = 2
      · exact kover_leaf ks hkl aK cK e hg hu (.inr h2) a c w hK
      · exact kover_node ks hkl aK cK e hg h1 h2 a c w ha fun i x hx a' c' W hW hal =>
          kover_all ks hkl aK cK k x (by have := Ex.size_arg hx; omega) (good_arg hg hx) (uses_arg hu hx) a' c' W hal (hK.later hW)
/-- The error of Kind. -/
def kErr (ks : List Int) (e : Ex) : Int := if builtE e && (!ks.any noK) && usesB e ks.length then (if (kE ks e).isSome then 0 else 4) else 1
set_option maxHeartbeats 1000000 in
set_option maxRecDepth 100000 in
/-- Kind (17): its error. -/
theorem kind_any (ks : List Int) (hkl : ks.length ≤ 140737488355328) (aK : Option Addr) (cK : Nat) (e : Ex) (hf : e.fin) (a : Option Addr) (c : Nat) (w : World) (ha : Ex.all w a e.args) (hK : IntsAt w aK ks) :
    Calls Tryz.prog 89 #[e.val a c, .slice aK ks.length cK] w fun r w' => (∃ k : Int, r = .returned (.tuple #[.int .i64 k, .int .i64 (kErr ks e)])) ∧ Below w.heap.size w w' := by
  have HB := hide (fun (W : World) (hW : Below w.heap.size w W) => built_any e hf a c W (Ex.all_later _ ha hW))
  have HN := hide (fun (W : World) (hW : Below w.heap.size w W) => containsK_any aK cK ks W hkl (hK.later hW))
  have HU := hide (fun (hb : builtE e = true) (W : World) (hW : Below w.heap.size w W) => uses_any e (built_good hb) hf (built_bounds hb).1 ks.length a c W (Ex.all_later _ ha hW))
  have HV := hide (fun (hb : builtE e = true) (hu : usesB e ks.length = true) (W : World) (hW : Below w.heap.size w W) => kover_all ks hkl aK cK e.size e (Nat.le_refl _) (built_good hb) hu a c W (Ex.all_later _ ha hW) (hK.later hW))
  have HB0 := hide (below_alloc (Below.refl _ w) (.cells #[.int .i64 e.op, .int .i64 e.n, .int .i64 e.v.k, .int .i64 e.v.n, .string e.v.s, .slice a e.args.length c] 74))
  have H6 := hide (Six.new w e a c)
  rw [Ex.val_open] at HB HU HV ⊢
  clear ha hK
  cases hb : builtE e with
  | false =>
    rw [hb] at HB
    have hke : kErr ks e = 1 := by unfold kErr; rw [hb]; rfl
    rw [hke]
    clear hb hke HN HU HV
    go_enter Tryz.func89, Tryz.ntmps89
    go_wp2_with (go_at_call 110; refine (unhide HB _ (unhide HB0)).mono ?_; rintro r w1 ⟨rfl, hb1⟩)
    refine bodyPost_ret (v := .tuple #[.int .i64 0, .int .i64 1]) (by simp [results, Tryz.results89, go_sem]) rfl ⟨⟨0, rfl⟩, below_step (unhide HB0) hb1⟩
  | true =>
    rw [hb] at HB
    have HU := hide (unhide HU hb)
    have HV := hide (unhide HV hb)
    cases hn : ks.any noK with
    | true =>
      rw [hn] at HN
      have hke : kErr ks e = 1 := by unfold kErr; rw [hn]; simp
      rw [hke]
      clear hb hn hke HU HV
      go_enter Tryz.func89, Tryz.ntmps89
      go_wp2_with (first
        | (go_at_call 62; refine (unhide HN w1 hB1).mono ?_; rintro r w2 ⟨rfl, hb2⟩)
        | (go_at_call 110; refine (unhide HB _ (unhide HB0)).mono ?_; rintro r w1 ⟨rfl, hb1⟩; have hB1 := below_step (unhide HB0) hb1))
      refine bodyPost_ret (v := .tuple #[.int .i64 0, .int .i64 1]) (by simp [results, Tryz.results89, go_sem]) rfl ⟨⟨0, rfl⟩, below_step hB1 hb2⟩
    | false =>
      rw [hn] at HN
      cases hu : usesB e ks.length with
      | false =>
        rw [hu] at HU
        have hke : kErr ks e = 1 := by unfold kErr; rw [hu]; simp
        rw [hke]
        clear hb hn hu hke HV
        go_enter Tryz.func89, Tryz.ntmps89
        go_wp2_with (first
          | (go_at_call 115; refine (unhide HU w2 hB2).mono ?_; rintro r w3 ⟨rfl, hb3⟩)
          | (go_at_call 62; refine (unhide HN w1 hB1).mono ?_; rintro r w2 ⟨rfl, hb2⟩; have hB2 := below_step hB1 hb2; obtain ⟨b0, b1, b2, b3, b4, b5⟩ := (unhide H6).later (below_step hb1 hb2))
          | (go_at_call 110; refine (unhide HB _ (unhide HB0)).mono ?_; rintro r w1 ⟨rfl, hb1⟩; have hB1 := below_step (unhide HB0) hb1))
        refine bodyPost_ret (v := .tuple #[.int .i64 0, .int .i64 1]) (by simp [results, Tryz.results89, go_sem]) rfl ⟨⟨0, rfl⟩, below_step hB2 hb3⟩
      | true =>
        rw [hu] at HU
        have HV := hide (unhide HV hu)
        have hke : kErr ks e = if (kE ks e).isSome then 0 else 4 := by unfold kErr; rw [hb, hn, hu]; rfl
        rw [hke]
        generalize kE ks e = O at *
        obtain ⟨bo, hbo⟩ : ∃ bo, bo = O.isSome := ⟨_, rfl⟩
        rw [← hbo]
        have HV2 : Hid (∀ W, Below w.heap.size w W → Calls Tryz.prog 116 #[.agg #[.int .i64 e.op, .int .i64 e.n, .int .i64 e.v.k, .int .i64 e.v.n, .string e.v.s, .slice a e.args.length c], .slice aK ks.length cK] W fun r w' => (∃ kk : Int, r = .returned (.tuple #[.int .i64 kk, .bool bo])) ∧ Below W.heap.size W w') := fun W hW => (unhide HV W hW).mono fun r w' ⟨⟨kk, ok, h1, h2, _⟩, hb⟩ => ⟨⟨kk, by rw [h1, h2, ← hbo]⟩, hb⟩
        clear hb hn hu hke hbo HV
        cases bo with
        | true =>
          simp only [if_true]
          go_enter Tryz.func89, Tryz.ntmps89
          go_wp2_with (first
            | (go_at_call 116; refine (unhide HV2 w3 hB3).mono ?_; rintro r w4 ⟨⟨kk, rfl⟩, hb4⟩)
            | (go_at_call 115; refine (unhide HU w2 hB2).mono ?_; rintro r w3 ⟨rfl, hb3⟩; have hB3 := below_step hB2 hb3; obtain ⟨b0, b1, b2, b3, b4, b5⟩ := (unhide H6).later (below_step (below_step hb1 hb2) hb3))
            | (go_at_call 62; refine (unhide HN w1 hB1).mono ?_; rintro r w2 ⟨rfl, hb2⟩; have hB2 := below_step hB1 hb2; obtain ⟨b0, b1, b2, b3, b4, b5⟩ := (unhide H6).later (below_step hb1 hb2))
            | (go_at_call 110; refine (unhide HB _ (unhide HB0)).mono ?_; rintro r w1 ⟨rfl, hb1⟩; have hB1 := below_step (unhide HB0) hb1))
          refine bodyPost_ret (v := .tuple #[.int .i64 kk, .int .i64 0]) (by simp [results, Tryz.results89, go_sem]) rfl ⟨⟨kk, rfl⟩, below_step hB3 hb4⟩
        | false =>
          simp only [Bool.false_eq_true, if_false]
          go_enter Tryz.func89, Tryz.ntmps89
          go_wp2_with (first
            | (go_at_call 116; refine (unhide HV2 w3 hB3).mono ?_; rintro r w4 ⟨⟨kk, rfl⟩, hb4⟩)
            | (go_at_call 115; refine (unhide HU w2 hB2).mono ?_; rintro r w3 ⟨rfl, hb3⟩; have hB3 := below_step hB2 hb3; obtain ⟨b0, b1, b2, b3, b4, b5⟩ := (unhide H6).later (below_step (below_step hb1 hb2) hb3))
            | (go_at_call 62; refine (unhide HN w1 hB1).mono ?_; rintro r w2 ⟨rfl, hb2⟩; have hB2 := below_step hB1 hb2; obtain ⟨b0, b1, b2, b3, b4, b5⟩ := (unhide H6).later (below_step hb1 hb2))
            | (go_at_call 110; refine (unhide HB _ (unhide HB0)).mono ?_; rintro r w1 ⟨rfl, hb1⟩; have hB1 := below_step (unhide HB0) hb1))
          refine bodyPost_ret (v := .tuple #[.int .i64 0, .int .i64 4]) (by simp [results, Tryz.results89, go_sem]) rfl ⟨⟨0, rfl⟩, below_step hB3 hb4⟩
end Go.Proofs.YtcpndojkfngioaaGreat

import Derived.Test.YtcpndojkfngioaaGreatCkF
import Derived.Lib.AppendZeros
import Derived.Lib.SliceRun
set_option linter.unusedSimpArgs false
set_option linter.unusedVariables false
namespace Go.Proofs.YtcpndojkfngioaaGreat
open Go.RowKit Go.Sort

set_option maxHeartbeats 1000000 in
set_option maxRecDepth 100000 in
/-- slices.Clone (82). -/
theorem clone_any (xs : List Int) (a : Option Addr) (c : Nat) (w : World) (hl : xs.length ≤ 3000000) (ha : IntsAt w a xs) : Calls Tryz.prog 82 #[.slice a xs.length c] w (OwnQ xs w) := by
  have q : ∀ W : World, (binOp .eql 23 (.slice a xs.length c) (.slice none 0 0)).run Tryz.prog W = .ok (.bool a.isNone) W := fun W => Lib.run_eql_slice_nil W _ _ a _ c 0 0 Tryz.underlying23
  cases a with
  | none =>
    have hx : xs = [] := by
      rcases ha with h | ⟨b, off, e, _⟩
      · exact h
      · cases e
    subst hx
    simp only [Option.isNone_none, List.length_nil] at q ⊢
    clear ha hl
    go_enter Tryz.func82, Tryz.ntmps82
    go_wp2
    go_ret
    exact ⟨none, 0, rfl, own_nil _ _, Below.refl _ _⟩
  | some ad =>
    have HB := hide (below_alloc (Below.refl _ w) (.cells #[] 3))
    have HX := hide (ha.later (unhide HB))
    simp only [Option.isNone_some] at q
    clear ha
    go_enter Tryz.func82, Tryz.ntmps82
    go_wp2_with (at_builtin; refine wpList_push_far _ rfl (.tmp 5) (.tmp 6) rfl w.heap.size _ [] xs _ c rfl (own_empty w w.heap.size (Nat.le_refl _)) rfl (unhide HX) (by simp; omega) (unhide HB).size ?_; intro v4 w4 hO4 hB4; rw [List.nil_append] at hO4)
    go_ret
    obtain ⟨a5, c5, rfl⟩ := hO4.slice
    exact ⟨a5, c5, rfl, hO4, (unhide HB).trans hB4⟩
theorem wpList_zeros_run {ops : Array Oper} {rest : List Oper} {o : Oper} {a : Act} {w : World} {Q : Exit → Act → World → Prop} (hgd : o.guard = none) (d x : Operand) (hop : o.op = .call { callee := .builtin .append, args := #[d, x], argTypes := #[23, 3] })
    (s u : Value) (hd : a.eval d = s) (hx : a.eval x = u) {v' : Value} {w' : World} (hr : (Builtin.append_ #[23, 3] o.type #[s, u]).run Tryz.prog w = .ok v' w') (h : wpList Tryz.prog ops Q rest (a.put o.dst v') w') : wpList Tryz.prog ops Q (o :: rest) a w := by
  refine wpList_plain hgd fun K hK => ?_
  unfold Oper.wp execOp
  simp only [hop, resolve, invoke, builtin, Sem.run_bind, Sem.run_pure, Result.andThen_ok, List.map_toArray, List.map_cons, List.map_nil, hd, hx, hr]
  exact hK _ _ h
theorem zeros_own (w : World) (n cap : Nat) (hc : n ≤ cap) (hm : cap ≤ maxLen) : OwnI (w.drew.alloc (.cells (Builtin.zeroCells (Value.int .i64 0).cells n ++ Builtin.zeroCells (Value.int .i64 0).cells (cap - n)) 3)) w.heap.size (.slice (some ⟨w.heap.size, 0, none⟩) 0 cap) [] :=
  ⟨rfl, .inr ⟨w.heap.size, cap, _, rfl, Nat.le_refl _, Go.Deep.blk_alloc_new _ _, Nat.zero_le _, hm, by simp [Builtin.zeroCells, Value.cells]; omega, by simp⟩⟩
set_option maxHeartbeats 1000000 in
set_option maxRecDepth 100000 in
/-- slices.Grow (109) of nil. -/
theorem grow_any (n : Nat) (w : World) (hl : n ≤ 3000000) : Calls Tryz.prog 109 #[.slice none 0 0, .int .i64 (n : Int)] w (OwnQ [] w) := by
  obtain ⟨i4, hi4, z40, z41, z42⟩ := info_parts info3
  by_cases h0 : n = 0
  · subst h0
    go_enter Tryz.func109, Tryz.ntmps109
    go_wp2
    go_ret
    exact ⟨none, 0, rfl, own_nil _ _, Below.refl _ _⟩
  · have hn : (0 : Int) < (n : Int) := by omega
    have hr := Lib.run_append_nil_zeros (P := Tryz.prog) w 23 3 23 3 i4 (.int .i64 0) .i64 .i64 Tryz.underlying23 Tryz.underlying3 hi4 z40 n (by omega) (by rw [z41]; decide) (by omega) (by rw [z42]; omega)
    have s1 : ∀ W, (Instr.slice 23 (.slice none 0 0) none (some (.int .i64 0)) none).run Tryz.prog W = .ok (.slice none 0 0) W := fun W => slice_hi none 0 0 0 W (Nat.le_refl _)
    have hcap : n ≤ grownCap w n 0 3 := grownCap_ge _ _ _ _
    have hcm : grownCap w n 0 3 ≤ maxLen := grownCap_le_maxLen _ _ _ _ (by unfold maxLen; omega)
    generalize grownCap w n 0 3 = cap at *
    have s2 : ∀ W, (Instr.slice 23 (.slice (some ⟨w.heap.size, 0, none⟩) n cap) none (some (.int .i64 0)) none).run Tryz.prog W = .ok (.slice (some ⟨w.heap.size, 0, none⟩) 0 cap) W := fun W => slice_hi _ n 0 cap W (Nat.zero_le _)
    have HO := hide (zeros_own w n cap hcap hcm)
    have HBB : Hid (Below w.heap.size w (w.drew.alloc (.cells (Builtin.zeroCells (Value.int .i64 0).cells n ++ Builtin.zeroCells (Value.int .i64 0).cells (cap - n)) 3))) := below_alloc (Below.refl _ w).drew _
    obtain ⟨w2, hw2⟩ : ∃ w2, w2 = w.drew.alloc (.cells (Builtin.zeroCells (Value.int .i64 0).cells n ++ Builtin.zeroCells (Value.int .i64 0).cells (cap - n)) 3) := ⟨_, rfl⟩
    rw [← hw2] at hr HO HBB
    clear hw2 z40 z41 z42 hi4
    have HR := hide hr
    clear hr
    go_enter Tryz.func109, Tryz.ntmps109
    go_wp2_with (at_builtin; refine wpList_zeros_run rfl (.tmp 20) (.tmp 21) rfl _ _ rfl rfl (unhide HR) ?_)
    go_ret
    exact ⟨_, cap, rfl, unhide HO, unhide HBB⟩
theorem flat_snoc {α β : Type} (f : α → List β) {l : List α} {k : Nat} {x : α} (h : l[k]? = some x) : (l.take (k + 1)).flatMap f = (l.take k).flatMap f ++ f x := by
  obtain ⟨h1, rfl⟩ := List.getElem?_eq_some_iff.1 h
  rw [List.take_succ_eq_append_getElem h1, List.flatMap_append]; simp
theorem flat_take_le {α β : Type} (f : α → List β) (l : List α) (k : Nat) : ((l.take k).flatMap f).length ≤ (l.flatMap f).length := by
  conv => rhs; rw [← List.take_append_drop k l, List.flatMap_append, List.length_append]
  omega
set_option maxHeartbeats 2000000 in
set_option maxRecDepth 100000 in
/-- slices.Concat (81). -/
theorem concat_any (L : List Ls) (g c : Nat) (w : World) (hl : L.length ≤ 1048576) (hs : (L.flatMap fun x => x.2.2).length ≤ 3000000) (hc : ∀ (i : Nat) x, L[i]? = some x → w.cell? ⟨g, i, none⟩ = some (.slice x.1 x.2.2.length x.2.1) ∧ IntsAt w x.1 x.2.2) :
    Calls Tryz.prog 81 #[.slice (some ⟨g, 0, none⟩) L.length c] w (OwnQ (L.flatMap fun x => x.2.2) w) := by
  have HC := hide hc
  have HS := hide hs
  have HG := hide (fun (n : Nat) (W : World) (hn : n ≤ 3000000) => grow_any n W hn)
  clear hc hs
  go_enter Tryz.func81, Tryz.ntmps81
  go_wp2_with fail
  go_loopw [3, 11] (fun s i wr => ∃ (k S : Nat), k ≤ L.length ∧ S ≤ 3000000 ∧ i = .int .i64 (k : Int) ∧ s = .int .i64 (S : Int) ∧ Hid (S = ((L.take k).flatMap fun x => x.2.2).length) ∧ Hid (Below w.heap.size w wr)) (fun _ i _ => L.length - (intOf i).toNat)
  case atStart => exact ⟨0, 0, Nat.zero_le _, by omega, rfl, rfl, rfl, Below.refl _ _⟩
  case round =>
    obtain ⟨k, S, hk, hS, rfl, rfl, HSK, HB⟩ := hrel
    by_cases hlt : k < L.length
    · have h9 : (k : Int) < (L.length : Int) := by omega
      obtain ⟨x, hx⟩ : ∃ x, L[k]? = some x := ⟨_, List.getElem?_eq_getElem hlt⟩
      have d0 := clater (unhide HC k x hx).1 (unhide HB)
      have hs2 : ((L.take (k + 1)).flatMap fun x => x.2.2).length = S + x.2.2.length := by rw [flat_snoc _ hx, List.length_append, ← unhide HSK]
      have hs3 : S + x.2.2.length ≤ 3000000 := by rw [← hs2]; exact Nat.le_trans (flat_take_le _ _ _) (unhide HS)
      have hs4 : (0 : Int) ≤ (S : Int) + (x.2.2.length : Int) := by omega
      have HS2 := hide hs2
      obtain ⟨ax, cx, l⟩ := x
      simp only at d0 hs3 hs4 HS2
      clear hx hs2
      go_wp2
      exact ⟨⟨k + 1, S + l.length, by omega, hs3, by go_num, by go_num, (unhide HS2).symm, unhide HB⟩, by simp [intOf]; omega⟩
    · have h9 : ¬ (k : Int) < (L.length : Int) := by omega
      clear HSK
      go_upto_region 10 with (go_at_call 109; refine (unhide HG S wr hS).mono ?_; rintro r w2 ⟨a2, c2, rfl, hO2, hb2⟩)
      have HO2 := hide (hO2.base_le (unhide HB).size)
      have HB2 := hide (below_step (unhide HB) hb2)
      clear hO2 hb2 HB hlt hk
      go_wp2_with fail
      go_loopw [6, 27] (fun v i wr => ∃ (k : Nat), k ≤ L.length ∧ i = .int .i64 (k : Int) ∧ Hid (OwnI wr w.heap.size v ((L.take k).flatMap fun x => x.2.2)) ∧ Hid (Below w.heap.size w wr)) (fun _ i _ => L.length - (intOf i).toNat)
      case atStart => exact ⟨0, Nat.zero_le _, rfl, unhide HO2, unhide HB2⟩
      case round =>
        clear HO2 HB2 h9
        obtain ⟨k, hk, rfl, HO, HB⟩ := hrel
        by_cases hlt : k < L.length
        · have h9 : (k : Int) < (L.length : Int) := by omega
          obtain ⟨x, hx⟩ : ∃ x, L[k]? = some x := ⟨_, List.getElem?_eq_getElem hlt⟩
          have d0 := clater (unhide HC k x hx).1 (unhide HB)
          have HI := hide ((unhide HC k x hx).2.later (unhide HB))
          have HFL := hide (flat_snoc (fun x : Ls => x.2.2) hx)
          have HLE : Hid (((L.take k).flatMap fun x => x.2.2).length + x.2.2.length ≤ 3000000) := by
            show _ ≤ _
            rw [← List.length_append, ← unhide HFL]
            exact Nat.le_trans (flat_take_le _ _ _) (unhide HS)
          obtain ⟨ax, cx, l⟩ := x
          simp only at d0 HI HFL HLE
          generalize (L.take k).flatMap (fun x => x.2.2) = zs at *
          obtain ⟨a0, c0, rfl⟩ := (unhide HO).slice
          clear hx
          go_wp2_with (at_builtin; refine wpList_push_far _ rfl (.tmp 31) (.tmp 32) rfl w.heap.size _ zs l ax cx rfl (unhide HO) rfl (unhide HI) (by have := unhide HLE; omega) (unhide HB).size ?_; intro v4 w4 hO4 hB4)
          exact ⟨⟨k + 1, by omega, by go_num, by rw [unhide HFL]; exact hO4, (unhide HB).trans hB4⟩, by simp [intOf]; omega⟩
        · have h9 : ¬ (k : Int) < (L.length : Int) := by omega
          obtain rfl : k = L.length := by omega
          rw [List.take_length] at HO
          obtain ⟨zs, hzs⟩ : ∃ zs, zs = L.flatMap (fun x => x.2.2) := ⟨_, rfl⟩
          rw [← hzs] at HO
          have HZS := hide hzs
          obtain ⟨a0, c0, rfl⟩ := (unhide HO).slice
          clear hk hlt hzs
          go_wp2
          go_ret
          rw [← unhide HZS]
          exact ⟨a0, c0, rfl, unhide HO, unhide HB⟩
end Go.Proofs.YtcpndojkfngioaaGreat
set_option linter.unusedSimpArgs false
set_option linter.unusedVariables false
namespace Go.Proofs.YtcpndojkfngioaaGreat
open Go.RowKit Go.Sort

set_option maxHeartbeats 2000000 in
set_option maxRecDepth 100000 in
/-- exprKinds (87). -/
theorem exprKinds_any (ks : List Int) (hkl : ks.length ≤ 140737488355328) (aK : Option Addr) (cK : Nat) (es : List Ex) (hl : es.length ≤ 1048576) (hf : Ex.fins es) (a : Option Addr) (c : Nat) (w : World) (ha : Ex.all w a es) (hK : IntsAt w aK ks) :
    Calls Tryz.prog 87 #[.slice a es.length c, .slice aK ks.length cK] w (OwnQ (projK ks es) w) := by
  have HA := hide ha
  have HK := hide hK
  have HF := hide hf
  have HKL := hide hkl
  obtain ⟨i4, hi4, z40, z41, z42⟩ := info_parts info3K
  clear ha hK hf
  go_enter Tryz.func87, Tryz.ntmps87
  go_upto_region 2 with (at_make; refine wpList_make_full _ rfl (.tmp 11) (.tmp 11) 23 rfl w.heap.size 3 i4 (.int .i64 0) 1 Tryz.underlying23 hi4 z40 z41 .i64 .i64 _ _ es.length rfl rfl rfl rfl (by rw [z42]; omega) (by unfold maxLen; omega) (Nat.le_refl _) ?_; intro w2 hO2 hg2)
  have HB2 := hide (grown_below hg2 (Nat.le_refl _) (fun g hg => by cases hg))
  have HO2 := hide (made_ints hO2)
  clear hO2 hg2 z40 z41 z42 hi4
  go_wp2_with fail
  go_loopw [15] (fun i wr => ∃ (k : Nat), k ≤ es.length ∧ i = .int .i64 (k : Int) ∧ Hid (OwnI wr w.heap.size (.slice (some ⟨w.heap.size, 0, none⟩) es.length es.length) ((es.take k).map (fun e => max (kK ks e) 1) ++ List.replicate (es.length - k) 0)) ∧ Hid (Below w.heap.size w wr)) (fun i _ => es.length - (intOf i).toNat)
  case atStart => exact ⟨0, Nat.zero_le _, rfl, unhide HO2, unhide HB2⟩
  case round =>
    clear HO2 HB2
    obtain ⟨k, hk, rfl, HO, HB⟩ := hrel
    by_cases hlt : k < es.length
    · have h9 : (k : Int) < (es.length : Int) := by omega
      obtain ⟨x, hx⟩ : ∃ x, es[k]? = some x := ⟨_, List.getElem?_eq_getElem hlt⟩
      obtain ⟨vb, vo, ea, hat⟩ := Ex.all_get (Ex.all_later _ (unhide HA) (unhide HB)) hx
      obtain ⟨a', c', ⟨d0, d1, d2, d3, d4, d5⟩, hal⟩ := Ex.at_open hat
      have HT := hide (take_snocI (fun e => max (kK ks e) 1) hx)
      have hlen : ((es.take k).map (fun e => max (kK ks e) 1)).length = k := by simp; omega
      have hba := below_alloc (Below.refl _ wr) (.cells #[.int .i64 x.op, .int .i64 x.n, .int .i64 x.v.k, .int .i64 x.v.n, .string x.v.s, .slice a' x.args.length c'] 74)
      have HC := hide (kind_det ks (unhide HKL) aK cK x (Ex.fins_mem (unhide HF) (List.mem_of_getElem? hx)) a' c' (wr.alloc (.cells #[.int .i64 x.op, .int .i64 x.n, .int .i64 x.v.k, .int .i64 x.v.n, .string x.v.s, .slice a' x.args.length c'] 74)) (Ex.all_later _ hal hba) (((unhide HK).later (unhide HB)).later hba))
      have HBA := hide hba
      obtain ⟨y1, y2⟩ := at_zeroP _ es.length k hlen hlt
      have HY1 := hide y1
      have HY2 := hide y2
      have HSZ := hide (fun y => set_zeroP ((es.take k).map (fun e => max (kK ks e) 1)) es.length k hlen hlt (y := y))
      rw [Ex.val_open] at HC
      rw [ea]
      generalize (es.take k).map (fun e => max (kK ks e) 1) = zs at *
      obtain ⟨kk, hkk⟩ : ∃ kk, kk = kK ks x := ⟨_, rfl⟩
      rw [← hkk] at HC HT
      generalize kErr ks x = er at *
      clear hat hal hba hx hkk ea y1 y2 hlen
      by_cases hm : kk < 1
      · have HX1 : Hid (max kk 1 = 1) := by show _ = _; omega
        rw [unhide HX1] at HT
        clear HX1
        go_wp2_with (go_at_call 89; refine (unhide HC).mono ?_; rintro r w3 ⟨rfl, hb3⟩; have hb4 := below_step (unhide HBA) hb3; have hO3 := (unhide HO).later hb4; obtain ⟨q0, q1⟩ := hO3.at (unhide HY2) (unhide HY1); have HO3 := hide (hO3.store (k := k) (unhide HY2) (1)); have HB3 := hide ((below_step (unhide HB) hb4).setCell (p := ⟨w.heap.size, k, none⟩) (Nat.le_refl _) (.int .i64 1)); clear hO3 hb3 hb4)
        rw [unhide HSZ, ← unhide HT] at HO3
        exact ⟨⟨k + 1, by omega, by go_num, unhide HO3, unhide HB3⟩, by simp [intOf]; omega⟩
      · have hm1 : 1 ≤ kk := by omega
        have HX1 : Hid (max kk 1 = kk) := by show _ = _; omega
        rw [unhide HX1] at HT
        clear HX1
        go_wp2_with (go_at_call 89; refine (unhide HC).mono ?_; rintro r w3 ⟨rfl, hb3⟩; have hb4 := below_step (unhide HBA) hb3; have hO3 := (unhide HO).later hb4; obtain ⟨q0, q1⟩ := hO3.at (unhide HY2) (unhide HY1); have HO3 := hide (hO3.store (k := k) (unhide HY2) (kk)); have HB3 := hide ((below_step (unhide HB) hb4).setCell (p := ⟨w.heap.size, k, none⟩) (Nat.le_refl _) (.int .i64 kk)); clear hO3 hb3 hb4)
        rw [unhide HSZ, ← unhide HT] at HO3
        exact ⟨⟨k + 1, by omega, by go_num, unhide HO3, unhide HB3⟩, by simp [intOf]; omega⟩
    · have h9 : ¬ (k : Int) < (es.length : Int) := by omega
      obtain rfl : k = es.length := by omega
      rw [List.take_length, Nat.sub_self, List.replicate_zero, List.append_nil] at HO
      clear hk hlt
      go_wp2
      go_ret
      unfold projK
      refine ⟨_, _, by rw [List.length_map]; rfl, ?_, unhide HB⟩
      rw [List.length_map]
      exact unhide HO
set_option maxHeartbeats 4000000 in
set_option maxRecDepth 100000 in
/-- groupKinds (88). -/
theorem groupKinds_any (ks : List Int) (hkl : ks.length ≤ 1048576) (aK : Option Addr) (cK : Nat) (cols : List Int) (aggs : List (Int × Int)) (h3 : cols.length ≤ 1048576) (h5 : aggs.length ≤ 1048576) (aC : Option Addr) (cC : Nat) (aA : Option Addr) (cA : Nat) (w : World) (hC : IntsAt w aC cols) (hA : AggsAt w aA aggs) (hK : IntsAt w aK ks) (hcb : ∀ x ∈ cols, 0 ≤ x ∧ x < (ks.length : Int)) (hab : ∀ x ∈ aggs, 0 ≤ x.2 ∧ x.2 < (ks.length : Int)) :
    Calls Tryz.prog 88 #[.slice aC cols.length cC, .slice aA aggs.length cA, .slice aK ks.length cK] w (OwnQ (grpK ks cols aggs) w) := by
  have HC := hide hC
  have HA := hide hA
  have HK := hide hK
  have HCB := hide hcb
  have HAB := hide hab
  clear hC hA hK hcb hab
  go_enter Tryz.func88, Tryz.ntmps88
  go_wp2_with fail
  go_loopw [7, 14] (fun v i wr => ∃ (k : Nat) (a3 : Option Addr) (c3 : Nat), k ≤ cols.length ∧ i = .int .i64 (k : Int) ∧ v = .slice a3 k c3 ∧ Hid (OwnI wr w.heap.size (.slice a3 k c3) ((cols.take k).map (atK ks))) ∧ Hid (Below w.heap.size w wr)) (fun _ i _ => cols.length - (intOf i).toNat)
  case atStart => exact ⟨0, none, 0, Nat.zero_le _, rfl, rfl, own_nil _ _, Below.refl _ _⟩
  case round =>
    obtain ⟨k, a3, c3x, hk, rfl, rfl, HO, HBr⟩ := hrel
    by_cases hlt : k < cols.length
    · have h9 : (k : Int) < (cols.length : Int) := by omega
      obtain ⟨x, hx⟩ : ∃ x, cols[k]? = some x := ⟨_, List.getElem?_eq_getElem hlt⟩
      obtain ⟨g1, g2⟩ := unhide HCB x (List.mem_of_getElem? hx)
      obtain ⟨n, rfl⟩ : ∃ n : Nat, x = (n : Int) := ⟨x.toNat, by omega⟩
      have hn : n < ks.length := by omega
      obtain ⟨y, hy⟩ : ∃ y, ks[n]? = some y := ⟨_, List.getElem?_eq_getElem hn⟩
      obtain ⟨b, off, ea, d0⟩ := ((unhide HC).later (unhide HBr)).get hx
      obtain ⟨b2, off2, ea2, d1⟩ := ((unhide HK).later (unhide HBr)).get hy
      have HT : Hid ((cols.take (k + 1)).map (atK ks) = (cols.take k).map (atK ks) ++ [y]) := by
        show _ = _
        rw [take_snocI (atK ks) hx]; unfold atK; rw [Int.toNat_natCast, hy]; rfl
      have HLN : Hid (((cols.take k).map (atK ks)).length = k) := by show _ = _; simp; omega
      have hb1 := below_alloc (Below.refl _ wr) (.cells #[.int .i64 y] 3)
      have HO1 := hide ((unhide HO).later hb1)
      have HS := hide (own_single wr w.heap.size (unhide HBr).size y)
      have HB1 := hide (below_step (unhide HBr) hb1)
      generalize (cols.take k).map (atK ks) = zs at *
      rw [ea, ea2]
      clear ea ea2 hx hy hb1 HO
      go_wp2_with (at_builtin; refine wpList_push_ints _ rfl (.tmp 18) (.tmp 23) rfl w.heap.size w.heap.size _ _ zs [y] rfl (unhide HO1) rfl (unhide HS) (by rw [unhide HLN]; simp; omega) (unhide HB1).size ?_; intro v' w' hO' hB')
      obtain ⟨a4, c4, rfl⟩ := hO'.slice
      have e : (zs ++ [y]).length = k + 1 := by rw [List.length_append, unhide HLN]; rfl
      rw [e] at hO' ⊢
      rw [← unhide HT] at hO'
      exact ⟨⟨k + 1, a4, c4, by omega, by go_num, rfl, hO', (unhide HB1).trans hB'⟩, by simp [intOf]; omega⟩
    · have h9 : ¬ (k : Int) < (cols.length : Int) := by omega
      obtain rfl : k = cols.length := by omega
      rw [List.take_length] at HO
      have HCL : Hid ((cols.map (atK ks)).length = cols.length) := by show _ = _; rw [List.length_map]
      have HGK : Hid (grpK ks cols aggs = cols.map (atK ks) ++ aggs.map (aggK ks)) := rfl
      generalize cols.map (atK ks) = cs at HO HCL HGK
      have HOd := HO
      have HBd := HBr
      clear hk hlt HO HBr HCB
      go_wp2_with fail
      go_loopw [7, 28] (fun v i wr => ∃ (k N : Nat) (zs : List Int) (a3 : Option Addr) (c3 : Nat), k ≤ aggs.length ∧ N ≤ 2097152 ∧ i = .int .i64 (k : Int) ∧ v = .slice a3 N c3 ∧ Hid (zs.length = N) ∧ Hid (N = cols.length + k) ∧ Hid (zs = cs ++ (aggs.take k).map (aggK ks)) ∧ Hid (OwnI wr w.heap.size (.slice a3 N c3) zs) ∧ Hid (Below w.heap.size w wr)) (fun _ i _ => aggs.length - (intOf i).toNat)
      case atStart => exact ⟨0, cols.length, cs, a3, c3x, Nat.zero_le _, by omega, rfl, rfl, unhide HCL, rfl, (by show _ = _; simp), unhide HOd, unhide HBd⟩
      case round =>
        clear HOd HBd
        obtain ⟨k, N, zs, a3, c3y, hk, hN, rfl, rfl, HZL, HN, HZS, HO, HBk⟩ := hrel
        by_cases hlt : k < aggs.length
        · have h9 : (k : Int) < (aggs.length : Int) := by omega
          obtain ⟨x, hx⟩ : ∃ x, aggs[k]? = some x := ⟨_, List.getElem?_eq_getElem hlt⟩
          obtain ⟨b, off, ea, d0, d1⟩ := ((unhide HA).later (unhide HBk)).get hx
          have HAX := hide (unhide HAB x (List.mem_of_getElem? hx))
          have HT := hide (take_snocI (aggK ks) hx)
          obtain ⟨f, c⟩ := x
          simp only at d0 d1 HAX
          rw [ea]
          have hba := below_alloc (Below.refl _ wr) (.cells #[.int .i64 f, .int .i64 c] 100)
          have HBa := hide hba
          have HOa := hide ((unhide HO).later hba)
          have HKa := hide (((unhide HK).later (unhide HBk)).later hba)
          clear ea hx hba HO
          by_cases hf4 : f = 4
          · subst hf4
            obtain ⟨g1, g2⟩ := unhide HAX
            obtain ⟨n, rfl⟩ : ∃ n : Nat, c = (n : Int) := ⟨c.toNat, by omega⟩
            have hn : n < ks.length := by omega
            obtain ⟨y, hy⟩ : ∃ y, ks[n]? = some y := ⟨_, List.getElem?_eq_getElem hn⟩
            have HAT : Hid (atK ks (n : Int) = y) := by show _ = _; unfold atK; rw [Int.toNat_natCast, hy]; rfl
            obtain ⟨b2, off2, ea2, d2⟩ := (unhide HKa).get hy
            rw [ea2]
            clear ea2 hy
            have HT2 : Hid (aggK ks (4, (n : Int)) = y) := by show _ = _; unfold aggK; exact unhide HAT
            have HZS2 : Hid (zs ++ [y] = cs ++ (aggs.take (k + 1)).map (aggK ks)) := by show _ = _; rw [unhide HT, unhide HT2, unhide HZS, List.append_assoc]
            have HS := hide (own_single2 wr (.cells #[.int .i64 4, .int .i64 (n : Int)] 100) w.heap.size (unhide HBk).size (y))
            have hbs := below_alloc (Below.refl _ (wr.alloc (.cells #[.int .i64 4, .int .i64 (n : Int)] 100))) (.cells #[.int .i64 y] 3)
            have HO1 := hide ((unhide HOa).later hbs)
            have HB1 := hide (below_step (unhide HBk) (below_step (unhide HBa) hbs))
            clear HT HT2 HZS HAX HOa HKa hbs HBa HBk
            go_wp2_with (at_builtin; refine wpList_push_ints _ rfl (.tmp 40) (.tmp 46) rfl w.heap.size w.heap.size _ _ zs [y] rfl (unhide HO1) rfl (unhide HS) (by rw [unhide HZL]; simp; omega) (unhide HB1).size ?_; intro v' w' hO' hB')
            obtain ⟨a4, c4, rfl⟩ := hO'.slice
            have e : (zs ++ [y]).length = N + 1 := by rw [List.length_append, unhide HZL]; rfl
            rw [e] at hO' ⊢
            exact ⟨⟨k + 1, N + 1, zs ++ [y], a4, c4, by omega, by have := unhide HN; omega, by go_num, rfl, e, (by show _ = _; have := unhide HN; omega), unhide HZS2, hO', (unhide HB1).trans hB'⟩, by simp [intOf]; omega⟩
          by_cases hf5 : f = 5
          · subst hf5
            obtain ⟨g1, g2⟩ := unhide HAX
            obtain ⟨n, rfl⟩ : ∃ n : Nat, c = (n : Int) := ⟨c.toNat, by omega⟩
            have hn : n < ks.length := by omega
            obtain ⟨y, hy⟩ : ∃ y, ks[n]? = some y := ⟨_, List.getElem?_eq_getElem hn⟩
            have HAT : Hid (atK ks (n : Int) = y) := by show _ = _; unfold atK; rw [Int.toNat_natCast, hy]; rfl
            obtain ⟨b2, off2, ea2, d2⟩ := (unhide HKa).get hy
            rw [ea2]
            clear ea2 hy
            have HT2 : Hid (aggK ks (5, (n : Int)) = y) := by show _ = _; unfold aggK; exact unhide HAT
            have HZS2 : Hid (zs ++ [y] = cs ++ (aggs.take (k + 1)).map (aggK ks)) := by show _ = _; rw [unhide HT, unhide HT2, unhide HZS, List.append_assoc]
            have HS := hide (own_single2 wr (.cells #[.int .i64 5, .int .i64 (n : Int)] 100) w.heap.size (unhide HBk).size (y))
            have hbs := below_alloc (Below.refl _ (wr.alloc (.cells #[.int .i64 5, .int .i64 (n : Int)] 100))) (.cells #[.int .i64 y] 3)
            have HO1 := hide ((unhide HOa).later hbs)
            have HB1 := hide (below_step (unhide HBk) (below_step (unhide HBa) hbs))
            clear HT HT2 HZS HAX HOa HKa hbs HBa HBk
            go_wp2_with (at_builtin; refine wpList_push_ints _ rfl (.tmp 40) (.tmp 46) rfl w.heap.size w.heap.size _ _ zs [y] rfl (unhide HO1) rfl (unhide HS) (by rw [unhide HZL]; simp; omega) (unhide HB1).size ?_; intro v' w' hO' hB')
            obtain ⟨a4, c4, rfl⟩ := hO'.slice
            have e : (zs ++ [y]).length = N + 1 := by rw [List.length_append, unhide HZL]; rfl
            rw [e] at hO' ⊢
            exact ⟨⟨k + 1, N + 1, zs ++ [y], a4, c4, by omega, by have := unhide HN; omega, by go_num, rfl, e, (by show _ = _; have := unhide HN; omega), unhide HZS2, hO', (unhide HB1).trans hB'⟩, by simp [intOf]; omega⟩
          have b4 : (f == 4) = false := by simpa using hf4
          have b5 : (f == 5) = false := by simpa using hf5
          have HT2 : Hid (aggK ks (f, c) = 1) := by show _ = _; unfold aggK; simp only; rw [b4, b5]; rfl
          have HZS2 : Hid (zs ++ [1] = cs ++ (aggs.take (k + 1)).map (aggK ks)) := by show _ = _; rw [unhide HT, unhide HT2, unhide HZS, List.append_assoc]
          have HS := hide (own_single2 wr (.cells #[.int .i64 f, .int .i64 c] 100) w.heap.size (unhide HBk).size (1))
          have hbs := below_alloc (Below.refl _ (wr.alloc (.cells #[.int .i64 f, .int .i64 c] 100))) (.cells #[.int .i64 1] 3)
          have HO1 := hide ((unhide HOa).later hbs)
          have HB1 := hide (below_step (unhide HBk) (below_step (unhide HBa) hbs))
          clear hf4 hf5 HT HT2 HZS HAX HOa HKa hbs HBa HBk
          go_wp2_with (at_builtin; refine wpList_push_ints _ rfl (.tmp 48) (.tmp 49) rfl w.heap.size w.heap.size _ _ zs [1] rfl (unhide HO1) rfl (unhide HS) (by rw [unhide HZL]; simp; omega) (unhide HB1).size ?_; intro v' w' hO' hB')
          obtain ⟨a4, c4, rfl⟩ := hO'.slice
          have e : (zs ++ [1]).length = N + 1 := by rw [List.length_append, unhide HZL]; rfl
          rw [e] at hO' ⊢
          exact ⟨⟨k + 1, N + 1, zs ++ [1], a4, c4, by omega, by have := unhide HN; omega, by go_num, rfl, e, (by show _ = _; have := unhide HN; omega), unhide HZS2, hO', (unhide HB1).trans hB'⟩, by simp [intOf]; omega⟩
        · have h9 : ¬ (k : Int) < (aggs.length : Int) := by omega
          obtain rfl : k = aggs.length := by omega
          rw [List.take_length] at HZS
          clear hk hlt
          go_wp2
          go_ret
          refine ⟨a3, c3y, by rw [unhide HGK, ← unhide HZS, unhide HZL]; rfl, ?_, unhide HBk⟩
          rw [unhide HGK, ← unhide HZS, unhide HZL]
          exact unhide HO
end Go.Proofs.YtcpndojkfngioaaGreat

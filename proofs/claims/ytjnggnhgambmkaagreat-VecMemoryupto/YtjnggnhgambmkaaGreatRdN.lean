import Derived.Test.YtjnggnhgambmkaaGreatRdM
set_option linter.unusedSimpArgs false
set_option linter.unusedVariables false
namespace Go.Proofs.YtjnggnhgambmkaaGreat
open Go.RowKit Go.Sort

def runD (kind : Int) (count : Nat) (vs : List Val) (l : List UInt8) : Option (List Val × List UInt8) :=
  (numD 4 l).bind fun p => (plainD kind p.2).bind fun q =>
    if 0 < p.1 ∧ p.1 ≤ count - vs.length ∧ (∀ y, vs.getLast? = some y → sameB y q.1 = false) then some (vs ++ List.replicate p.1 q.1, q.2) else none
def runsD (kind : Int) (count : Nat) : Nat → List UInt8 → Option (List Val × List UInt8)
  | 0, l => some ([], l)
  | n + 1, l => (runsD kind count n l).bind fun p => runD kind count p.1 p.2
theorem runD_some {kind : Int} {count : Nat} {vs us : List Val} {l r : List UInt8} (h : runD kind count vs l = some (us, r)) : ∃ m l1 x, numD 4 l = some (m, l1) ∧ plainD kind l1 = some (x, r) ∧ 0 < m ∧ m ≤ count - vs.length ∧ (∀ y, vs.getLast? = some y → sameB y x = false) ∧ us = vs ++ List.replicate m x := by
  unfold runD at h
  cases hn : numD 4 l with
  | none => rw [hn] at h; cases h
  | some p =>
    rw [hn, Option.bind_some] at h
    cases hp : plainD kind p.2 with
    | none => rw [hp] at h; cases h
    | some q =>
      rw [hp, Option.bind_some] at h
      split at h
      · rename_i hc
        injection h with h; injection h with h1 h2
        subst h2
        exact ⟨p.1, p.2, q.1, rfl, hp, hc.1, hc.2.1, hc.2.2, h1.symm⟩
      · cases h
theorem runsD_split {kind : Int} {count n k : Nat} {l : List UInt8} {us : List Val} {r : List UInt8} (h : runsD kind count n l = some (us, r)) (hk : k ≤ n) : ∃ vs r2, runsD kind count k l = some (vs, r2) := by
  obtain ⟨j, rfl⟩ : ∃ j, n = k + j := ⟨n - k, by omega⟩
  clear hk
  induction j generalizing us r with
  | zero => exact ⟨_, _, h⟩
  | succ j ih =>
    rw [← Nat.add_assoc, runsD] at h
    cases hp : runsD kind count (k + j) l with
    | none => rw [hp] at h; cases h
    | some p => exact ih hp
theorem runsD_next {kind : Int} {count n k : Nat} {l : List UInt8} {us : List Val} {r : List UInt8} (h : runsD kind count n l = some (us, r)) (hk : k < n) {vs : List Val} {r2 : List UInt8} (hv : runsD kind count k l = some (vs, r2)) : ∃ us' r3, runD kind count vs r2 = some (us', r3) ∧ runsD kind count (k + 1) l = some (us', r3) := by
  obtain ⟨a, c, h2⟩ := runsD_split h (k := k + 1) hk
  refine ⟨a, c, ?_, h2⟩
  rw [runsD, hv, Option.bind_some] at h2
  exact h2
theorem runsD_le {kind : Int} {count : Nat} : ∀ {n : Nat} {l r : List UInt8} {vs : List Val}, runsD kind count n l = some (vs, r) → vs.length ≤ count ∧ r.length ≤ l.length
  | 0, l, r, vs, h => by
    unfold runsD at h
    injection h with h; injection h with h1 h2
    subst h1; subst h2; exact ⟨by simp, Nat.le_refl _⟩
  | n + 1, l, r, vs, h => by
    unfold runsD at h
    cases hp : runsD kind count n l with
    | none => rw [hp] at h; cases h
    | some p =>
      rw [hp, Option.bind_some] at h
      obtain ⟨a, c⟩ := runsD_le (vs := p.1) (r := p.2) hp
      obtain ⟨m, l1, x, h1, h2, h3, h4, _, rfl⟩ := runD_some h
      have := numD_le h1
      have := plainD_le h2
      refine ⟨?_, by omega⟩
      rw [List.length_append, List.length_replicate]; omega
/-- A whole row is appended to an own row of values. -/
theorem wpList_append_more {w : World} {ops : Array Oper} {rest : List Oper} {o : Oper} {a : Act} {Q : Exit → Act → World → Prop} (hgd : o.guard = none) (s x : Operand) (ho : o.op = .call { callee := .builtin .append, args := #[s, x], argTypes := #[22, 22] })
    (B B2 : Nat) (v u : Value) (xs ys : List Val) (hs : a.eval s = v) (hx : a.eval x = u) (hown : OwnV w B v xs) (hu : OwnV w B2 u ys) (hl : xs.length + ys.length ≤ 100000) (hB : B ≤ w.heap.size)
    (hK : ∀ v' w', OwnV w' B v' (xs ++ ys) → w.grownBy w' v.ownBlock → wpList Tryz.prog ops Q rest (a.put o.dst v') w') : wpList Tryz.prog ops Q (o :: rest) a w := by
  obtain ⟨i4, hi4, z40, z41, z42⟩ := info_parts Tryz.info38
  rcases hu.2 with ⟨rfl, h0⟩ | ⟨g, cap, cur, rfl, hb, hh, hc, hm, hcs, ht⟩
  · have e : ys = [] := List.eq_nil_of_length_eq_zero h0
    subst e
    refine wpList_append_own_none hgd s x 22 ho B 38 i4 3 Tryz.underlying22 hi4 v xs.length (xs.flatMap c3) hs hown hx ?_
    exact hK v w (by simpa using hown) (World.grownBy.refl _ _)
  · refine wpList_append_own_at w hgd s x 22 ho B 38 i4 (.agg #[.int .i64 0, .int .i64 0, .string ⟨#[]⟩]) 3 32 Tryz.underlying22 hi4 z40 z41 z42 rfl (by decide) v xs.length (xs.flatMap c3) hs hown ⟨g, 0, none⟩ ys.length cap (ys.flatMap c3) hx (flat_len ys) (World.ownsRow.cells hu rfl) (fun v hv => by
      obtain ⟨z, _, hz⟩ := List.mem_flatMap.1 hv
      exact c3_one z v hz) (by unfold maxLen; omega) (by omega) hB ?_
    intro v' w' h1 h2 _ hat
    refine hK v' w' ?_ h2
    unfold OwnV
    rw [List.length_append, List.flatMap_append]
    exact h1
theorem Gr.own {w wr w1 : World} {b : Nat} {v : Value} {xs : List Val} (h : Gr w wr b) (ho : OwnV wr w.heap.size v xs) (hg : wr.grownBy w1 v.ownBlock) : Gr w w1 b := by
  have h2 := h.size
  exact ⟨hg.os.trans h.os, hg.tape.trans h.tape, hg.output.trans h.output, Nat.le_trans h2 hg.size, fun i hi hne => by
    rw [hg.block i (by omega) (fun e => by have := (World.ownsRow.lt ho i e.symm).1; omega), h.block i hi hne]⟩
theorem Rd.own {wr w1 : World} {b B : Nat} {v : Value} {xs : List Val} {l : List UInt8} (hr : Rd wr b l) (ho : OwnV wr B v xs) (hb : b < B) (hg : wr.grownBy w1 v.ownBlock) : Rd w1 b l :=
  World.rowIs.of_block hr (hg.block b hr.ne (fun e => by have := (World.ownsRow.lt ho b e.symm).1; omega))
theorem same_no {y x : Val} (h : sameB y x = false) : (y.k == x.k) = false ∨ ((y.k == x.k) = true ∧ (y.n == x.n) = false) ∨ ((y.k == x.k) = true ∧ (y.n == x.n) = true ∧ (y.s.toList == x.s.toList) = false) := by
  unfold sameB at h
  cases h1 : (y.k == x.k) <;> cases h2 : (y.n == x.n) <;> cases h3 : (y.s.toList == x.s.toList) <;> simp_all
set_option maxHeartbeats 400000 in
set_option maxRecDepth 100000 in
theorem runs_yes {b count m : Nat} {kind : Int} {l l1 r : List UInt8} {vs : List Val} {w : World} (hc : count ≤ 4096) (hk : kind = 1 ∨ kind = 2) (h : Rd w b l) (hl : l.length ≤ 140737488355328)
    (hm : numD 4 l = some (m, l1)) (hv : runsD kind count m l1 = some (vs, r)) (hlen : vs.length = count) :
    Calls Tryz.prog 73 #[.pointer (some ⟨b, 0, none⟩), .int .i64 kind, .int .i64 count] w fun e w' => ∃ v, e = .returned v ∧ OwnV w' w.heap.size v vs ∧ Rd w' b r ∧ Gr w w' b := by
  have hm2 : m < 4294967296 := by
    obtain ⟨g1, rfl, rfl⟩ := numD_some hm
    have := beV_lt (l.take 4)
    have h2 : (l.take 4).length = 4 := by rw [List.length_take]; omega
    rw [h2] at this; simpa using this
  have hl1 := numD_le hm
  have HN := hide (numd_yes h hl hm (by decide))
  have hbw := h.ne
  have HV := hide hv
  have HLEN := hide hlen
  clear h hlen hv
  go_enter Tryz.func73, Tryz.ntmps73
  go_wp2_with (go_at_call 53; refine (unhide HN).mono ?_; rintro e w1 ⟨rfl, hr1, hg1⟩)
  go_loopw [7, 12] (fun v i wr => ∃ (k : Nat) (us : List Val) (rk : List UInt8), k ≤ m ∧ i = .int .u64 (k : Int) ∧ Hid (runsD kind count k l1 = some (us, rk)) ∧ OwnV wr w.heap.size v us ∧ Rd wr b rk ∧ Gr w wr b) (fun _ i _ => m - (intOf i).toNat)
  case atStart => exact ⟨0, [], l1, Nat.zero_le _, rfl, rfl, ⟨rfl, .inl ⟨rfl, rfl⟩⟩, hr1, hg1⟩
  case round =>
    obtain ⟨k, us, rk, hkm, rfl, HK, ho, hr, hg⟩ := hrel
    obtain ⟨hul, hrl⟩ := runsD_le (unhide HK)
    by_cases hlt : k < m
    · have h9 : (k : Int) < (m : Int) := by omega
      obtain ⟨us', r3, hrun, hrn⟩ := runsD_next (unhide HV) hlt (unhide HK)
      have HRN := hide hrn
      obtain ⟨c, q1, x, hnum, hpl, hc0, hc1, hlast, rfl⟩ := runD_some hrun
      have hq1 := numD_le hnum
      have HC := hide (numd_yes hr (by omega) hnum (by decide))
      have HPL := hide (fun W (hW : Rd W b q1) => plain_yes hk hW (by omega) hpl)
      have hc2 : (0 : Int) < (c : Int) := by omega
      obtain ⟨ua, uc, rfl, hua1, hua2, hurow⟩ := ownV_slice ho
      obtain ⟨U, hU⟩ : ∃ U, U = us.length := ⟨_, rfl⟩
      rw [← hU]
      have hcu : (c : Int) ≤ (count : Int) - (U : Int) := by omega
      have hcw : IntKind.u64.wrap ((count : Int) - (U : Int)) = (count : Int) - (U : Int) := by rw [IntKind.wrap_u64]; omega
      have hU2 : U + c ≤ count := by omega
      have HU := hide hU
      have HKEEP : Hid (∀ w3, Gr wr w3 b → OwnV w3 w.heap.size (.slice ua us.length uc) us ∧ Gr w w3 b) := fun w3 hg3 => ⟨ho.gr hg3 hbw, hg.trans hg3⟩
      have hz := hg.size
      have HLAST := hide hlast
      clear hrun hrn hnum hpl ho hr hg hurow hU hlast hul
      go_upto_region 7 with (first
        | (go_at_call 53; refine (unhide HC).mono ?_; rintro e w2 ⟨rfl, hr2, hg2⟩)
        | (go_at_call 84; refine (unhide HPL _ hr2).mono ?_; rintro e w3 ⟨rfl, hr3, hg3⟩; rw [Val.open_])
        | (go_at_call 54; refine (ensure_yes _).mono ?_; rintro e w4 ⟨rfl, rfl⟩))
      obtain ⟨W, hW⟩ : ∃ W, Hid (W = w3.alloc (.cells #[.int .i64 x.k, .int .i64 x.n, .string x.s] 38)) := ⟨_, rfl⟩
      have hbox : W.rowIs w3.heap.size 38 3 (box3 x) := by rw [unhide hW]; exact box3_alloc w3 x
      obtain ⟨b0, b1, b2, _, _, _⟩ := box3_facts hbox
      obtain ⟨hO3, hG3⟩ := unhide HKEEP w3 (hg2.trans hg3)
      have hOW : OwnV W w.heap.size (.slice ua us.length uc) us := by rw [unhide hW]; exact hO3.later (below_alloc (Below.refl _ _) _)
      have hRW : Rd W b r3 := by rw [unhide hW]; exact hr3.alloc _
      have hGW : Gr w W b := by rw [unhide hW]; exact hG3.trans (Gr.alloc _ _ _)
      have hzW : w.heap.size ≤ W.heap.size := hGW.size
      rw [← unhide hW]
      have HOW := hide hOW
      have HRW := hide hRW
      have HGW := hide hGW
      have HBOX := hide hbox
      clear hW hO3 hG3 hbox hOW hRW hGW hr2 hg2 hr3 hg3 HKEEP
      go_cut [44] (fun _ wx => Below W.heap.size W wx)
      case first =>
        by_cases hU0 : U = 0
        · subst hU0
          refine wp_region_quiet_below (by kernel_rfl) (by kernel_rfl) ?_
          repeat (go_big_quiet_step (first
            | (go_at_call 54; exact Calls.regrown_of (ensureB _ rfl _))))
          refine wpQuiet_nil ?_
          intro w' hw'
          have hB : Below W.heap.size W w' := by obtain ⟨p, rfl⟩ := hw'; exact below_regrown _ _ _
          clear hw'
          go_wp2
          go_meet
          exact hB
        · obtain ⟨j, hj⟩ : ∃ j, U = j + 1 := ⟨U - 1, by omega⟩
          obtain ⟨y, hy⟩ : ∃ y, us[j]? = some y := ⟨_, List.getElem?_eq_getElem (by rw [← unhide HU]; omega)⟩
          have hl2 : us.getLast? = some y := by
            rw [List.getLast?_eq_getElem?, ← unhide HU, hj]; exact hy
          have hno := same_no (unhide HLAST y hl2)
          obtain ⟨_, _, e, _, _, hurow⟩ := ownV_slice (unhide HOW)
          injection e with e1 e2 e3
          subst e1
          subst e3
          obtain ⟨vb, vo, rfl, c0, c1, c2⟩ := hurow.lo hy
          have k0 := cell_regrown c0
          have k1 := cell_regrown c1
          have k2 := cell_regrown c2
          have k3 := cell_regrown b0
          have k4 := cell_regrown b1
          have k5 := cell_regrown b2
          have ej : (U : Int) - 1 = (j : Int) := by omega
          have g0 : ((U : Int) == 0) = false := by simpa using hU0
          have hjm : (j : Int) < (U : Int) := by omega
          clear c0 c1 c2 b0 b1 b2 hy hj hU0 hl2 hurow
          rcases hno with e1 | ⟨e1, e2⟩ | ⟨e1, e2, e3⟩
          all_goals
            refine wp_region_quiet_below (by kernel_rfl) (by kernel_rfl) ?_
            repeat (go_big_quiet_step (first
              | (go_at_call 54; exact Calls.regrown_of (ensureB _ rfl _))))
            refine wpQuiet_nil ?_
            intro w' hw'
            have hB : Below W.heap.size W w' := by obtain ⟨p, rfl⟩ := hw'; exact below_regrown _ _ _
            clear hw'
            go_wp2
            go_meet
            exact hB
      case rest =>
        rename World => wx
        have hbx : Below W.heap.size W wx := hcut
        have HOX := hide ((unhide HOW).later hbx)
        have HRX := hide ((unhide HRW).below hbx)
        have HGX := hide ((unhide HGW).trans (Gr.of_below hbx b))
        obtain ⟨x0, x1, x2, _, _, _⟩ := box3_facts (rowIs_later (unhide HBOX) hbx)
        have hzx := hbx.size
        have HREP := hide (repeat_any wx.heap.size c x (wx.alloc (.cells #[.int .i64 x.k, .int .i64 x.n, .string x.s] 38)) (by omega) (by omega) (box3_alloc wx x))
        have hc4 : (c : Int) ≤ 4096 := by omega
        clear hcut hbx HOW HRW HGW HBOX b0 b1 b2
        go_wp2_with (first
          | (go_at_call 85; refine (unhide HREP).mono ?_; rintro e w5 ⟨v5, rfl, ho5, hb5⟩; have HO5 : Hid (OwnV w5 w.heap.size (.slice ua U uc) us) := by (have := (unhide HOX).later (below_one hb5); rw [← unhide HU] at this; exact this))
          | (at_builtin; refine wpList_append_more rfl (.tmp 45) (.tmp 50) rfl w.heap.size _ (.slice ua U uc) v5 us (List.replicate c x) rfl rfl (unhide HO5) ho5 (by rw [List.length_replicate, ← unhide HU]; omega) (by have := (below_one hb5).size; omega) ?_; intro v6 w6 ho6 hg6))
        have hr5 := (unhide HRX).below (below_one hb5)
        have hg5 := (unhide HGX).trans (Gr.of_below (below_one hb5) b)
        exact ⟨⟨k + 1, us ++ List.replicate c x, r3, by omega, by go_num, HRN, ho6, hr5.own (unhide HO5) hbw hg6, hg5.own (unhide HO5) hg6⟩, by simp [intOf]; omega⟩
    · have h9 : ¬ (k : Int) < (m : Int) := by omega
      have ek : k = m := by omega
      subst ek
      have e := unhide HV
      rw [unhide HK] at e
      injection e with e
      injection e with e1 e2
      subst e1; subst e2
      obtain ⟨ua, uc, rfl, hua1, hua2, hurow⟩ := ownV_slice ho
      have HOWN : Hid (OwnV wr w.heap.size (.slice ua us.length uc) us ∧ Rd wr b rk ∧ Gr w wr b) := ⟨ho, hr, hg⟩
      rw [unhide HLEN] at HOWN ⊢
      clear ho hr hg hurow hua1 hua2
      go_wp2_with (go_at_call 54; refine (ensure_yes _).mono ?_; rintro e w4 ⟨rfl, rfl⟩)
      go_ret
      exact ⟨_, rfl, unhide HOWN⟩
end Go.Proofs.YtjnggnhgambmkaaGreat

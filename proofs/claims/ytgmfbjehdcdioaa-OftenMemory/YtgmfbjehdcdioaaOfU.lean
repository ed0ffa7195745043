import Derived.Test.YtgmfbjehdcdioaaOfT
set_option linter.unusedSimpArgs false
set_option linter.unusedVariables false
set_option maxRecDepth 100000
namespace Go.Proofs.Ytgmfbjehdcdioaa
open Go.RowKit Go.Sort

theorem step_upd_run {ops : Array Oper} {o : Oper} {a : Act} {w : World} {K : Act → World → Prop} {Q : Exit → Act → World → Prop} {E : Prop} (hg : o.guard = none) (t : Nat) (d x y : Operand)
    (hop : o.op = Op.mapUpdate t d x y) (v u z : Value) (hd : a.eval d = v) (hx : a.eval x = u) (hy : a.eval y = z) {w' : World} (hr : (Instr.mapUpdate t v u z).run Try.prog w = .ok () w') (hK : K (a.put o.dst (.tuple #[])) w') :
    if Region.wanted o (yielded ops a.tmps) = true then Oper.wp Try.prog o a w K Q else E := by
  have hw : Region.wanted o (yielded ops a.tmps) = true := by simp [Region.wanted, hg]
  rw [if_pos hw]
  unfold Oper.wp execOp
  simp only [hop, Sem.run_bind, Sem.run_pure, Result.andThen_ok, hd, hx, hy, hr]
  exact hK

/-- A new counter's block. -/
structure NwC (w wc : World) (p : Nat) (x : Cn) : Prop where
  bel : Below w.heap.size w wc
  box : wc.rowIs p 60 6 (box6 x 0)
  new : w.heap.size ≤ p

/-- What count leaves of a new value. -/
def CnA (w : World) (b k tot fl mb : Nat) (S : Value) (n : Nat) (E : Nat → Nat × Cn) (y : Cn) (w' : World) : Prop :=
  ∃ p S' n' E' L' f', w.heap.size ≤ p ∧ Of w' b k tot f' mb S' n' E' L' ∧ Ky (footO b mb S n E) w w' ∧ (∀ q, fq S' n' E' q → fq S n E q ∨ w.heap.size ≤ q) ∧
    ((n + 1 ≤ k ∧ f' = fl ∧ (lisE E' n').Perm (lisE E n ++ [(p, y)])) ∨
     (k < n + 1 ∧ (∀ e ∈ lisE E n ++ [(p, y)], f' ≤ e.2.hi) ∧ (∃ e ∈ lisE E n ++ [(p, y)], e.2.hi = f') ∧ (lisE E' n').Perm ((lisE E n ++ [(p, y)]).filter fun e => decide (f' < e.2.hi))))

/-- Under way: the counter is in the map and in the queue. -/
structure PuS (w : World) (b k tot fl mb : Nat) (S : Value) (n : Nat) (E : Nat → Nat × Cn) (p : Nat) (y : Cn) (w' : World) (S' : Value) (E' : Nat → Nat × Cn) (L' : List (Vk × Nat)) : Prop where
  new : w.heap.size ≤ p
  o : Of w' b k tot fl mb S' (n + 1) E' L'
  ky : Ky (footO b mb S n E) w w'
  sub : ∀ q, fq S' (n + 1) E' q → fq S n E q ∨ w.heap.size ≤ q
  perm : (lisE E' (n + 1)).Perm (lisE E n ++ [(p, y)])
  once : Once E' (n + 1)
theorem PuS.later {w w' w2 : World} {b k tot fl mb n p : Nat} {S S' : Value} {E E' : Nat → Nat × Cn} {y : Cn} {L' : List (Vk × Nat)} (h : PuS w b k tot fl mb S n E p y w' S' E' L') (hb : Below w'.heap.size w' w2) : PuS w b k tot fl mb S n E p y w2 S' E' L' :=
  ⟨h.new, h.o.later hb, h.ky.trans (Ky.of_below (F := footO b mb S n E) hb) fun i hi => .inl hi, h.sub, h.perm, h.once⟩

/-- heap.Push behind the map's new entry. -/
theorem Of.pushing {w wc : World} {b k tot fl mb n p : Nat} {S : Value} {E : Nat → Nat × Cn} {L : List (Vk × Nat)} {x : Vk} {y : Cn} {o : Obj} (h : Of w b k tot fl mb S n E L) (hon : Once E n) (hx : atK L x = none) (hy : y.key = x) (hn : n ≤ 1999) (hN : NwC w wc p y) (hm : MapAt (putO wc mb o) mb (L ++ [(x, p)])) :
    Calls Try.prog 37 #[.iface 82 (.pointer (some ⟨b, 4, none⟩)), .iface 57 (.pointer (some ⟨p, 0, none⟩))] (putO wc mb o) fun e w' => e = .returned (.tuple #[]) ∧ ∃ S' E' L', PuS w b k tot fl mb S n E p y w' S' E' L' := by
  have hc := h.later hN.bel
  obtain ⟨n1, n2⟩ := hc.mapne
  have hfl : ∀ q, fq S n E q → q < w.heap.size := fun q hq => by
    rcases hq with hq | ⟨i, hi, rfl⟩
    · exact (h.qu.lst.lt q hq).2
    · exact (h.qu.ctr i hi).lt
  have hpm : p ≠ mb := fun e => by
    obtain ⟨es, clk, hh, _⟩ := hc.map
    obtain ⟨c, hb, _⟩ := hN.box
    rw [e, hh] at hb; cases hb
  have hq2 : Qu (putO wc mb o) b S n E := hc.qu.keep (putO_ne (Ne.symm n2)) fun q hq => putO_ne fun e => n1 (by rw [← e]; exact hq)
  have hpb : p ≠ b := fun e => by have := h.box.lt; have := hN.new; omega
  have hpq : ¬ fq S n E p := fun hf => by have := hfl p hf; have := hN.new; omega
  refine (hpush_any hq2 hc.heap (hc.box.of_block (putO_ne (Ne.symm n2))) rfl hc.ne (hN.box.of_block (putO_ne hpm)) hpb hpq hn).mono ?_
  rintro e w' ⟨rfl, S', E', r1, r2, r3, r4, r5, r6, r7⟩
  have hwz : w.heap.size ≤ (putO wc mb o).heap.size := by have := hN.bel.size; simp [putO]; omega
  have hky : Ky (footO b mb S n E) w w' := by
    have k1 : Ky (footO b mb S n E) w (putO wc mb o) := (Ky.of_below (F := footO b mb S n E) hN.bel).trans (ky_putO (F := footO b mb S n E) wc mb o (.inr (.inl rfl))) fun i hi => .inl hi
    refine k1.trans r6 fun i hi => ?_
    rcases hi with hi | hi | hi
    · exact .inl (.inr (.inr hi))
    · exact .inl (.inl hi)
    · exact .inr (by rw [hi]; exact hN.new)
  refine ⟨rfl, S', E', L ++ [(x, p)], hN.new, ⟨r4.congr fun i hi => ?_, r1, r5, ?_, ?_, r2⟩, hky, fun q hq => ?_, r3, ?_⟩
  · match i, hi with
    | 0, _ => rfl
    | 1, _ => rfl
    | 2, _ => rfl
    | 3, _ => rfl
    | 4, _ => rfl
  · obtain ⟨es, clk, hh, he⟩ := hm
    exact ⟨es, clk, by rw [r6.block mb (Array.getElem?_eq_some_iff.1 hh).1 (fun hf => by rcases hf with hf | hf | hf; exact n1 hf; exact n2 hf; exact hpm hf.symm)]; exact hh, he⟩
  · have h2 := (r3.map fun e : Nat × Cn => (e.2.key, e.1)).symm
    rw [List.map_append] at h2
    simp only [List.map_cons, List.map_nil, hy] at h2
    exact (h.same.append_right _).trans h2
  · rcases r7 q hq with g | g | g
    · exact .inl g
    · exact .inr (by rw [g]; exact hN.new)
    · exact .inr (Nat.le_trans hwz g)
  · rw [once_nodup]
    refine (r3.map fun e : Nat × Cn => e.2.key).nodup_iff.2 ?_
    rw [List.map_append, List.nodup_append]
    refine ⟨once_nodup.1 hon, by simp, fun a ha c hc' e => ?_⟩
    simp only [List.map_cons, List.map_nil, List.mem_singleton] at hc'
    obtain ⟨e', he', rfl⟩ := List.mem_map.1 ha
    obtain ⟨i, hi, rfl⟩ := List.mem_map.1 he'
    exact h.missing hx i (List.mem_range.1 hi) (by rw [e, hc', hy])
theorem PuS.few {w w' : World} {b k tot fl mb n p : Nat} {S S' : Value} {E E' : Nat → Nat × Cn} {y : Cn} {L' : List (Vk × Nat)} (h : PuS w b k tot fl mb S n E p y w' S' E' L') (hk : n + 1 ≤ k) : CnA w b k tot fl mb S n E y w' :=
  ⟨p, S', n + 1, E', L', fl, h.new, h.o, h.ky, h.sub, .inl ⟨hk, rfl, h.perm⟩⟩
theorem PuS.many {w w' : World} {b k tot fl mb n p : Nat} {S S' : Value} {E E' : Nat → Nat × Cn} {y : Cn} {L' : List (Vk × Nat)} (h : PuS w b k tot fl mb S n E p y w' S' E' L') (hk : k < n + 1) (hn : n ≤ 1999) :
    Calls Try.prog 38 #[.pointer (some ⟨b, 0, none⟩)] w' fun e w2 => e = .returned (.tuple #[]) ∧ CnA w b k tot fl mb S n E y w2 := by
  refine (raise_any h.o h.once hn).mono ?_
  rintro e w2 ⟨rfl, S2, n2, E2, L2, q1, q2, q3, q4⟩
  refine ⟨rfl, p, S2, n2, E2, L2, (E' 0).2.hi, h.new, q1, h.ky.trans q3 fun i hi => ?_, fun q hq => h.sub q (q4 q hq), .inr ⟨hk, fun e he => ?_, ⟨E' 0, ?_, rfl⟩, q2.trans (h.perm.filter _)⟩⟩
  · rcases hi with hi | hi | hi
    · exact .inl (.inl hi)
    · exact .inl (.inr (.inl hi))
    · rcases h.sub i hi with g | g
      · exact .inl (.inr (.inr g))
      · exact .inr g
  · obtain ⟨i, hi, rfl⟩ := List.mem_map.1 (h.perm.mem_iff.2 he)
    exact h.o.heap.least i (List.mem_range.1 hi)
  · exact h.perm.mem_iff.1 (List.mem_map.2 ⟨0, List.mem_range.2 (by omega), rfl⟩)

set_option maxHeartbeats 2000000 in
theorem count_new {w : World} {b k tot fl mb n : Nat} {S : Value} {E : Nat → Nat × Cn} {L : List (Vk × Nat)} (h : Of w b k tot fl mb S n E L) (hon : Once E n) {x : Vk} {m : Nat} (hx : atK L x = none) (hn : n ≤ 1024) (hk : k ≤ 1024) (hm : fl + m ≤ 4611686018427387904) :
    Calls Try.prog 23 #[.pointer (some ⟨b, 0, none⟩), x.v, .int .i64 m] w fun e w' => e = .returned (.tuple #[]) ∧ CnA w b k tot fl mb S n E ⟨x.k, x.n, x.s, m, fl + m⟩ w' := by
  obtain ⟨W1, hW1⟩ : ∃ W1, w.alloc (.cells #[.int .i64 x.k, .int .i64 x.n, .string x.s] 34) = W1 := ⟨_, rfl⟩
  have hB1 : Below w.heap.size w W1 := by rw [← hW1]; exact below_alloc (Below.refl _ _) _
  have h1 := h.later hB1
  obtain ⟨c0, c1, c2, c3, c4, f1, f2, f3, f4⟩ := h1.facts
  have hvo : x.v = .agg #[.int .i64 x.k, .int .i64 x.n, .string x.s] := rfl
  have v0 : W1.cell? ⟨w.heap.size, 0, none⟩ = some (.int .i64 x.k) := by rw [← hW1]; simp [go_sem]
  have v1 : W1.cell? ⟨w.heap.size, 1, none⟩ = some (.int .i64 x.n) := by rw [← hW1]; simp [go_sem]
  have v2 : W1.cell? ⟨w.heap.size, 2, none⟩ = some (.string x.s) := by rw [← hW1]; simp [go_sem]
  have hlk : (Instr.lookup 50 (.map (some mb)) (.agg #[.int .i64 x.k, .int .i64 x.n, .string x.s]) true).run Try.prog W1.drew = .ok (.tuple #[.pointer none, .bool false]) W1.drew := look_no (W := W1.drew) (h1.later (Below.refl _ _).drew).map hx
  have hm1 : (m : Int) ≤ 4611686018427387904 := by omega
  have hm2 : (fl : Int) + (m : Int) ≤ 4611686018427387904 := by omega
  have HNW : Hid (∀ W : World, Below W1.heap.size W1 W → ∀ c : Int, c = ((fl + m : Nat) : Int) → NwC w (W.alloc (.cells #[.int .i64 x.k, .int .i64 x.n, .string x.s, .int .i64 m, .int .i64 c, .int .i64 0] 60)) W.heap.size ⟨x.k, x.n, x.s, m, fl + m⟩) := fun W hW c hc => by
    refine ⟨below_alloc (below_step hB1 hW) _, World.rowIs_alloc W _ 60 _ fun i hi => ?_, (below_step hB1 hW).size⟩
    subst hc
    match i, hi with
    | 0, _ => rfl
    | 1, _ => rfl
    | 2, _ => rfl
    | 3, _ => rfl
    | 4, _ => rfl
    | 5, _ => rfl
  have HO := hide h
  have HON := hide hon
  have HX := hide hx
  have HB1 := hide hB1
  have hws : w.heap.size < W1.heap.size := by rw [← hW1]; simp
  clear h hon hx h1 hB1
  rw [hvo]
  go_enter Try.func23, Try.ntmps23
  go_upto_region 1 with fail
  go_cut [7] (fun s7 wc => s7 = .bool false ∧ wc = W1.drew)
  case first =>
    go_region_law (fail)
    all_goals
      go_wp2
      go_meet
      exact ⟨rfl, rfl⟩
  case rest =>
  obtain ⟨rfl, rfl⟩ := hcut
  go_upto_region 6 with fail
  go_cut [8] (fun s8 wc => ∃ p, s8 = .pointer (some ⟨p, 0, none⟩) ∧ Hid (NwC w wc p ⟨x.k, x.n, x.s, m, fl + m⟩) ∧ wc.cell? ⟨w.heap.size, 0, none⟩ = some (.int .i64 x.k) ∧ wc.cell? ⟨w.heap.size, 1, none⟩ = some (.int .i64 x.n) ∧ wc.cell? ⟨w.heap.size, 2, none⟩ = some (.string x.s))
  case first =>
    go_region_law (fail)
    all_goals
      go_wp2
      go_meet
      refine ⟨_, rfl, unhide HNW _ (Below.refl _ _).drew.drew _ (by first | (rw [IntKind.wrap_i64]; omega) | omega), ?_, ?_, ?_⟩
      all_goals go_simp
  case rest =>
  obtain ⟨p, rfl, HNC, u0, u1, u2⟩ := hcut
  clear v0 v1 v2 c0 c1 c2 c3 c4 f1 f2 f3 f4 hlk HNW
  have hO2 := (unhide HO).later (unhide HNC).bel
  obtain ⟨c0, c1, c2, c3, c4, f1, f2, f3, f4⟩ := hO2.facts
  obtain ⟨o, hrun, hmap⟩ := put_new (W := wc.drew) p (hO2.later (Below.refl _ _).drew).map (unhide HX)
  simp only [Vk.v] at hrun
  have HPU := hide ((unhide HO).pushing (unhide HON) (unhide HX) (y := ⟨x.k, x.n, x.s, m, fl + m⟩) rfl (by omega) (wc := wc.drew) ⟨(unhide HNC).bel.drew, (unhide HNC).box.drew, (unhide HNC).new⟩ hmap)
  clear hO2 hmap
  go_upto_region 7 with fail
  go_cut [] (fun wd => wd = putO wc.drew mb o)
  case first =>
    go_region_law (refine step_upd_run rfl 50 _ _ _ rfl (.map (some mb)) (.agg #[.int .i64 x.k, .int .i64 x.n, .string x.s]) (.pointer (some ⟨p, 0, none⟩)) (by simp [Act.eval, Act.put]) (by simp [Act.eval, Act.put]) (by simp [Act.eval, Act.put]) hrun ?_)
    all_goals
      go_wp2
      go_meet
      rfl
  case rest =>
  subst hcut
  clear c0 c1 c2 c3 c4 f1 f2 f3 f4 u0 u1 u2 hrun
  go_upto_region 9 with (go_at_call 37; refine (unhide HPU).mono ?_; rintro _ w3 ⟨rfl, S', E', L', HP⟩; replace HP := hide HP)
  obtain ⟨d0, _, _, _, d4, _, _, _, _⟩ := (unhide HP).o.facts
  obtain ⟨lb, cap, hS'⟩ := (unhide HP).o.qu.slice (by omega)
  rw [hS'] at d4
  obtain ⟨bb, hbb⟩ : ∃ bb, decide ((k : Int) < ((n + 1 : Nat) : Int)) = bb := ⟨_, rfl⟩
  go_cut [76] (fun s76 wd => s76 = .bool bb ∧ Hid (PuS w b k tot fl mb S n E p ⟨x.k, x.n, x.s, m, fl + m⟩ wd S' E' L'))
  case first =>
    have k0 := cell_regrown d0
    have k4 := cell_regrown d4
    refine wp_region_quiet_below (by kernel_rfl) (by kernel_rfl) ?_
    repeat (go_big_quiet_step (fail))
    refine wpQuiet_nil ?_
    intro w5 hw5
    have hB5 : Below w3.heap.size w3 w5 := by obtain ⟨q, rfl⟩ := hw5; exact below_regrown _ _ _
    have HP5 := hide ((unhide HP).later hB5)
    clear hw5 hB5
    go_wp2
    go_meet
    exact ⟨by rw [← hbb]; simp, HP5⟩
  case rest =>
  obtain ⟨rfl, HP5⟩ := hcut
  have HMA : Hid (k < n + 1 → Calls Try.prog 38 #[.pointer (some ⟨b, 0, none⟩)] wc fun e w2 => e = .returned (.tuple #[]) ∧ CnA w b k tot fl mb S n E ⟨x.k, x.n, x.s, m, fl + m⟩ w2) := fun hlt => (unhide HP5).many hlt (by omega)
  cases bb with
  | true =>
    have hlt : k < n + 1 := by simp at hbb; omega
    have HM := hide (unhide HMA hlt)
    clear hbb hlt HMA
    go_wp2_with (go_at_call 38; refine (unhide HM).mono ?_; rintro _ w6 ⟨rfl, HC⟩; replace HC := hide HC)
    go_end0
    exact ⟨rfl, unhide HC⟩
  | false =>
    have hge : n + 1 ≤ k := by simp at hbb; omega
    have HC := hide ((unhide HP5).few hge)
    clear hbb hge HMA
    go_wp2
    go_end0
    exact ⟨rfl, unhide HC⟩
end Go.Proofs.Ytgmfbjehdcdioaa

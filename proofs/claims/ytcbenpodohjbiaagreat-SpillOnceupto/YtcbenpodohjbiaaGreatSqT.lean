import Derived.Test.YtcbenpodohjbiaaGreatSqS
import Derived.ArgAppend
set_option linter.unusedSimpArgs false
set_option linter.unusedVariables false
set_option maxRecDepth 100000
namespace Go.Proofs.YtcbenpodohjbiaaGreat
open Go.RowKit Go.Sort

/-- Numbers of runs in a list that may begin within its block. -/
structure OwnT (w : World) (v : Value) (ids : List Nat) (g off cap : Nat) : Prop where
  e : v = .slice (some ⟨g, off, none⟩) ids.length cap
  tg : Tg 3 w g
  le : ids.length ≤ cap
  is : ∀ j, j < cap → (w.cell? ⟨g, off + j, none⟩).isSome = true
  fr : ∀ j, w.frozen? ⟨g, j, none⟩ = false
  c : ∀ (i x : Nat), ids[i]? = some x → w.cell? ⟨g, off + i, none⟩ = some (.int .i64 (x : Nat))
theorem OwnT.ky {F : Nat → Prop} {w w' : World} {v : Value} {ids : List Nat} {g off cap : Nat} (h : OwnT w v ids g off cap) (hk : Ky F w w') (hn : ¬ F g) : OwnT w' v ids g off cap := by
  have eb := hk.block g h.tg.lt hn
  have ec : ∀ o, w'.cell? ⟨g, o, none⟩ = w.cell? ⟨g, o, none⟩ := fun o => World.cell?_of_block (w := w) (a := ⟨g, o, none⟩) eb
  exact ⟨h.e, hk.tg h.tg hn, h.le, fun j hj => by rw [ec]; exact h.is j hj, fun j => (hk.frozen h.tg.lt hn).trans (h.fr j), fun i x hx => by rw [ec]; exact h.c i x hx⟩
theorem OwnN.t {w : World} {v : Value} {ids : List Nat} (h : OwnN w v ids) (hn : 0 < ids.length) : ∃ g cap, OwnT w v ids g 0 cap := by
  have h' := h
  unfold OwnN at h'
  rcases h'.2 with ⟨_, h0⟩ | ⟨g, cap, cur, e, _, hh, h2, h3, h4, h5⟩
  · omega
  · refine ⟨g, cap, e, ⟨cur, _, hh⟩, h2, fun j hj => ?_, fun j => ?_, fun i x hx => ?_⟩
    · rw [Nat.zero_add]
      simp only [World.cell?, hh]
      rw [Nat.mul_one] at h4
      simp [h4, hj]
    · subst e; exact World.ownsRow.frozenAt h' j
    · subst e
      have hi := (List.getElem?_eq_some_iff.1 hx).1
      rw [Nat.zero_add, World.ownsRow.cellAt h' i (by rw [Nat.mul_one]; exact hi), List.getElem?_map, hx]
      rfl
theorem OwnT.ids {F : Nat → Prop} {w : World} {v : Value} {ids : List Nat} {g off cap : Nat} (h : OwnT w v ids g off cap) (hF : ¬ F g) (c : Nat) : IdsK w F (some ⟨g, off, none⟩) (ids.take c) :=
  .inr ⟨g, off, rfl, h.tg, hF, fun i x hx => h.c i x (by
    rw [List.getElem?_take] at hx
    split at hx
    · exact hx
    · cases hx)⟩
theorem OwnT.drop {w : World} {v : Value} {ids : List Nat} {g off cap c : Nat} (h : OwnT w v ids g off cap) (hc : c ≤ ids.length) : OwnT w (.slice (some ⟨g, off + c, none⟩) (ids.length - c) (cap - c)) (ids.drop c) g (off + c) (cap - c) :=
  ⟨by rw [List.length_drop], h.tg, by rw [List.length_drop]; have := h.le; omega, fun j hj => by rw [Nat.add_assoc]; exact h.is (c + j) (by omega), h.fr, fun i x hx => by rw [List.getElem?_drop] at hx; rw [Nat.add_assoc]; exact h.c (c + i) x hx⟩
theorem slice_to59 (g off n cap c : Nat) (W : World) (hc : c ≤ cap) : (Instr.slice 59 (.slice (some ⟨g, off, none⟩) n cap) none (some (.int .i64 (c : Int))) none).run Tryz.prog W = .ok (.slice (some ⟨g, off, none⟩) c cap) W := by
  obtain ⟨i, hi, _, hz, _⟩ := info_parts info3n
  have h1 : ¬ (cap : Int) < (c : Int) := by omega
  have h2 : (c : Int) ≤ (cap : Int) := by omega
  simp [Instr.slice, run_underlying Tryz.underlying59, Instr.sliceBounds, Instr.sliceBound, asIntOf, sizeOf, typeInfo, hi, hz, h1, h2, Addr.add]
  try (intro h; omega)
theorem slice_from59 (g off n cap c : Nat) (W : World) (hc : c ≤ n) (hn : n ≤ cap) (hcap : c < cap) : (Instr.slice 59 (.slice (some ⟨g, off, none⟩) n cap) (some (.int .i64 (c : Int))) none none).run Tryz.prog W = .ok (.slice (some ⟨g, off + c, none⟩) (n - c) (cap - c)) W := by
  obtain ⟨i, hi, _, hz, _⟩ := info_parts info3n
  have h1 : ¬ (n : Int) < (c : Int) := by omega
  have h2 : (c : Int) ≤ (n : Int) := by omega
  have h3 : ¬ cap = c := by omega
  have h4 : (n : Int) ≤ (cap : Int) := by omega
  have h5 : ¬ (cap : Int) < (n : Int) := by omega
  have h6 : ¬ cap - c = 0 := by omega
  simp [Instr.slice, run_underlying Tryz.underlying59, Instr.sliceBounds, Instr.sliceBound, asIntOf, sizeOf, typeInfo, hi, hz, h1, h2, h3, h4, h5, h6, Addr.add]
  rw [if_pos hc]
  by_cases e : c = 0
  · subst e; simp
  · simp [e]
theorem cell_set_same {w : World} {g o : Nat} {v : Value} (h : (w.cell? ⟨g, o, none⟩).isSome = true) : (w.setCell ⟨g, o, none⟩ v).cell? ⟨g, o, none⟩ = some v := by
  obtain ⟨x, hx⟩ := Option.isSome_iff_exists.1 h
  simp [go_sem, hx]
theorem cell_set_off {w : World} {g o o' : Nat} {v : Value} (h : o' ≠ o) : (w.setCell ⟨g, o, none⟩ v).cell? ⟨g, o', none⟩ = w.cell? ⟨g, o', none⟩ := by
  have h' : ¬ o = o' := fun e => h e.symm
  simp [go_sem, h, h']
/-- append of one number. -/
theorem wpList_push_t {ops : Array Oper} {rest : List Oper} {o : Oper} {a : Act} {Q : Exit → Act → World → Prop} (w : World) (hgd : o.guard = none) (s x : Operand) (ho : o.op = .call { callee := .builtin .append, args := #[s, x], argTypes := #[59, 59] })
    (v : Value) (ids : List Nat) (g off cap : Nat) (hs : a.eval s = v) (hown : OwnT w v ids g off cap) (t i : Nat) (hx : a.eval x = .slice (some ⟨t, 0, none⟩) 1 1) (hy : w.cell? ⟨t, 0, none⟩ = some (.int .i64 (i : Nat))) (hl : ids.length ≤ 4194304)
    (h : ∀ v' w' g' off' cap', OwnT w' v' (ids ++ [i]) g' off' cap' → (g' = g ∨ w.heap.size ≤ g') → Ky (fun k => k = g) w w' → wpList Tryz.prog ops Q rest (a.put o.dst v') w') : wpList Tryz.prog ops Q (o :: rest) a w := by
  obtain ⟨i4, hi4, z40, z41, z42⟩ := info_parts info3n
  obtain ⟨e, tg, le, is, fr, c⟩ := hown
  subst e
  have hnews : ∀ j u, [Value.int .i64 (i : Nat)][j]? = some u → w.cell? ((⟨t, 0, none⟩ : Addr).add j) = some u := by
    intro j u hj
    match j, hj with
    | 0, hj =>
      simp at hj
      subst hj
      exact hy
    | j + 1, hj => simp at hj
  have hone : ∀ u ∈ [Value.int .i64 (i : Nat)], u.oneCell' = true := fun u hu => by simp at hu; subst hu; rfl
  by_cases hroom : ids.length + 1 ≤ cap
  · have hr := run_append_room_cells (P := Tryz.prog) w 59 o.type 3 i4 Tryz.underlying59 hi4 g off ids.length cap ⟨t, 0, none⟩ 1 1 [.int .i64 (i : Nat)] (by rw [z41]; rfl) hnews hone hroom (fun j hj => by
      have : j = 0 := by simpa using hj
      subst this
      rw [z41, Nat.mul_one, Nat.add_zero]
      exact is ids.length (by omega)) (fun j hj => fr _)
    rw [z41, Nat.mul_one] at hr
    simp only [World.setCells] at hr
    have hk : Ky (fun k => k = g) w (w.setCell ⟨g, off + ids.length, none⟩ (.int .i64 (i : Nat))) := (Ky.refl (fun k => k = g) w).set (F := fun k => k = g) rfl tg (by decide) _ _
    refine wpList_plain hgd fun K hK => ?_
    unfold Oper.wp execOp
    simp only [ho, resolve, invoke, builtin, Sem.run_bind, Sem.run_pure, Result.andThen_ok, List.map_toArray, List.map_cons, List.map_nil, hs, hx, hr]
    refine hK _ _ (h _ _ g off cap ⟨by rw [List.length_append]; rfl, tg.set _ _ _, by rw [List.length_append]; simpa using hroom, fun j hj => ?_, fun j => by rw [World.frozen?_setCell]; exact fr j, fun j x hx => ?_⟩ (.inl rfl) hk)
    · by_cases e : j = ids.length
      · subst e
        rw [cell_set_same (is _ hj)]; rfl
      · rw [cell_set_off (by omega)]; exact is j hj
    · rcases list_app (vs := ids) hx with q | ⟨q1, q2⟩
      · have := (List.getElem?_eq_some_iff.1 q).1
        rw [cell_set_off (by omega)]; exact c j x q
      · subst q1 q2
        exact cell_set_same (is _ (by omega))
  · obtain ⟨v', w', hr, h2, h3⟩ := run_append_arg_grows (P := Tryz.prog) w 59 o.type 3 i4 (.int .i64 0) 1 8 Tryz.underlying59 hi4 z40 z41 z42 rfl (by decide) ⟨g, off, none⟩ ids.length cap (ids.map fun i => Value.int .i64 (i : Nat)) (by simp) (fun j u hj => by
      rw [List.getElem?_map] at hj
      obtain ⟨x, hx, rfl⟩ := Option.map_eq_some_iff.1 hj
      rw [Addr.add_lit]
      exact c j x hx) ⟨t, 0, none⟩ 1 1 [.int .i64 (i : Nat)] rfl hnews (by omega) (by unfold maxLen; omega) (by omega)
    have hN : OwnN w' v' (ids ++ [i]) := by
      unfold OwnN
      rw [List.length_append, List.map_append]
      refine ⟨h2.1, h2.2.imp id ?_⟩
      rintro ⟨g', cap', cur', q1, q2, q3⟩
      exact ⟨g', cap', cur', q1, Nat.zero_le _, q3⟩
    obtain ⟨g', cap', hT⟩ := hN.t (by simp)
    have hg' : w.heap.size ≤ g' := by
      rcases h2.2 with ⟨_, q⟩ | ⟨g2, cap2, cur2, q1, q2, _⟩
      · omega
      · have := hT.e
        rw [q1] at this
        injection this with e1 _ _
        injection e1 with e1
        injection e1 with e1
        omega
    have hk : Ky (fun k => k = g) w w' := Ky.of_grown h3 (fun q e => by cases e) (fun q t e => by cases e)
    refine wpList_plain hgd fun K hK => ?_
    unfold Oper.wp execOp
    simp only [ho, resolve, invoke, builtin, Sem.run_bind, Sem.run_pure, Result.andThen_ok, List.map_toArray, List.map_cons, List.map_nil, hs, hx, hr]
    exact hK _ _ (h _ _ g' 0 cap' hT (.inr hg') hk)
end Go.Proofs.YtcbenpodohjbiaaGreat

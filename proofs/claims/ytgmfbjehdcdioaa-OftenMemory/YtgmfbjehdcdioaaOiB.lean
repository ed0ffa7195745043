import Derived.Test.YtgmfbjehdcdioaaOiA
set_option linter.unusedSimpArgs false
set_option linter.unusedVariables false
set_option maxRecDepth 100000
namespace Go.Proofs.Ytgmfbjehdcdioaa
open Go.RowKit Go.Sort

/-- add, under way: a copy of the map in mb. -/
structure Cp (ws wr : World) (mb ab rb : Nat) (La AC todo : List (Vk × Nat)) : Prop where
  rg : Rg wr mb rb La todo
  mp : MpN wr ab AC
  perm : (AC ++ todo).Perm La
  bel : Below ws.heap.size ws wr
  na : ws.heap.size ≤ ab
  nr : ws.heap.size ≤ rb
  nm : mb < ws.heap.size
theorem mp_ne_rg {w : World} {ab mb rb : Nat} {AC L todo : List (Vk × Nat)} (h : MpN w ab AC) (r : Rg w mb rb L todo) : ab ≠ rb := fun e => by
  obtain ⟨es, clk, hh, _⟩ := h
  obtain ⟨es', clk', seen, c0, _, _, q3, _⟩ := r
  rw [e, q3] at hh; cases hh
/-- A step of the range, with the key in a box of its own. -/
structure RgX (wr X : World) (mb rb : Nat) (L rest : List (Vk × Nat)) (q : Vk × Nat) (kb : Nat) : Prop where
  rg : Rg X mb rb L rest
  oth : ∀ z, z < wr.heap.size → z ≠ rb → X.heap[z]? = wr.heap[z]?
  os : X.os = wr.os
  tape : X.tape = wr.tape
  output : X.output = wr.output
  size : wr.heap.size ≤ X.heap.size
  k0 : X.cell? ⟨kb, 0, none⟩ = some (.int .i64 q.1.k)
  k1 : X.cell? ⟨kb, 1, none⟩ = some (.int .i64 q.1.n)
  k2 : X.cell? ⟨kb, 2, none⟩ = some (.string q.1.s)
  kn : wr.heap.size ≤ kb
/-- next and entry, as runs. -/
theorem range_step {wr : World} {mb rb : Nat} {L todo : List (Vk × Nat)} (h : Rg wr mb rb L todo) :
    (todo = [] ∧ (Instr.next (.pointer (some ⟨rb, 0, none⟩)) false 0).run Try.prog wr = .ok (.tuple #[.bool false]) wr) ∨
    ∃ pre q post W8, todo = pre ++ q :: post ∧ (Instr.next (.pointer (some ⟨rb, 0, none⟩)) false 0).run Try.prog wr = .ok (.tuple #[.bool true, .agg #[.int .i64 q.1.k, .int .i64 q.1.n, .string q.1.s], .int .i64 (q.2 : Nat)]) W8 ∧ (Instr.entry (.pointer (some ⟨rb, 0, none⟩))).run Try.prog W8 = .ok (.tuple #[.agg #[.int .i64 q.1.k, .int .i64 q.1.n, .string q.1.s], .int .i64 (q.2 : Nat)]) W8 ∧
      RgX wr (W8.alloc (.cells #[.int .i64 q.1.k, .int .i64 q.1.n, .string q.1.s] 34)) mb rb L (pre ++ post) q W8.heap.size := by
  have hlt := h.lt
  rcases next_run h 0 with hd | ⟨pre, q, post, w1, o', e, hw1, hnx, hE⟩
  · exact .inl hd
  · right
    have hent := entry_run hE
    obtain ⟨W8, hW8⟩ : ∃ W8, putO w1 rb o' = W8 := ⟨_, rfl⟩
    have hsz : W8.heap.size = wr.heap.size := by rw [← hW8]; rcases hw1 with rfl | rfl <;> simp [putO]
    have hoth : ∀ z, z ≠ rb → W8.heap[z]? = wr.heap[z]? := fun z hz => by rw [← hW8, putO_ne hz]; rcases hw1 with rfl | rfl <;> rfl
    have hos : W8.os = wr.os ∧ W8.tape = wr.tape ∧ W8.output = wr.output := by rw [← hW8]; rcases hw1 with rfl | rfl <;> exact ⟨rfl, rfl, rfl⟩
    rw [hW8] at hnx hE hent
    have hb9 : Below W8.heap.size W8 (W8.alloc (.cells #[.int .i64 q.1.k, .int .i64 q.1.n, .string q.1.s] 34)) := below_alloc (Below.refl _ _) _
    refine ⟨pre, q, post, W8, e, hnx, hent, hE.rg.later hb9, fun z hz hn => ?_, hos.1, hos.2.1, hos.2.2, ?_, by simp [go_sem], by simp [go_sem], by simp [go_sem], by omega⟩
    · rw [hb9.block z (by omega)]; exact hoth z hn
    · have := hb9.size; omega
theorem RgX.later {wr X Y : World} {mb rb kb : Nat} {L rest : List (Vk × Nat)} {q : Vk × Nat} (h : RgX wr X mb rb L rest q kb) (hb : Below X.heap.size X Y) : RgX wr Y mb rb L rest q kb :=
  ⟨h.rg.later hb, fun z hz hn => by rw [hb.block z (Nat.lt_of_lt_of_le hz h.size)]; exact h.oth z hz hn, hb.os.trans h.os, hb.tape.trans h.tape, hb.output.trans h.output, Nat.le_trans h.size hb.size, cell_later hb h.k0, cell_later hb h.k1, cell_later hb h.k2, h.kn⟩

/-- One entry more is copied. -/
theorem Cp.step {ws wr X : World} {mb ab rb kb : Nat} {La AC todo pre post : List (Vk × Nat)} {q : Vk × Nat} (h : Cp ws wr mb ab rb La AC todo) (hLa : (La.map (·.1)).Nodup) (e : todo = pre ++ q :: post) (hX : RgX wr X mb rb La (pre ++ post) q kb) :
    ∃ o, (Instr.mapUpdate 25 (.map (some ab)) (.agg #[.int .i64 q.1.k, .int .i64 q.1.n, .string q.1.s]) (.int .i64 (q.2 : Nat))).run Try.prog X = .ok () (putO X ab o) ∧ Cp ws (putO X ab o) mb ab rb La (AC ++ [q]) (pre ++ post) := by
  have hne := mp_ne_rg h.mp h.rg
  have hab := h.mp.lt
  have hmX : MpN X ab AC := h.mp.keep (hX.oth ab hab hne)
  have hp : ((AC ++ [q]) ++ (pre ++ post)).Perm La := by
    refine List.Perm.trans ?_ h.perm
    rw [e, List.append_assoc]
    refine List.Perm.append_left AC ?_
    exact (List.perm_middle (a := q) (l₁ := pre) (l₂ := post)).symm
  have hnk : atK AC q.1 = none := by
    refine atK_no fun z hz eq => ?_
    have hnd := (hp.map (·.1)).nodup_iff.2 hLa
    rw [List.map_append, List.map_append, List.nodup_append, List.nodup_append] at hnd
    exact hnd.1.2.2 z.1 (List.mem_map.2 ⟨z, hz, rfl⟩) q.1 (by simp) eq
  obtain ⟨o, hr, hm⟩ := putN map25 q.2 hmX hnk
  have hbX : Below ws.heap.size ws X := ⟨hX.os.trans h.bel.os, hX.tape.trans h.bel.tape, hX.output.trans h.bel.output, Nat.le_trans h.bel.size hX.size, fun z hz => by
    rw [hX.oth z (Nat.lt_of_lt_of_le hz h.bel.size) (by have := h.nr; omega)]; exact h.bel.block z hz⟩
  refine ⟨o, hr, hX.rg.keep (putO_ne (by have := h.nm; have := h.na; omega)) (putO_ne (Ne.symm hne)), hm, hp, below_putO hbX h.na, h.na, h.nr, h.nm⟩

theorem valN_perm {L M : List (Vk × Nat)} (hp : L.Perm M) (hn : (M.map (·.1)).Nodup) (v : Vk) : valN L v = valN M v := by
  have hnL := (hp.map (·.1)).nodup_iff.2 hn
  cases hx : atK M v with
  | none => rw [valN_none hx]; exact valN_out fun q hq => atK_none hx q (hp.mem_iff.1 hq)
  | some jp =>
    obtain ⟨j, n⟩ := jp
    rw [valN_some hx]
    exact valN_mem hnL (q := (v, n)) (hp.mem_iff.2 (List.mem_of_getElem? (atK_some hx)))
theorem valN_cons {L : List (Vk × Nat)} {q : Vk × Nat} (hn : ((q :: L).map (·.1)).Nodup) (v : Vk) : valN (q :: L) v = (if q.1 = v then q.2 else 0) + valN L v := by
  by_cases e : q.1 = v
  · rw [if_pos e, ← e, valN_mem hn List.mem_cons_self]
    rw [List.map_cons, List.nodup_cons] at hn
    have : valN L q.1 = 0 := valN_out fun z hz eq => hn.1 (List.mem_map.2 ⟨z, hz, eq⟩)
    omega
  · rw [if_neg e, Nat.zero_add]
    have hn' := hn
    rw [List.map_cons, List.nodup_cons] at hn'
    cases hx : atK L v with
    | none =>
      rw [valN_none hx]
      refine valN_out fun z hz => ?_
      rcases List.mem_cons.1 hz with rfl | hz
      · exact e
      · exact atK_none hx z hz
    | some jp =>
      obtain ⟨j, n⟩ := jp
      rw [valN_some hx]
      exact valN_mem hn (q := (v, n)) (List.mem_cons_of_mem _ (List.mem_of_getElem? (atK_some hx)))

/-- add is counted in. -/
structure Mg2 (ws wr : World) (nb ab rb : Nat) (L0 AL Lc todo : List (Vk × Nat)) : Prop where
  rg : Rg wr ab rb AL todo
  mp : MpN wr nb Lc
  nod : (Lc.map (·.1)).Nodup
  tnod : (todo.map (·.1)).Nodup
  val : ∀ v, valN Lc v + valN todo v = valN L0 v + valN AL v
  ky : Ky (fun z => z = nb) ws wr
  nr : ws.heap.size ≤ rb
  ne : nb ≠ ab
theorem Mg2.step {ws wr X : World} {nb ab rb kb : Nat} {L0 AL Lc todo pre post : List (Vk × Nat)} {q : Vk × Nat} (h : Mg2 ws wr nb ab rb L0 AL Lc todo) (e : todo = pre ++ q :: post) (hX : RgX wr X ab rb AL (pre ++ post) q kb) (hs : ∀ v, valN L0 v + valN AL v ≤ 4611686018427387904) :
    valN Lc q.1 + q.2 ≤ 4611686018427387904 ∧ nb ≠ kb ∧ MpN X nb Lc ∧ ∀ Y, MpN Y nb (setL Lc q.1 (valN Lc q.1 + q.2)) → Ky (fun z => z = nb) X Y → Mg2 ws Y nb ab rb L0 AL (setL Lc q.1 (valN Lc q.1 + q.2)) (pre ++ post) := by
  have hne := mp_ne_rg h.mp h.rg
  have hnb := h.mp.lt
  have hp : todo.Perm (q :: (pre ++ post)) := by rw [e]; exact List.perm_middle
  have hn2 : ((q :: (pre ++ post)).map (·.1)).Nodup := (hp.map (·.1)).nodup_iff.1 h.tnod
  have hval : ∀ v, valN todo v = (if q.1 = v then q.2 else 0) + valN (pre ++ post) v := fun v => by rw [valN_perm hp hn2, valN_cons hn2]
  have hkX : Ky (fun z => z = nb) ws X := ⟨hX.os.trans h.ky.os, hX.tape.trans h.ky.tape, hX.output.trans h.ky.output, Nat.le_trans h.ky.size hX.size, fun z hz hn => by
    rw [hX.oth z (Nat.lt_of_lt_of_le hz h.ky.size) (by have := h.nr; omega)]; exact h.ky.block z hz hn⟩
  refine ⟨?_, by have := hX.kn; omega, h.mp.keep (hX.oth nb hnb hne), fun Y hY hk => ?_⟩
  · have h1 := h.val q.1
    rw [hval, if_pos rfl] at h1
    have := hs q.1
    omega
  · have hnY : ∀ z, z < X.heap.size → z ≠ nb → Y.heap[z]? = X.heap[z]? := fun z hz hn => hk.block z hz hn
    have hl := hX.rg.lt
    refine ⟨hX.rg.keep (hnY ab hl.1 (Ne.symm h.ne)) (hnY rb hl.2 (Ne.symm hne)), hY, setL_keys h.nod _ _, ?_, fun v => ?_, hkX.trans hk fun i hi => .inl hi, h.nr, h.ne⟩
    · rw [List.map_cons, List.nodup_cons] at hn2; exact hn2.2
    · rw [setL_val h.nod]
      have h1 := h.val v
      rw [hval] at h1
      by_cases e1 : q.1 = v
      · subst e1; rw [if_pos rfl] at h1 ⊢; omega
      · rw [if_neg e1] at h1 ⊢; omega
theorem Mg2.done {ws wr : World} {nb ab rb : Nat} {L0 AL Lc xs ys : List (Vk × Nat)} (h : Mg2 ws wr nb ab rb L0 AL Lc []) (h0 : CtsOf L0 xs) (h1 : ∀ v, valN AL v = cnt ys v) : CtsOf Lc (xs ++ ys) := by
  refine ⟨h.nod, fun v => ?_⟩
  have h2 := h.val v
  rw [cnt_app, ← h0.2, ← h1]
  have : valN [] v = 0 := rfl
  omega
end Go.Proofs.Ytgmfbjehdcdioaa

import Derived.Test.YtmjeiepljlepbacGreatRmB
set_option linter.unusedSimpArgs false
set_option linter.unusedVariables false
set_option maxRecDepth 100000
namespace Go.Proofs.YtmjeiepljlepbacGreat
open Go.RowKit Go.Sort

set_option maxHeartbeats 1000000 in
set_option maxRecDepth 100000 in
/-- tallyref.Size (47). -/
theorem rsize_any (e : Ex) (hf : e.fin) (a : Option Addr) (c : Nat) (w : World) (ha : Ex.all w a e.args) :
    Calls Tryz.prog 26 #[e.val a c] w fun r w' => r = .returned (.tuple #[.int .i64 (sizeB e).1, .int .i64 (sizeB e).2]) ∧ Below w.heap.size w w' := by
  have HM := hide (fun o => rmeas_all e.size e (Nat.le_refl _) hf 0 1 a c (w.alloc o) (by omega) (by omega) (by omega) (by omega) (Ex.all_later _ ha (below_alloc (Below.refl _ _) o)))
  have HS := hide (rm_size e)
  obtain ⟨q, hq⟩ : ∃ q, rmE e 0 1 = q := ⟨_, rfl⟩
  rw [hq] at HM HS
  obtain ⟨qn, qt, ok⟩ := q
  generalize sizeB e = S at *
  rw [Ex.val_open] at HM ⊢
  clear ha hq
  cases ok with
  | false =>
    have HE : Hid (S = (401, 41)) := by have := unhide HS; show _ = _; simp at this; exact this.symm
    clear HS
    go_enter Tryz.func26, Tryz.ntmps26
    go_wp2_with (go_at_call 63; refine (unhide HM _).mono ?_; rintro r w1 ⟨rfl, hb1⟩)
    refine bodyPost_ret (v := .tuple #[.int .i64 401, .int .i64 41]) (by simp [results, Tryz.results26, go_sem]) rfl ⟨by rw [unhide HE], below_one hb1⟩
  | true =>
    by_cases h1 : 400 < qn
    · have HE : Hid (S = (401, 41)) := by have := unhide HS; show _ = _; simp [h1] at this; exact this.symm
      clear HS
      go_enter Tryz.func26, Tryz.ntmps26
      go_wp2_with (go_at_call 63; refine (unhide HM _).mono ?_; rintro r w1 ⟨rfl, hb1⟩)
      refine bodyPost_ret (v := .tuple #[.int .i64 401, .int .i64 41]) (by simp [results, Tryz.results26, go_sem]) rfl ⟨by rw [unhide HE], below_one hb1⟩
    · by_cases h2 : 40 < qt
      · have HE : Hid (S = (401, 41)) := by have := unhide HS; show _ = _; simp [h1, h2] at this; exact this.symm
        clear HS
        go_enter Tryz.func26, Tryz.ntmps26
        go_wp2_with (go_at_call 63; refine (unhide HM _).mono ?_; rintro r w1 ⟨rfl, hb1⟩)
        refine bodyPost_ret (v := .tuple #[.int .i64 401, .int .i64 41]) (by simp [results, Tryz.results26, go_sem]) rfl ⟨by rw [unhide HE], below_one hb1⟩
      · have HE : Hid (S = (qn, qt)) := by have := unhide HS; show _ = _; simp [h1, h2] at this; exact this.symm
        clear HS
        go_enter Tryz.func26, Tryz.ntmps26
        go_wp2_with (go_at_call 63; refine (unhide HM _).mono ?_; rintro r w1 ⟨rfl, hb1⟩)
        refine bodyPost_ret (v := .tuple #[.int .i64 qn, .int .i64 qt]) (by simp [results, Tryz.results26, go_sem]) rfl ⟨by rw [unhide HE], below_one hb1⟩
set_option maxHeartbeats 400000 in
set_option maxRecDepth 100000 in
/-- tallyref.BuiltExpr (29). -/
theorem rbuilt_any (e : Ex) (hf : e.fin) (a : Option Addr) (c : Nat) (w : World) (ha : Ex.all w a e.args) :
    Calls Tryz.prog 69 #[e.val a c] w fun r w' => r = .returned (.bool (builtE e)) ∧ Below w.heap.size w w' := by
  have HS := hide (fun o => rsize_any e hf a c (w.alloc o) (Ex.all_later _ ha (below_alloc (Below.refl _ _) o)))
  have HB : Hid (builtE e = decide ((sizeB e).1 ≤ 400)) := (size_built e).symm
  generalize sizeB e = S at *
  obtain ⟨n, h⟩ := S
  generalize builtE e = b at *
  rw [Ex.val_open] at HS ⊢
  clear ha
  simp only at HS HB
  go_enter Tryz.func69, Tryz.ntmps69
  go_wp2_with (go_at_call 26; refine (unhide HS _).mono ?_; rintro r w1 ⟨rfl, hb1⟩)
  go_ret
  exact ⟨by rw [unhide HB]; rfl, below_one hb1⟩
end Go.Proofs.YtmjeiepljlepbacGreat
set_option linter.unusedSimpArgs false
set_option linter.unusedVariables false
set_option maxRecDepth 100000
namespace Go.Proofs.YtmjeiepljlepbacGreat
open Go.RowKit Go.Sort

theorem op_append_nodesR {o : Oper} {a : Act} {w : World} {K : Act → World → Prop} {Q : Exit → Act → World → Prop} (s x : Operand) (ho : o.op = .call { callee := .builtin .append, args := #[s, x], argTypes := #[57, 57] })
    (base base2 : Nat) (v : Value) (L1 L2 : List Nd) (hs : a.eval s = v) (hown : OwnE w base v L1) (g2 c2 : Nat) (hx : a.eval x = .slice (some ⟨g2, 0, none⟩) L2.length c2) (hown2 : OwnE w base2 (.slice (some ⟨g2, 0, none⟩) L2.length c2) L2)
    (hl : L1.length + L2.length ≤ 1000000000) (hbase : base ≤ w.heap.size)
    (h : ∀ v' w', OwnE w' base v' (L1 ++ L2) → w.grownBy w' v.ownBlock → (v'.ownBlock = v.ownBlock ∨ v'.ownBlock = some w.heap.size) → K (a.put o.dst v') w') : o.wp Tryz.prog a w K Q := by
  obtain ⟨i4, hi4, z40, z41, z42⟩ := info_parts info26
  obtain ⟨v', w', hr, h2, h3, h4, h5⟩ := run_append_own_at (P := Tryz.prog) w base 57 o.type 59 i4 (.agg #[.int .i64 0, .int .i64 0, .int .i64 0, .int .i64 0, .string ⟨#[]⟩, .slice none 0 0]) 6 72 Tryz.underlying57 hi4 z40 z41 z42 rfl (by decide) v L1.length (L1.flatMap sh) hown ⟨g2, 0, none⟩ L2.length c2 (L2.flatMap sh) (sh_len L2) (World.ownsRow.cells hown2 rfl) (sh_all L2) (by unfold maxLen; omega) (by omega) hbase
  unfold Oper.wp execOp
  simp only [ho, resolve, invoke, builtin, Sem.run_bind, Sem.run_pure, Result.andThen_ok, List.map_toArray, List.map_cons, List.map_nil, hs, hx, hr]
  refine h v' w' ?_ h3 h5
  unfold OwnE
  rw [List.length_append, List.flatMap_append]
  exact h2
def ob (v : Value) : List Nat := match v.ownBlock with | some g => [g] | none => []
theorem own_in {w : World} {base : Nat} {v : Value} {L : List Nd} (h : OwnE w base v L) : ∀ g, v.ownBlock = some g → base ≤ g ∧ g < w.heap.size := by
  intro g hg
  rcases h.2 with ⟨rfl, _⟩ | ⟨g', cap, cur, rfl, hb, hh, _⟩
  · cases hg
  · simp [Value.ownBlock] at hg
    subst hg
    exact ⟨hb, (Array.getElem?_eq_some_iff.1 hh).1⟩
/-- While a list is made by appending: what is in it. -/
def NInv (lo : Nat) (v : Value) (L : List Nd) (w : World) : Prop := OwnE w lo v L ∧ ∀ q ∈ L, ∀ W', Kept lo (ob v) w W' → Ex.all W' q.2.1 q.1.args
theorem NInv.nil (lo : Nat) (w : World) : NInv lo (.slice none 0 0) [] w := ⟨World.ownsRow_nil _ _ _ _, by simp⟩
theorem NInv.later {lo : Nat} {v : Value} {L : List Nd} {w w' : World} (h : NInv lo v L w) (hb : Below w.heap.size w w') : NInv lo v L w' :=
  ⟨h.1.later hb, fun q hq W' hK => h.2 q hq W' ((Kept.of_below lo (ob v) hb).trans hK)⟩
theorem NInv.step {lo B o : Nat} {v v' : Value} {L : List Nd} {q : Nd} {wr W1 w3 w4 w5 : World} {u : Value} (h : NInv lo v L wr) (hb1 : Below wr.heap.size wr W1) (hb3 : Below W1.heap.size W1 w3) (hq : ExK W1.heap.size w3 q.2.1 q.1.args) (ob4 : Obj)
    (hO : OwnE w4 lo v' (L ++ [q])) (hg : (w3.alloc ob4).grownBy w4 v.ownBlock) (hv : v'.ownBlock = v.ownBlock ∨ v'.ownBlock = some (w3.alloc ob4).heap.size) (hB : B < lo) (hlo : lo ≤ wr.heap.size) (e5 : w5 = w4.setCell ⟨B, o, none⟩ u) : NInv lo v' (L ++ [q]) w5 := by
  have hin := own_in h.1
  have s1 := hb1.size
  have s3 := hb3.size
  have s4 : w3.heap.size < (w3.alloc ob4).heap.size := by simp [go_sem]
  have s5 := hg.size
  have hset : ∀ b, b ≠ B → w5.heap[b]? = w4.heap[b]? := fun b hb => by rw [e5]; exact Below.heap_setCell _ _ _ _ hb
  have hsz : w5.heap.size = w4.heap.size := by rw [e5]; simp [World.setCell]
  have hal : ∀ b, b < w3.heap.size → (w3.alloc ob4).heap[b]? = w3.heap[b]? := fun b hb => (below_alloc (Below.refl _ w3) ob4).block b hb
  refine ⟨?_, fun x hx W' hK => ?_⟩
  · rw [e5]
    have hne : ∀ g, v'.ownBlock = some g → lo ≤ g := fun g hg' => (own_in hO g hg').1
    obtain ⟨h1, h2⟩ := hO
    refine ⟨h1, ?_⟩
    rcases h2 with h2 | ⟨g, cap, cur, q1, q2, q3, q4⟩
    · exact .inl h2
    · refine .inr ⟨g, cap, cur, q1, q2, ?_, q4⟩
      rw [Below.heap_setCell _ _ _ _ (show g ≠ B by omega)]
      exact q3
  · have hobv : ∀ b, b < w3.heap.size → b ∉ ob v → b ∉ ob v' := fun b hb hnb => by
      unfold ob at hnb ⊢
      rcases hv with hv | hv
      · rw [hv]; exact hnb
      · rw [hv]; simp; omega
    rcases List.mem_append.1 hx with hx | hx
    · refine h.2 x hx W' ⟨by have := hK.size; omega, fun b g1 g2 g3 => ?_⟩
      rw [hK.block b g1 (by omega) (hobv b (by omega) g3), hset b (by omega), hg.block b (by omega) (fun e => g3 (by unfold ob; rw [← e]; simp)), hal b (by omega), hb3.block b (by omega), hb1.block b g2]
    · rw [List.mem_singleton] at hx
      subst hx
      refine hq W' ⟨by have := hK.size; omega, fun b g1 g2 _ => ?_⟩
      have hnv : some b ≠ v.ownBlock := fun e => by have := (hin b e.symm).2; omega
      rw [hK.block b (by omega) (by omega) (hobv b g2 (by unfold ob; cases hvo : v.ownBlock with | none => simp | some g => simp; intro e; exact hnv (by rw [hvo, e]))), hset b (by omega), hg.block b (by omega) hnv, hal b g2]
theorem NInv.all {lo lo' : Nat} {v : Value} {L : List Nd} {w : World} (h : NInv lo v L w) (hl : lo' ≤ lo) : ∃ a c, v = .slice a L.length c ∧ ExK lo' w a (L.map (·.1)) := by
  obtain ⟨a, c, rfl⟩ := h.1.slice
  refine ⟨a, c, rfl, fun W' hK => ?_⟩
  by_cases hl0 : L = []
  · subst hl0; show Ex.all _ _ []; rw [Ex.all]; trivial
  · obtain ⟨g, rfl, hg1, hg2⟩ := h.1.some (by cases L with | nil => exact absurd rfl hl0 | cons _ _ => simp)
    exact ownE_kept h.1 hK (by omega) fun q hq => h.2 q hq W' (hK.more hl (by simp))
end Go.Proofs.YtmjeiepljlepbacGreat
set_option linter.unusedSimpArgs false
set_option linter.unusedVariables false
set_option maxRecDepth 100000
namespace Go.Proofs.YtmjeiepljlepbacGreat
open Go.RowKit Go.Sort

/-- The frame of Neat: the box of e, that of the answer, that of what is made. -/
structure Fr (b : Nat) (e : Ex) (a : Option Addr) (c : Nat) (v : Value) (w : World) : Prop where
  six : Six w b e a c
  box : Box6 w (b + 1) zeroE none 0
  o0 : w.cell? ⟨b + 2, 0, none⟩ = some (.int .i64 (needE e).op)
  o1 : w.cell? ⟨b + 2, 1, none⟩ = some (.int .i64 (needE e).n)
  o2 : w.cell? ⟨b + 2, 2, none⟩ = some (.int .i64 (needE e).v.k)
  o3 : w.cell? ⟨b + 2, 3, none⟩ = some (.int .i64 (needE e).v.n)
  o4 : w.cell? ⟨b + 2, 4, none⟩ = some (.string (needE e).v.s)
  o5 : w.cell? ⟨b + 2, 5, none⟩ = some v
  of : w.frozen? ⟨b + 2, 5, none⟩ = false
theorem Fr.below {b lo : Nat} {e : Ex} {a : Option Addr} {c : Nat} {v : Value} {w w' : World} (h : Fr b e a c v w) (hb : Below lo w w') (hl : b + 3 ≤ lo) : Fr b e a c v w' := by
  have hc : ∀ g o, g < lo → w'.cell? ⟨g, o, none⟩ = w.cell? ⟨g, o, none⟩ := fun g o hg => hb.cell (p := ⟨g, o, none⟩) hg
  have hz : ∀ g o, g < lo → w'.frozen? ⟨g, o, none⟩ = w.frozen? ⟨g, o, none⟩ := fun g o hg => hb.frozen (p := ⟨g, o, none⟩) hg
  obtain ⟨⟨s0, s1, s2, s3, s4, s5⟩, ⟨⟨t0, t1, t2, t3, t4, t5⟩, u0, u1, u2, u3, u4, u5⟩, o0, o1, o2, o3, o4, o5, of⟩ := h
  refine ⟨⟨?_, ?_, ?_, ?_, ?_, ?_⟩, ⟨⟨?_, ?_, ?_, ?_, ?_, ?_⟩, ?_, ?_, ?_, ?_, ?_, ?_⟩, ?_, ?_, ?_, ?_, ?_, ?_, ?_⟩ <;> first | (rw [hc _ _ (by omega)]; assumption) | (rw [hz _ _ (by omega)]; assumption)
theorem cell_set_ne (w : World) (g b o o' : Nat) (u : Value) (h : (⟨g, o, none⟩ : Addr) ≠ ⟨b, o', none⟩) : (w.setCell ⟨b, o', none⟩ u).cell? ⟨g, o, none⟩ = w.cell? ⟨g, o, none⟩ := by
  by_cases hg : g = b
  · subst hg
    have ho : o ≠ o' := fun e => h (by rw [e])
    simp [go_sem, ho, Ne.symm ho]
  · exact World.cell?_of_block (Below.heap_setCell _ _ _ _ hg)
theorem frozen_set (w : World) (p q : Addr) (u : Value) : (w.setCell p u).frozen? q = w.frozen? q := by simp [go_sem]
theorem Fr.put {b : Nat} {e : Ex} {a : Option Addr} {c : Nat} {v : Value} {w : World} (h : Fr b e a c v w) (u : Value) : Fr b e a c u (w.setCell ⟨b + 2, 5, none⟩ u) := by
  obtain ⟨⟨s0, s1, s2, s3, s4, s5⟩, ⟨⟨t0, t1, t2, t3, t4, t5⟩, u0, u1, u2, u3, u4, u5⟩, o0, o1, o2, o3, o4, o5, of⟩ := h
  refine ⟨⟨?_, ?_, ?_, ?_, ?_, ?_⟩, ⟨⟨?_, ?_, ?_, ?_, ?_, ?_⟩, ?_, ?_, ?_, ?_, ?_, ?_⟩, ?_, ?_, ?_, ?_, ?_, ?_, ?_⟩
  all_goals first
    | (rw [cell_set_ne _ _ _ _ _ _ (by simp)]; assumption)
    | (rw [frozen_set]; assumption)
    | (simp [go_sem, o5])
theorem own_oneR (w : World) (base : Nat) (hb : base ≤ w.heap.size) (q : Nd) : OwnE (w.alloc (.cells #[.int .i64 q.1.op, .int .i64 q.1.n, .int .i64 q.1.v.k, .int .i64 q.1.v.n, .string q.1.v.s, .slice q.2.1 q.1.args.length q.2.2] 59)) base (.slice (some ⟨w.heap.size, 0, none⟩) 1 1) [q] :=
  ⟨rfl, .inr ⟨w.heap.size, 1, _, rfl, hb, Go.Deep.blk_alloc_new _ _, Nat.le_refl _, by unfold maxLen; omega, rfl, rfl⟩⟩
end Go.Proofs.YtmjeiepljlepbacGreat

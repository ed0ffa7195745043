import Derived.Test.YtcpndojkfngioaaGreatRmB
import Derived.Test.YtcpndojkfngioaaGreatPcS
set_option linter.unusedSimpArgs false
set_option linter.unusedVariables false
set_option maxRecDepth 100000
namespace Go.Proofs.YtcpndojkfngioaaGreat
open Go.RowKit Go.Sort

set_option maxHeartbeats 1000000 in
set_option maxRecDepth 100000 in
/-- tallyref.Size (47). -/
theorem rsize_any (e : Ex) (hf : e.fin) (a : Option Addr) (c : Nat) (w : World) (ha : Ex.all w a e.args) :
    Calls Tryz.prog 48 #[e.val a c] w fun r w' => r = .returned (.tuple #[.int .i64 (sizeB e).1, .int .i64 (sizeB e).2]) ∧ Below w.heap.size w w' := by
  have HM := hide (fun o => rmeas_all e.size e (Nat.le_refl _) hf 0 1 a c (w.alloc o) (by omega) (by omega) (by omega) (by omega) (Ex.all_later _ ha (below_alloc (Below.refl _ _) o)))
  have HS := hide (rm_size e)
  obtain ⟨q, hq⟩ : ∃ q, rmE e 0 1 = q := ⟨_, rfl⟩
  rw [hq] at HM HS
  obtain ⟨qn, qt, ok⟩ := q
  generalize sizeB e = S at *
  rw [Ex.val_open] at HM ⊢
  clear ha hq
  cases ok with
  | false =>
    have HE : Hid (S = (401, 41)) := by have := unhide HS; show _ = _; simp at this; exact this.symm
    clear HS
    go_enter Tryz.func48, Tryz.ntmps48
    go_wp2_with (go_at_call 77; refine (unhide HM _).mono ?_; rintro r w1 ⟨rfl, hb1⟩)
    refine bodyPost_ret (v := .tuple #[.int .i64 401, .int .i64 41]) (by simp [results, Tryz.results48, go_sem]) rfl ⟨by rw [unhide HE], below_one hb1⟩
  | true =>
    by_cases h1 : 400 < qn
    · have HE : Hid (S = (401, 41)) := by have := unhide HS; show _ = _; simp [h1] at this; exact this.symm
      clear HS
      go_enter Tryz.func48, Tryz.ntmps48
      go_wp2_with (go_at_call 77; refine (unhide HM _).mono ?_; rintro r w1 ⟨rfl, hb1⟩)
      refine bodyPost_ret (v := .tuple #[.int .i64 401, .int .i64 41]) (by simp [results, Tryz.results48, go_sem]) rfl ⟨by rw [unhide HE], below_one hb1⟩
    · by_cases h2 : 40 < qt
      · have HE : Hid (S = (401, 41)) := by have := unhide HS; show _ = _; simp [h1, h2] at this; exact this.symm
        clear HS
        go_enter Tryz.func48, Tryz.ntmps48
        go_wp2_with (go_at_call 77; refine (unhide HM _).mono ?_; rintro r w1 ⟨rfl, hb1⟩)
        refine bodyPost_ret (v := .tuple #[.int .i64 401, .int .i64 41]) (by simp [results, Tryz.results48, go_sem]) rfl ⟨by rw [unhide HE], below_one hb1⟩
      · have HE : Hid (S = (qn, qt)) := by have := unhide HS; show _ = _; simp [h1, h2] at this; exact this.symm
        clear HS
        go_enter Tryz.func48, Tryz.ntmps48
        go_wp2_with (go_at_call 77; refine (unhide HM _).mono ?_; rintro r w1 ⟨rfl, hb1⟩)
        refine bodyPost_ret (v := .tuple #[.int .i64 qn, .int .i64 qt]) (by simp [results, Tryz.results48, go_sem]) rfl ⟨by rw [unhide HE], below_one hb1⟩
set_option maxHeartbeats 400000 in
set_option maxRecDepth 100000 in
/-- tallyref.BuiltExpr (29). -/
theorem rbuilt_any (e : Ex) (hf : e.fin) (a : Option Addr) (c : Nat) (w : World) (ha : Ex.all w a e.args) :
    Calls Tryz.prog 78 #[e.val a c] w fun r w' => r = .returned (.bool (builtE e)) ∧ Below w.heap.size w w' := by
  have HS := hide (fun o => rsize_any e hf a c (w.alloc o) (Ex.all_later _ ha (below_alloc (Below.refl _ _) o)))
  have HB : Hid (builtE e = decide ((sizeB e).1 ≤ 400)) := (size_built e).symm
  generalize sizeB e = S at *
  obtain ⟨n, h⟩ := S
  generalize builtE e = b at *
  rw [Ex.val_open] at HS ⊢
  clear ha
  simp only at HS HB
  go_enter Tryz.func78, Tryz.ntmps78
  go_wp2_with (go_at_call 48; refine (unhide HS _).mono ?_; rintro r w1 ⟨rfl, hb1⟩)
  go_ret
  exact ⟨by rw [unhide HB]; rfl, below_one hb1⟩
end Go.Proofs.YtcpndojkfngioaaGreat
set_option linter.unusedSimpArgs false
set_option linter.unusedVariables false
set_option maxRecDepth 100000
namespace Go.Proofs.YtcpndojkfngioaaGreat
open Go.RowKit Go.Sort

theorem op_append_nodesR {o : Oper} {a : Act} {w : World} {K : Act → World → Prop} {Q : Exit → Act → World → Prop} (s x : Operand) (ho : o.op = .call { callee := .builtin .append, args := #[s, x], argTypes := #[22, 22] })
    (base base2 : Nat) (v : Value) (L1 L2 : List Nd) (hs : a.eval s = v) (hown : OwnE w base v L1) (g2 c2 : Nat) (hx : a.eval x = .slice (some ⟨g2, 0, none⟩) L2.length c2) (hown2 : OwnE w base2 (.slice (some ⟨g2, 0, none⟩) L2.length c2) L2)
    (hl : L1.length + L2.length ≤ 1000000000) (hbase : base ≤ w.heap.size)
    (h : ∀ v' w', OwnE w' base v' (L1 ++ L2) → w.grownBy w' v.ownBlock → (v'.ownBlock = v.ownBlock ∨ v'.ownBlock = some w.heap.size) → K (a.put o.dst v') w') : o.wp Tryz.prog a w K Q := by
  obtain ⟨i4, hi4, z40, z41, z42⟩ := info_parts info26
  obtain ⟨v', w', hr, h2, h3, h4, h5⟩ := run_append_own_at (P := Tryz.prog) w base 22 o.type 74 i4 (.agg #[.int .i64 0, .int .i64 0, .int .i64 0, .int .i64 0, .string ⟨#[]⟩, .slice none 0 0]) 6 72 Tryz.underlying22 hi4 z40 z41 z42 rfl (by decide) v L1.length (L1.flatMap sh) hown ⟨g2, 0, none⟩ L2.length c2 (L2.flatMap sh) (sh_len L2) (World.ownsRow.cells hown2 rfl) (sh_all L2) (by unfold maxLen; omega) (by omega) hbase
  unfold Oper.wp execOp
  simp only [ho, resolve, invoke, builtin, Sem.run_bind, Sem.run_pure, Result.andThen_ok, List.map_toArray, List.map_cons, List.map_nil, hs, hx, hr]
  refine h v' w' ?_ h3 h5
  unfold OwnE
  rw [List.length_append, List.flatMap_append]
  exact h2
def ob (v : Value) : List Nat := match v.ownBlock with | some g => [g] | none => []
theorem own_in {w : World} {base : Nat} {v : Value} {L : List Nd} (h : OwnE w base v L) : ∀ g, v.ownBlock = some g → base ≤ g ∧ g < w.heap.size := by
  intro g hg
  rcases h.2 with ⟨rfl, _⟩ | ⟨g', cap, cur, rfl, hb, hh, _⟩
  · cases hg
  · simp [Value.ownBlock] at hg
    subst hg
    exact ⟨hb, (Array.getElem?_eq_some_iff.1 hh).1⟩
/-- While a list is made by appending: what is in it. -/
def NInv (lo : Nat) (v : Value) (L : List Nd) (w : World) : Prop := OwnE w lo v L ∧ ∀ q ∈ L, ∀ W', Kept lo (ob v) w W' → Ex.all W' q.2.1 q.1.args
theorem NInv.nil (lo : Nat) (w : World) : NInv lo (.slice none 0 0) [] w := ⟨World.ownsRow_nil _ _ _ _, by simp⟩
theorem NInv.later {lo : Nat} {v : Value} {L : List Nd} {w w' : World} (h : NInv lo v L w) (hb : Below w.heap.size w w') : NInv lo v L w' :=
  ⟨h.1.later hb, fun q hq W' hK => h.2 q hq W' ((Kept.of_below lo (ob v) hb).trans hK)⟩
theorem NInv.step {lo B o : Nat} {v v' : Value} {L : List Nd} {q : Nd} {wr W1 w3 w4 w5 : World} {u : Value} (h : NInv lo v L wr) (hb1 : Below wr.heap.size wr W1) (hb3 : Below W1.heap.size W1 w3) (hq : ExK W1.heap.size w3 q.2.1 q.1.args) (ob4 : Obj)
    (hO : OwnE w4 lo v' (L ++ [q])) (hg : (w3.alloc ob4).grownBy w4 v.ownBlock) (hv : v'.ownBlock = v.ownBlock ∨ v'.ownBlock = some (w3.alloc ob4).heap.size) (hB : B < lo) (hlo : lo ≤ wr.heap.size) (e5 : w5 = w4.setCell ⟨B, o, none⟩ u) : NInv lo v' (L ++ [q]) w5 := by
  have hin := own_in h.1
  have s1 := hb1.size
  have s3 := hb3.size
  have s4 : w3.heap.size < (w3.alloc ob4).heap.size := by simp [go_sem]
  have s5 := hg.size
  have hset : ∀ b, b ≠ B → w5.heap[b]? = w4.heap[b]? := fun b hb => by rw [e5]; exact Below.heap_setCell _ _ _ _ hb
  have hsz : w5.heap.size = w4.heap.size := by rw [e5]; simp [World.setCell]
  have hal : ∀ b, b < w3.heap.size → (w3.alloc ob4).heap[b]? = w3.heap[b]? := fun b hb => (below_alloc (Below.refl _ w3) ob4).block b hb
  refine ⟨?_, fun x hx W' hK => ?_⟩
  · rw [e5]
    have hne : ∀ g, v'.ownBlock = some g → lo ≤ g := fun g hg' => (own_in hO g hg').1
    obtain ⟨h1, h2⟩ := hO
    refine ⟨h1, ?_⟩
    rcases h2 with h2 | ⟨g, cap, cur, q1, q2, q3, q4⟩
    · exact .inl h2
    · refine .inr ⟨g, cap, cur, q1, q2, ?_, q4⟩
      rw [Below.heap_setCell _ _ _ _ (show g ≠ B by omega)]
      exact q3
  · have hobv : ∀ b, b < w3.heap.size → b ∉ ob v → b ∉ ob v' := fun b hb hnb => by
      unfold ob at hnb ⊢
      rcases hv with hv | hv
      · rw [hv]; exact hnb
      · rw [hv]; simp; omega
    rcases List.mem_append.1 hx with hx | hx
    · refine h.2 x hx W' ⟨by have := hK.size; omega, fun b g1 g2 g3 => ?_⟩
      rw [hK.block b g1 (by omega) (hobv b (by omega) g3), hset b (by omega), hg.block b (by omega) (fun e => g3 (by unfold ob; rw [← e]; simp)), hal b (by omega), hb3.block b (by omega), hb1.block b g2]
    · rw [List.mem_singleton] at hx
      subst hx
      refine hq W' ⟨by have := hK.size; omega, fun b g1 g2 _ => ?_⟩
      have hnv : some b ≠ v.ownBlock := fun e => by have := (hin b e.symm).2; omega
      rw [hK.block b (by omega) (by omega) (hobv b g2 (by unfold ob; cases hvo : v.ownBlock with | none => simp | some g => simp; intro e; exact hnv (by rw [hvo, e]))), hset b (by omega), hg.block b (by omega) hnv, hal b g2]
theorem NInv.all {lo lo' : Nat} {v : Value} {L : List Nd} {w : World} (h : NInv lo v L w) (hl : lo' ≤ lo) : ∃ a c, v = .slice a L.length c ∧ ExK lo' w a (L.map (·.1)) := by
  obtain ⟨a, c, rfl⟩ := h.1.slice
  refine ⟨a, c, rfl, fun W' hK => ?_⟩
  by_cases hl0 : L = []
  · subst hl0; show Ex.all _ _ []; rw [Ex.all]; trivial
  · obtain ⟨g, rfl, hg1, hg2⟩ := h.1.some (by cases L with | nil => exact absurd rfl hl0 | cons _ _ => simp)
    exact ownE_kept h.1 hK (by omega) fun q hq => h.2 q hq W' (hK.more hl (by simp))
end Go.Proofs.YtcpndojkfngioaaGreat
set_option linter.unusedSimpArgs false
set_option linter.unusedVariables false
set_option maxRecDepth 100000
namespace Go.Proofs.YtcpndojkfngioaaGreat
open Go.RowKit Go.Sort

/-- The frame of Neat: the box of e, that of the answer, that of what is made. -/
structure Fr (b : Nat) (e : Ex) (a : Option Addr) (c : Nat) (v : Value) (w : World) : Prop where
  six : Six w b e a c
  box : Box6 w (b + 1) zeroE none 0
  o0 : w.cell? ⟨b + 2, 0, none⟩ = some (.int .i64 (needE e).op)
  o1 : w.cell? ⟨b + 2, 1, none⟩ = some (.int .i64 (needE e).n)
  o2 : w.cell? ⟨b + 2, 2, none⟩ = some (.int .i64 (needE e).v.k)
  o3 : w.cell? ⟨b + 2, 3, none⟩ = some (.int .i64 (needE e).v.n)
  o4 : w.cell? ⟨b + 2, 4, none⟩ = some (.string (needE e).v.s)
  o5 : w.cell? ⟨b + 2, 5, none⟩ = some v
  of : w.frozen? ⟨b + 2, 5, none⟩ = false
theorem Fr.below {b lo : Nat} {e : Ex} {a : Option Addr} {c : Nat} {v : Value} {w w' : World} (h : Fr b e a c v w) (hb : Below lo w w') (hl : b + 3 ≤ lo) : Fr b e a c v w' := by
  have hc : ∀ g o, g < lo → w'.cell? ⟨g, o, none⟩ = w.cell? ⟨g, o, none⟩ := fun g o hg => hb.cell (p := ⟨g, o, none⟩) hg
  have hz : ∀ g o, g < lo → w'.frozen? ⟨g, o, none⟩ = w.frozen? ⟨g, o, none⟩ := fun g o hg => hb.frozen (p := ⟨g, o, none⟩) hg
  obtain ⟨⟨s0, s1, s2, s3, s4, s5⟩, ⟨⟨t0, t1, t2, t3, t4, t5⟩, u0, u1, u2, u3, u4, u5⟩, o0, o1, o2, o3, o4, o5, of⟩ := h
  refine ⟨⟨?_, ?_, ?_, ?_, ?_, ?_⟩, ⟨⟨?_, ?_, ?_, ?_, ?_, ?_⟩, ?_, ?_, ?_, ?_, ?_, ?_⟩, ?_, ?_, ?_, ?_, ?_, ?_, ?_⟩ <;> first | (rw [hc _ _ (by omega)]; assumption) | (rw [hz _ _ (by omega)]; assumption)
theorem cell_set_ne (w : World) (g b o o' : Nat) (u : Value) (h : (⟨g, o, none⟩ : Addr) ≠ ⟨b, o', none⟩) : (w.setCell ⟨b, o', none⟩ u).cell? ⟨g, o, none⟩ = w.cell? ⟨g, o, none⟩ := by
  by_cases hg : g = b
  · subst hg
    have ho : o ≠ o' := fun e => h (by rw [e])
    simp [go_sem, ho, Ne.symm ho]
  · exact World.cell?_of_block (Below.heap_setCell _ _ _ _ hg)
theorem frozen_set (w : World) (p q : Addr) (u : Value) : (w.setCell p u).frozen? q = w.frozen? q := by simp [go_sem]
theorem Fr.put {b : Nat} {e : Ex} {a : Option Addr} {c : Nat} {v : Value} {w : World} (h : Fr b e a c v w) (u : Value) : Fr b e a c u (w.setCell ⟨b + 2, 5, none⟩ u) := by
  obtain ⟨⟨s0, s1, s2, s3, s4, s5⟩, ⟨⟨t0, t1, t2, t3, t4, t5⟩, u0, u1, u2, u3, u4, u5⟩, o0, o1, o2, o3, o4, o5, of⟩ := h
  refine ⟨⟨?_, ?_, ?_, ?_, ?_, ?_⟩, ⟨⟨?_, ?_, ?_, ?_, ?_, ?_⟩, ?_, ?_, ?_, ?_, ?_, ?_⟩, ?_, ?_, ?_, ?_, ?_, ?_, ?_⟩
  all_goals first
    | (rw [cell_set_ne _ _ _ _ _ _ (by simp)]; assumption)
    | (rw [frozen_set]; assumption)
    | (simp [go_sem, o5])
theorem own_oneR (w : World) (base : Nat) (hb : base ≤ w.heap.size) (q : Nd) : OwnE (w.alloc (.cells #[.int .i64 q.1.op, .int .i64 q.1.n, .int .i64 q.1.v.k, .int .i64 q.1.v.n, .string q.1.v.s, .slice q.2.1 q.1.args.length q.2.2] 74)) base (.slice (some ⟨w.heap.size, 0, none⟩) 1 1) [q] :=
  ⟨rfl, .inr ⟨w.heap.size, 1, _, rfl, hb, Go.Deep.blk_alloc_new _ _, Nat.le_refl _, by unfold maxLen; omega, rfl, rfl⟩⟩
end Go.Proofs.YtcpndojkfngioaaGreat
set_option linter.unusedSimpArgs false
set_option linter.unusedVariables false
set_option maxRecDepth 100000
namespace Go.Proofs.YtcpndojkfngioaaGreat
open Go.RowKit Go.Sort

theorem enter_with {P : Program} {code : Code} {Q : Exit → Act → World → Prop} {act : Act} {wa : World} (R : World → Prop) (h : R wa) (k : ∀ wx, Hid (R wx) → code.wp P Q act wx) : code.wp P Q act wa := k wa h
theorem need_n (e : Ex) : (needE e).n = if e.op == 1 then e.n else 0 := rfl
theorem need_v (e : Ex) : (needE e).v = if e.op == 2 then cleanV e.v else .null := rfl
theorem fr_none {b : Nat} {e : Ex} {a : Option Addr} {c : Nat} {wa : World} (h6 : Six wa b e a c) (hz : Box6 wa (b + 1) zeroE none 0) (ho : Box6 wa (b + 2) (.mk e.op 0 .null []) none 0) (h2 : (e.op == 2) = false) (h1 : (e.op == 1) = false) : Fr b e a c (.slice none 0 0) wa := by
  obtain ⟨⟨t0, t1, t2, t3, t4, t5⟩, u0, u1, u2, u3, u4, u5⟩ := ho
  refine ⟨h6, hz, t0, ?_, ?_, ?_, ?_, t5, u5⟩
  · rw [need_n, h1]; exact t1
  · rw [need_v, h2]; exact t2
  · rw [need_v, h2]; exact t3
  · rw [need_v, h2]; exact t4
theorem six_put {b : Nat} {e : Ex} {a : Option Addr} {c : Nat} {w : World} (h : Six w b e a c) (g o : Nat) (u : Value) (hg : b ≠ g) : Six (w.setCell ⟨g, o, none⟩ u) b e a c := by
  obtain ⟨s0, s1, s2, s3, s4, s5⟩ := h
  have hne : ∀ o', (⟨b, o', none⟩ : Addr) ≠ ⟨g, o, none⟩ := fun o' h => by injection h with h; exact hg h
  exact ⟨by rw [cell_set_ne _ _ _ _ _ _ (hne _)]; exact s0, by rw [cell_set_ne _ _ _ _ _ _ (hne _)]; exact s1, by rw [cell_set_ne _ _ _ _ _ _ (hne _)]; exact s2, by rw [cell_set_ne _ _ _ _ _ _ (hne _)]; exact s3, by rw [cell_set_ne _ _ _ _ _ _ (hne _)]; exact s4, by rw [cell_set_ne _ _ _ _ _ _ (hne _)]; exact s5⟩
theorem box_put {b : Nat} {e : Ex} {a : Option Addr} {c : Nat} {w : World} (h : Box6 w b e a c) (g o : Nat) (u : Value) (hg : b ≠ g) : Box6 (w.setCell ⟨g, o, none⟩ u) b e a c := by
  obtain ⟨h1, h2⟩ := h
  refine ⟨six_put h1 g o u hg, ?_⟩
  simp only [frozen_set]
  exact h2
theorem cell_set_at {w : World} {b o : Nat} {u v : Value} (h : w.cell? ⟨b, o, none⟩ = some v) : (w.setCell ⟨b, o, none⟩ u).cell? ⟨b, o, none⟩ = some u := by
  simp [go_sem, h]
theorem fr_col {b : Nat} {e : Ex} {a : Option Addr} {c : Nat} {wa : World} (h6 : Six wa b e a c) (hz : Box6 wa (b + 1) zeroE none 0) (ho : Box6 wa (b + 2) (.mk e.op 0 .null []) none 0) (h1 : (e.op == 1) = true) : Fr b e a c (.slice none 0 0) (wa.setCell ⟨b + 1 + 1, 1, none⟩ (.int .i64 e.n)) := by
  have h2 : (e.op == 2) = false := by rw [beq_iff_eq] at h1; rw [h1]; rfl
  obtain ⟨⟨t0, t1, t2, t3, t4, t5⟩, u0, u1, u2, u3, u4, u5⟩ := ho
  refine ⟨six_put h6 _ _ _ (by omega), box_put hz _ _ _ (by omega), ?_, ?_, ?_, ?_, ?_, ?_, ?_⟩
  · rw [cell_set_ne _ _ _ _ _ _ (by simp)]; exact t0
  · rw [need_n, h1]; exact cell_set_at t1
  · rw [cell_set_ne _ _ _ _ _ _ (by simp), need_v, h2]; exact t2
  · rw [cell_set_ne _ _ _ _ _ _ (by simp), need_v, h2]; exact t3
  · rw [cell_set_ne _ _ _ _ _ _ (by simp), need_v, h2]; exact t4
  · rw [cell_set_ne _ _ _ _ _ _ (by simp)]; exact t5
  · rw [frozen_set]; exact u5
theorem fr_const {b : Nat} {e : Ex} {a : Option Addr} {c : Nat} {wa : World} (h6 : Six wa b e a c) (hz : Box6 wa (b + 1) zeroE none 0) (ho : Box6 wa (b + 2) (.mk e.op 0 .null []) none 0) (h2 : (e.op == 2) = true) : Fr b e a c (.slice none 0 0) (((wa.setCell ⟨b + 1 + 1, 2, none⟩ (.int .i64 (cleanV e.v).k)).setCell ⟨b + 1 + 1, 3, none⟩ (.int .i64 (cleanV e.v).n)).setCell ⟨b + 1 + 1, 4, none⟩ (.string (cleanV e.v).s)) := by
  have h1 : (e.op == 1) = false := by rw [beq_iff_eq] at h2; rw [h2]; rfl
  obtain ⟨⟨t0, t1, t2, t3, t4, t5⟩, u0, u1, u2, u3, u4, u5⟩ := ho
  refine ⟨six_put (six_put (six_put h6 _ _ _ (by omega)) _ _ _ (by omega)) _ _ _ (by omega), box_put (box_put (box_put hz _ _ _ (by omega)) _ _ _ (by omega)) _ _ _ (by omega), ?_, ?_, ?_, ?_, ?_, ?_, ?_⟩
  · rw [cell_set_ne _ _ _ _ _ _ (by simp), cell_set_ne _ _ _ _ _ _ (by simp), cell_set_ne _ _ _ _ _ _ (by simp)]; exact t0
  · rw [cell_set_ne _ _ _ _ _ _ (by simp), cell_set_ne _ _ _ _ _ _ (by simp), cell_set_ne _ _ _ _ _ _ (by simp), need_n, h1]; exact t1
  · rw [cell_set_ne _ _ _ _ _ _ (by simp), cell_set_ne _ _ _ _ _ _ (by simp), need_v, h2]; exact cell_set_at t2
  · rw [cell_set_ne _ _ _ _ _ _ (by simp), need_v, h2]; exact cell_set_at (by rw [cell_set_ne _ _ _ _ _ _ (by simp)]; exact t3)
  · rw [need_v, h2]; exact cell_set_at (by rw [cell_set_ne _ _ _ _ _ _ (by simp), cell_set_ne _ _ _ _ _ _ (by simp)]; exact t4)
  · rw [cell_set_ne _ _ _ _ _ _ (by simp), cell_set_ne _ _ _ _ _ _ (by simp), cell_set_ne _ _ _ _ _ _ (by simp)]; exact t5
  · rw [frozen_set, frozen_set, frozen_set]; exact u5
/-- While Neat's parts are made. -/
def NLoop (e : Ex) (a : Option Addr) (c : Nat) (w : World) (i : Value) (wr : World) : Prop := ∃ (k : Nat) (v : Value) (L : List Nd), k ≤ e.args.length ∧ i = .int .i64 (k : Int) ∧ Hid (Fr w.heap.size e a c v wr) ∧ Hid (NInv (w.heap.size + 3) v L wr) ∧ Hid (L.map (·.1) = (e.args.take k).map copyE) ∧ Hid (Below w.heap.size w wr) ∧ w.heap.size + 3 ≤ wr.heap.size
/-- What Neat answers. -/
def NPost (e : Ex) (w : World) (r : Ending) (w' : World) : Prop := ∃ a2 c2, r = .returned ((copyE e).val a2 c2) ∧ ExK w.heap.size w' a2 (copyE e).args ∧ Below w.heap.size w w'
end Go.Proofs.YtcpndojkfngioaaGreat
set_option linter.unusedSimpArgs false
set_option linter.unusedVariables false
set_option maxRecDepth 100000
namespace Go.Proofs.YtcpndojkfngioaaGreat
open Go.RowKit Go.Sort

theorem ints_news {w : World} {ad : Addr} {L : List Int} (h : IntsAt w (some ad) L) : ∀ j u, (L.map (Value.int .i64))[j]? = some u → w.cell? (ad.add j) = some u := by
  intro j u hu
  rcases h with rfl | ⟨b, off, e, h⟩
  · simp at hu
  · injection e with e
    subst e
    rw [List.getElem?_map] at hu
    cases hx : L[j]? with
    | none => rw [hx] at hu; cases hu
    | some x =>
      rw [hx] at hu
      injection hu with hu
      subst hu
      have hc := h j x hx
      have ea : (⟨b, off, none⟩ : Addr).add j = ⟨b, off + j, none⟩ := by
        by_cases h : j = 0 <;> simp [Addr.add, h]
      rw [ea]
      exact hc
theorem op_append_ints {o : Oper} {a : Act} {w : World} {K : Act → World → Prop} {Q : Exit → Act → World → Prop} (s x : Operand) (ho : o.op = .call { callee := .builtin .append, args := #[s, x], argTypes := #[23, 23] })
    (base : Nat) (v : Value) (L1 L2 : List Int) (hs : a.eval s = v) (hown : OwnI w base v L1) (ad : Option Addr) (m c2 : Nat) (hx : a.eval x = .slice ad m c2) (hm : m = L2.length) (hsrc : IntsAt w ad L2) (hn : ad = none → c2 = 0)
    (hl : L1.length + L2.length ≤ 1000000) (hbase : base ≤ w.heap.size)
    (h : ∀ v' w', OwnI w' base v' (L1 ++ L2) → w.grownBy w' v.ownBlock → (v'.ownBlock = v.ownBlock ∨ v'.ownBlock = some w.heap.size) → K (a.put o.dst v') w') : o.wp Tryz.prog a w K Q := by
  obtain ⟨i4, hi4, z40, z41, z42⟩ := info_parts info3
  subst hm
  cases ad with
  | none =>
    have hL : L2 = [] := by
      rcases hsrc with h | ⟨b, off, h, _⟩
      · exact h
      · cases h
    subst hL
    rw [hn rfl] at hx
    have hrun := run_append_owned_none (P := Tryz.prog) (w := w) base 23 o.type 3 i4 1 Tryz.underlying23 hi4 v L1.length _ hown
    unfold Oper.wp
    simp [execOp, ho, resolve, invoke, builtin, hs, hx, hrun, Result.andThen]
    exact h v w (by rw [List.append_nil]; exact hown) ⟨rfl, rfl, rfl, Nat.le_refl _, fun _ _ _ => rfl⟩ (.inl rfl)
  | some ad =>
    obtain ⟨v', w', hr, h2, h3, h4, h5⟩ := run_append_own_at (P := Tryz.prog) w base 23 o.type 3 i4 (.int .i64 0) 1 8 Tryz.underlying23 hi4 z40 z41 z42 rfl (by decide) v L1.length (L1.map (.int .i64)) hown ad L2.length c2 (L2.map (.int .i64)) (by simp) (ints_news hsrc) (ints_one L2) (by unfold maxLen; omega) (by omega) hbase
    unfold Oper.wp execOp
    simp only [ho, resolve, invoke, builtin, Sem.run_bind, Sem.run_pure, Result.andThen_ok, List.map_toArray, List.map_cons, List.map_nil, hs, hx, hr]
    refine h v' w' ?_ h3 h5
    unfold OwnI
    rw [List.length_append, List.map_append]
    exact h2
theorem addr_zero (a : Addr) : a.add 0 = a := by simp [Addr.add]
theorem slice_hi (a : Option Addr) (n k c : Nat) (W : World) (hk : k ≤ c) : (Instr.slice 23 (.slice a n c) none (some (.int .i64 (k : Int))) none).run Tryz.prog W = .ok (.slice a k c) W := by
  obtain ⟨i, hi, _, hz, _⟩ := info_parts info3
  have hk2 : (k : Int) ≤ (c : Int) := by omega
  have ea : a.map (fun x : Addr => x.add 0) = a := by cases a with | none => rfl | some a => simp [addr_zero]
  simp [Instr.slice, run_underlying Tryz.underlying23, Instr.sliceBounds, Instr.sliceBound, asIntOf, sizeOf, typeInfo, hi, hz, hk2, ea]
  intro h
  omega
theorem slice_lo (a : Option Addr) (n k c : Nat) (W : World) (hk : k ≤ n) : (Instr.slice 23 (.slice a n c) (some (.int .i64 (k : Int))) none none).run Tryz.prog W = .ok (.slice (if c = k then a else a.map (·.add k)) (n - k) (c - k)) W := by
  obtain ⟨i, hi, _, hz, _⟩ := info_parts info3
  have hk2 : (k : Int) ≤ (n : Int) := by omega
  simp [Instr.slice, run_underlying Tryz.underlying23, Instr.sliceBounds, Instr.sliceBound, asIntOf, sizeOf, typeInfo, hi, hz, hk2]
  intro h
  omega
theorem OwnI.take {w : World} {base k cap : Nat} {a : Option Addr} {L : List Int} (h : OwnI w base (.slice a L.length cap) L) (hk : k ≤ L.length) : OwnI w base (.slice a k cap) (L.take k) := by
  have hlen : (L.take k).length = k := by rw [List.length_take]; omega
  unfold OwnI
  rw [hlen]
  rcases h.2 with ⟨e, h0⟩ | ⟨g, cap', cur, e, q1, q2, q3, q4, q5, q6⟩
  · injection e with e1 e2 e3
    subst e1 e3
    obtain rfl : k = 0 := by omega
    exact ⟨by simp, .inl ⟨rfl, rfl⟩⟩
  · injection e with e1 e2 e3
    subst e1 e3
    refine ⟨by rw [List.length_map, hlen]; omega, .inr ⟨g, cap, cur, rfl, q1, q2, by omega, q4, q5, ?_⟩⟩
    rw [List.map_take, ← q6, List.take_take]
    congr 1
    omega
theorem OwnI.cap_le {w : World} {base cap : Nat} {a : Option Addr} {L : List Int} (h : OwnI w base (.slice a L.length cap) L) : L.length ≤ cap := by
  rcases h.2 with ⟨e, h0⟩ | ⟨g, cap', cur, e, q1, q2, q3, _⟩
  · injection e with e1 e2 e3; omega
  · injection e with e1 e2 e3; omega
theorem OwnI.tail {w : World} {base k cap : Nat} {a : Option Addr} {L : List Int} (h : OwnI w base (.slice a L.length cap) L) (hk : k ≤ L.length) : IntsAt w (if cap = k then a else a.map (·.add k)) (L.drop k) := by
  have hcl := h.cap_le
  by_cases hc : cap = k
  · exact .inl (List.drop_eq_nil_of_le (by omega))
  · rw [if_neg hc]
    rcases h.ints with rfl | ⟨b, off, rfl, hx⟩
    · exact .inl (by simp)
    · refine .inr ⟨b, off + k, ?_, fun i x hi => ?_⟩
      · by_cases h0 : k = 0 <;> simp [Addr.add, h0]
      · rw [List.getElem?_drop] at hi
        have := hx _ _ hi
        rw [show off + k + i = off + (k + i) by omega]
        exact this
theorem OwnI.nil_cap {w : World} {base n cap : Nat} {a : Option Addr} {L : List Int} (h : OwnI w base (.slice a n cap) L) : a = none → cap = 0 := by
  intro ha
  rcases h.2 with ⟨e, h0⟩ | ⟨g, cap', cur, e, _⟩
  · injection e
  · injection e with e1; rw [ha] at e1; cases e1
/-- The numbers of S, rising, each once. -/
def Sd (L S : List Int) : Prop := L.Pairwise (· < ·) ∧ (∀ x, x ∈ L ↔ x ∈ S) ∧ L.length ≤ S.length
theorem Sd.nil : Sd [] [] := ⟨.nil, fun _ => Iff.rfl, Nat.le_refl _⟩
theorem Sd.skip {L S : List Int} {n : Int} {k : Nat} (h : Sd L S) (hk : L[k]? = some n) : Sd L (S ++ [n]) :=
  ⟨h.1, fun x => by
    rw [List.mem_append, List.mem_singleton, ← h.2.1 x]
    exact ⟨.inl, fun hx => hx.elim id fun e => by rw [e]; exact List.mem_of_getElem? hk⟩, by rw [List.length_append]; have := h.2.2; omega⟩
theorem Sd.ins {L S : List Int} {n : Int} {k : Nat} (h : Sd L S) (h1 : ∀ j y, j < k → L[j]? = some y → y < n) (h2 : ∀ y, L[k]? = some y → n < y) (hk : k ≤ L.length) : Sd (L.take k ++ (n :: L.drop k)) (S ++ [n]) := by
  obtain ⟨hp, hm, hl⟩ := h
  have hlow : ∀ y ∈ L.take k, y < n := fun y hy => by
    obtain ⟨j, hj⟩ := List.mem_iff_getElem?.1 hy
    rw [List.getElem?_take] at hj
    split at hj
    · exact h1 j y (by omega) hj
    · cases hj
  have hpd : (L.take k ++ L.drop k).Pairwise (· < ·) := by rw [List.take_append_drop]; exact hp
  rw [List.pairwise_append] at hpd
  obtain ⟨hp1, hp2, hp3⟩ := hpd
  have hhigh : ∀ y ∈ L.drop k, n < y := fun y hy => by
    cases hd : L.drop k with
    | nil => rw [hd] at hy; cases hy
    | cons z r =>
      have hz : L[k]? = some z := by
        have : (L.drop k)[0]? = some z := by rw [hd]; rfl
        rw [List.getElem?_drop] at this
        simpa using this
      have hnz := h2 z hz
      rw [hd] at hy hp2
      rcases List.mem_cons.1 hy with rfl | hy
      · exact hnz
      · have := (List.pairwise_cons.1 hp2).1 y hy
        omega
  refine ⟨?_, fun x => ?_, ?_⟩
  · rw [List.pairwise_append]
    refine ⟨hp1, List.pairwise_cons.2 ⟨hhigh, hp2⟩, fun a ha b hb => ?_⟩
    rcases List.mem_cons.1 hb with rfl | hb
    · exact hlow a ha
    · have := hlow a ha
      have := hhigh b hb
      omega
  · rw [List.mem_append, List.mem_cons, List.mem_append, List.mem_singleton, ← hm x]
    constructor
    · rintro (h | h | h)
      · exact .inl (List.mem_of_mem_take h)
      · exact .inr h
      · exact .inl (List.mem_of_mem_drop h)
    · rintro (h | h)
      · rw [← List.take_append_drop k L, List.mem_append] at h
        rcases h with h | h
        · exact .inl h
        · exact .inr (.inr h)
      · exact .inr (.inl h)
  · rw [List.length_append, List.length_cons, List.length_append, List.length_take, List.length_drop]
    simp
    omega
/-- The last of them is the greatest. -/
theorem Sd.last {L S : List Int} {m : Int} {n : Int} (h : Sd L S) (hl : L[L.length - 1]? = some m) : (S.all fun c => decide (c < n)) = decide (m < n) := by
  have hmem : m ∈ S := (h.2.1 m).1 (List.mem_of_getElem? hl)
  by_cases hm : m < n
  · rw [show decide (m < n) = true by simpa using hm, List.all_eq_true]
    intro c hc
    have hcl : c ∈ L := (h.2.1 c).2 hc
    obtain ⟨i, hi⟩ := List.mem_iff_getElem?.1 hcl
    have hil := (List.getElem?_eq_some_iff.1 hi).1
    have : c ≤ m := by
      by_cases e : i = L.length - 1
      · rw [e, hl] at hi; injection hi with hi; omega
      · have := List.pairwise_iff_getElem.1 h.1 i (L.length - 1) hil (by omega) (by omega)
        have e1 := (List.getElem?_eq_some_iff.1 hi).2
        have e2 := (List.getElem?_eq_some_iff.1 hl).2
        omega
    simp
    omega
  · rw [show decide (m < n) = false by simpa using hm]
    by_cases ha : (S.all fun c => decide (c < n)) = true
    · rw [List.all_eq_true] at ha
      have := ha m hmem
      simp at this
      omega
    · simpa using ha
theorem take_sizes {l : List Ex} {k : Nat} {x : Ex} (h : l[k]? = some x) : (colsL (l.take k)).length + x.size ≤ Ex.sizes l := by
  induction l generalizing k with
  | nil => simp at h
  | cons y l ih =>
    cases k with
    | zero =>
      simp at h
      subst h
      rw [List.take_zero, colsL, Ex.sizes]
      simp
    | succ k =>
      have := ih (by simpa using h : l[k]? = some x)
      have := cols_size y
      rw [List.take_succ_cons, colsL, List.length_append, Ex.sizes]
      omega
def F48 (o : Nat) : Value := .func (.func 119) #[] #[.pointer (some ⟨o, 0, none⟩), .pointer (some ⟨o + 1, 0, none⟩)]
/-- While the columns are gathered: the box of the list, the box of the walk, the list. -/
structure CF (o : Nat) (w0 : World) (S : List Int) (v : Value) (L : List Int) (w : World) : Prop where
  c0 : w.cell? ⟨o, 0, none⟩ = some v
  f0 : w.frozen? ⟨o, 0, none⟩ = false
  c1 : w.cell? ⟨o + 1, 0, none⟩ = some (F48 o)
  own : OwnI w (o + 2) v L
  sd : Sd L S
  bel : Below w0.heap.size w0 w
  lo : w0.heap.size ≤ o
  sz : o + 2 ≤ w.heap.size
theorem CF.later {o : Nat} {w0 : World} {S : List Int} {v : Value} {L : List Int} {w w' : World} (h : CF o w0 S v L w) (hb : Below w.heap.size w w') : CF o w0 S v L w' :=
  ⟨clater h.c0 hb, by rw [hb.frozen (p := ⟨o, 0, none⟩) (World.block_lt_of_cell? _ _ h.c0)]; exact h.f0, clater h.c1 hb, h.own.later hb, h.sd, below_step h.bel hb, h.lo, by have := h.sz; have := hb.size; omega⟩
theorem CF.put {o : Nat} {w0 : World} {S S5 : List Int} {v v5 : Value} {L L5 : List Int} {w w5 : World} (h : CF o w0 S v L w) (hb : Below (o + 2) w w5) (hO : OwnI w5 (o + 2) v5 L5) (hS : Sd L5 S5) : CF o w0 S5 v5 L5 (w5.setCell ⟨o, 0, none⟩ v5) := by
  have c0 : w5.cell? ⟨o, 0, none⟩ = some v := by rw [hb.cell (p := ⟨o, 0, none⟩) (by show o < o + 2; omega)]; exact h.c0
  refine ⟨cell_set_at c0, ?_, ?_, ?_, hS, ?_, h.lo, ?_⟩
  · rw [frozen_set, hb.frozen (p := ⟨o, 0, none⟩) (by show o < o + 2; omega)]; exact h.f0
  · rw [cell_set_ne _ _ _ _ _ _ (by simp), hb.cell (p := ⟨o + 1, 0, none⟩) (by show o + 1 < o + 2; omega)]; exact h.c1
  · obtain ⟨h1, h2⟩ := hO
    refine ⟨h1, ?_⟩
    rcases h2 with h2 | ⟨g, cap, cur, q1, q2, q3, q4⟩
    · exact .inl h2
    · refine .inr ⟨g, cap, cur, q1, q2, ?_, q4⟩
      rw [Below.heap_setCell _ _ _ _ (show g ≠ o by omega)]
      exact q3
  · exact (h.bel.trans (hb.mono (by have := h.lo; omega))).setCell (by show w0.heap.size ≤ o; exact h.lo) _
  · have := h.sz
    have := hb.size
    simp only [World.setCell]
    simp
    omega
end Go.Proofs.YtcpndojkfngioaaGreat
set_option linter.unusedSimpArgs false
set_option linter.unusedVariables false
set_option maxRecDepth 100000
namespace Go.Proofs.YtcpndojkfngioaaGreat
open Go.RowKit Go.Sort

/-- What the walk of ColumnsOf leaves. -/
def WPost (o : Nat) (w0 : World) (S : List Int) (e : Ex) (r : Ending) (w' : World) : Prop := r = .returned (.tuple #[]) ∧ ∃ v' L', CF o w0 (S ++ colsE e) v' L' w'
set_option maxHeartbeats 1000000 in
set_option maxRecDepth 100000 in
theorem walk_other (e : Ex) (hs : e.short) (h1 : (e.op == 1) = false) (o : Nat) (w0 : World) (S : List Int) (v : Value) (L : List Int) (a : Option Addr) (c : Nat) (w : World) (ha : Ex.all w0 a e.args) (hC : CF o w0 S v L w)
    (IH : ∀ (i : Nat) (x : Ex), e.args[i]? = some x → ∀ (a' : Option Addr) (c' : Nat) (S' : List Int) (v' : Value) (L' : List Int) (W : World), S'.length ≤ S.length + (colsL (e.args.take i)).length → Ex.all w0 a' x.args → CF o w0 S' v' L' W → Calls Tryz.prog 119 #[x.val a' c', .pointer (some ⟨o, 0, none⟩), .pointer (some ⟨o + 1, 0, none⟩)] W (WPost o w0 S' x)) :
    Calls Tryz.prog 119 #[e.val a c, .pointer (some ⟨o, 0, none⟩), .pointer (some ⟨o + 1, 0, none⟩)] w (WPost o w0 S e) := by
  have HIH := hide IH
  obtain ⟨hl, _⟩ := Ex.short_open hs
  have HA := hide ha
  have HCE : Hid (colsE e = colsL e.args) := by show _ = _; rw [colsE_eq, h1]; rfl
  have HB0 := hide (below_alloc (Below.refl _ w) (.cells #[.int .i64 e.op, .int .i64 e.n, .int .i64 e.v.k, .int .i64 e.v.n, .string e.v.s, .slice a e.args.length c] 74))
  have HC0 := hide (hC.later (unhide HB0))
  rw [Ex.val_open]
  clear IH ha hs hC
  go_enter Tryz.func119, Tryz.ntmps119
  go_upto_region 8 with fail
  refine enter_with (fun wx => CF o w0 S v L wx) (unhide HC0) ?_
  intro wx HW
  try rw [h1]
  clear HC0 HB0
  go_loopw [52] (fun i wr => ∃ (k : Nat) (v' : Value) (L' : List Int), k ≤ e.args.length ∧ i = .int .i64 (k : Int) ∧ Hid (CF o w0 (S ++ colsL (e.args.take k)) v' L' wr)) (fun i _ => e.args.length - (intOf i).toNat)
  case atStart => exact ⟨0, v, L, Nat.zero_le _, rfl, by rw [List.take_zero, colsL, List.append_nil]; exact unhide HW⟩
  case round =>
    obtain ⟨k, v', L', hk, rfl, HCr⟩ := hrel
    by_cases hlt : k < e.args.length
    · have h9 : (k : Int) < (e.args.length : Int) := by omega
      obtain ⟨x, hx⟩ : ∃ x, e.args[k]? = some x := ⟨_, List.getElem?_eq_getElem hlt⟩
      obtain ⟨vb, vo, ea, hat⟩ := Ex.all_get (unhide HA) hx
      obtain ⟨a', c', ⟨g0, g1, g2, g3, g4, g5⟩, hal⟩ := Ex.at_open hat
      have hbl := (unhide HCr).bel
      have d0 := clater g0 hbl
      have d1 := clater g1 hbl
      have d2 := clater g2 hbl
      have d3 := clater g3 hbl
      have d4 := clater g4 hbl
      have d5 := clater g5 hbl
      have HTK := hide (colsL_take hx)
      have HB1 := hide (below_alloc (Below.refl _ wr) (.cells #[.int .i64 x.op, .int .i64 x.n, .int .i64 x.v.k, .int .i64 x.v.n, .string x.v.s, .slice a' x.args.length c'] 74))
      have hC1 := (unhide HCr).later (unhide HB1)
      have cw := hC1.c1
      unfold F48 at cw
      have HX := hide (unhide HIH k x hx a' c' _ v' L' _ (by rw [List.length_append]; exact Nat.le_refl _) hal hC1)
      rw [Ex.val_open] at HX
      subst ea
      clear hx hat hal hbl g0 g1 g2 g3 g4 g5 hC1
      go_wp2_with (go_at_call 119; refine (unhide HX).mono ?_; rintro r w3 ⟨rfl, v3, L3, hC3⟩; have HC3 := hide hC3; clear hC3)
      refine ⟨⟨k + 1, v3, L3, by omega, by go_num, ?_⟩, by simp [intOf]; omega⟩
      rw [unhide HTK, ← List.append_assoc]
      exact unhide HC3
    · have h9 : ¬ (k : Int) < (e.args.length : Int) := by omega
      have HE : Hid (CF o w0 (S ++ colsE e) v' L' wr) := by
        have := unhide HCr
        rw [List.take_of_length_le (by omega)] at this
        show CF _ _ _ _ _ _
        rw [unhide HCE]
        exact this
      clear HCr
      go_wp2
      exact bodyPost_ret (v := .tuple #[]) (by simp [results, Tryz.results119, go_sem]) rfl ⟨rfl, v', L', unhide HE⟩
end Go.Proofs.YtcpndojkfngioaaGreat

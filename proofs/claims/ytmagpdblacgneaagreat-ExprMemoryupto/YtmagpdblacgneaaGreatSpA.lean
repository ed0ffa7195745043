import Derived.Test.YtmagpdblacgneaaGreatPaB
import Derived.Test.YtmagpdblacgneaaGreatPuA
import Derived.Laws.OwnMore
set_option linter.unusedSimpArgs false
set_option linter.unusedVariables false
set_option maxRecDepth 100000
namespace Go.Proofs.YtmagpdblacgneaaGreat
open Go.RowKit Go.Sort

theorem own_lessB {w : World} {base b e size n : Nat} {v : Value} {xs : List Value} (h : w.ownsRow base e size v n xs) (hb : b ≤ base) : w.ownsRow b e size v n xs := by
  refine ⟨h.1, ?_⟩
  rcases h.2 with h | ⟨g, cap, cur, h1, h2, h3⟩
  · exact .inl h
  · exact .inr ⟨g, cap, cur, h1, Nat.le_trans hb h2, h3⟩
theorem own_none {w : World} {base e size : Nat} : w.ownsRow base e size (.slice none 0 0) 0 [] := ⟨by simp, .inl ⟨rfl, rfl⟩⟩
theorem own_keep {w w1 : World} {base e size : Nat} {v : Value} {m : Nat} {xs : List Value} (h : w.ownsRow base e size v m xs) (hb : ∀ g, v.ownBlock = some g → w1.heap[g]? = w.heap[g]?) : w1.ownsRow base e size v m xs := by
  refine ⟨h.1, ?_⟩
  rcases h.2 with h2 | ⟨g, cap, cur, rfl, h3, h4, h5⟩
  · exact .inl h2
  · exact .inr ⟨g, cap, cur, rfl, h3, by rw [hb g rfl]; exact h4, h5⟩
theorem own_slice {w : World} {base e size n : Nat} {S : Value} {xs : List Value} (h : w.ownsRow base e size S n xs) : ∃ a c, S = .slice a n c := by
  rcases h.2 with ⟨e, h0⟩ | ⟨g, cap, cur, he, _⟩
  · rw [← h0] at e; exact ⟨_, _, e⟩
  · exact ⟨_, _, he⟩
/-- append to a list of the call's own: in place, or in new memory, and then nothing that was there has changed. -/
def AppOk (st t sz : Nat) : Prop := ∀ (w : World) (base n m c : Nat) (S : Value) (xs ys : List Value) (ty : TypeId) (a : Addr), w.ownsRow base t sz S n xs → ys.length = m * sz → (∀ j u, ys[j]? = some u → w.cell? (a.add j) = some u) → (∀ u ∈ ys, u.oneCell' = true) → n + m ≤ 4194304 → 0 < m → base ≤ w.heap.size →
    ∃ S' w', (Builtin.append_ #[st, st] ty #[S, .slice (some a) m c]).run Tryz.prog w = .ok S' w' ∧ w'.ownsRow base t sz S' (n + m) (xs ++ ys) ∧
      ((∃ g cap, S = .slice (some ⟨g, 0, none⟩) n cap ∧ S' = .slice (some ⟨g, 0, none⟩) (n + m) cap ∧ w.grownBy w' (some g)) ∨ ((∀ g, S'.ownBlock = some g → w.heap.size ≤ g) ∧ Below w.heap.size w w'))
theorem infoSp3 : (Tryz.prog.info? 3).map (fun i => (i.zero, i.size, i.bytes)) = some (some (.int .i64 0), 1, 8) := by kernel_rfl
theorem app_okI : AppOk 27 3 1 := by
  intro w base n m c S xs ys ty a ho hyl hc hone hl hm0 hb
  obtain ⟨i2, hi2, z20, z21, z22⟩ := info_parts infoSp3
  obtain ⟨S', w', hr, h2, h3, _, h5⟩ := run_append_own_at (P := Tryz.prog) (w := w) base 27 ty 3 i2 (.int .i64 0) 1 8 Tryz.underlying27 hi2 z20 z21 z22 rfl (by decide) S n xs ho a m c ys hyl hc hone (by unfold maxLen; omega) (by omega) hb
  refine ⟨S', w', hr, h2, ?_⟩
  have hnew : ∀ v'' w'', (Builtin.append_ #[27, 27] ty #[S, .slice (some a) m c]).run Tryz.prog w = .ok v'' w'' → v''.ownBlock = some w.heap.size → Below w.heap.size w w'' → (∀ g, S'.ownBlock = some g → w.heap.size ≤ g) ∧ Below w.heap.size w w' := fun v'' w'' hr2 hv hbl => by
    rw [hr] at hr2
    injection hr2 with e1 e2
    subst e1 e2
    exact ⟨fun g hg => by rw [hv] at hg; injection hg with hg; omega, hbl⟩
  rcases id ho.2 with ⟨e, h0⟩ | ⟨g, cap, cur, e, hbg, hg, hnc, hcm, hcs, htake⟩
  · right
    subst e
    have hr2 := run_append_nil (P := Tryz.prog) w 27 ty 3 i2 _ Tryz.underlying27 hi2 z20 a m c ys (by rw [z21]; exact hyl) hc hm0 (by omega) (by rw [z22]; omega)
    exact hnew _ _ hr2 rfl (below_alloc (Below.refl _ _).drew _)
  · by_cases hroom : n + m ≤ cap
    · left
      subst e
      obtain ⟨w2, hr2, _, hg2⟩ := run_append_fits (P := Tryz.prog) w base 27 ty 3 i2 1 Tryz.underlying27 hi2 z21 g n cap xs ho a m c ys hyl hc hone hroom
      rw [hr] at hr2
      injection hr2 with e1 e2
      subst e1 e2
      exact ⟨g, cap, rfl, rfl, hg2⟩
    · right
      subst e
      have holds := ho.cells (g := g) rfl
      have hr2 := run_append_grow (P := Tryz.prog) w 27 ty 3 i2 _ Tryz.underlying27 hi2 z20 ⟨g, 0, none⟩ n cap xs (by rw [z21]; exact ho.1) holds a m c ys (by rw [z21]; exact hyl) hc (by omega) (by omega) (growslice_fits (by omega) (by rw [z22]; omega))
      exact hnew _ _ hr2 rfl (below_alloc (Below.refl _ _).drew _)
theorem app_okE : AppOk 24 26 6 := by
  intro w base n m c S xs ys ty a ho hyl hc hone hl hm0 hb
  obtain ⟨i2, hi2, z20, z21, z22⟩ := info_parts info26
  obtain ⟨S', w', hr, h2, h3, _, h5⟩ := run_append_own_at (P := Tryz.prog) (w := w) base 24 ty 26 i2 (.agg #[.int .i64 0, .int .i64 0, .int .i64 0, .int .i64 0, .string ⟨#[]⟩, .slice none 0 0]) 6 72 Tryz.underlying24 hi2 z20 z21 z22 rfl (by decide) S n xs ho a m c ys hyl hc hone (by unfold maxLen; omega) (by omega) hb
  refine ⟨S', w', hr, h2, ?_⟩
  have hnew : ∀ v'' w'', (Builtin.append_ #[24, 24] ty #[S, .slice (some a) m c]).run Tryz.prog w = .ok v'' w'' → v''.ownBlock = some w.heap.size → Below w.heap.size w w'' → (∀ g, S'.ownBlock = some g → w.heap.size ≤ g) ∧ Below w.heap.size w w' := fun v'' w'' hr2 hv hbl => by
    rw [hr] at hr2
    injection hr2 with e1 e2
    subst e1 e2
    exact ⟨fun g hg => by rw [hv] at hg; injection hg with hg; omega, hbl⟩
  rcases id ho.2 with ⟨e, h0⟩ | ⟨g, cap, cur, e, hbg, hg, hnc, hcm, hcs, htake⟩
  · right
    subst e
    have hr2 := run_append_nil (P := Tryz.prog) w 24 ty 26 i2 _ Tryz.underlying24 hi2 z20 a m c ys (by rw [z21]; exact hyl) hc hm0 (by omega) (by rw [z22]; omega)
    exact hnew _ _ hr2 rfl (below_alloc (Below.refl _ _).drew _)
  · by_cases hroom : n + m ≤ cap
    · left
      subst e
      obtain ⟨w2, hr2, _, hg2⟩ := run_append_fits (P := Tryz.prog) w base 24 ty 26 i2 6 Tryz.underlying24 hi2 z21 g n cap xs ho a m c ys hyl hc hone hroom
      rw [hr] at hr2
      injection hr2 with e1 e2
      subst e1 e2
      exact ⟨g, cap, rfl, rfl, hg2⟩
    · right
      subst e
      have holds := ho.cells (g := g) rfl
      have hr2 := run_append_grow (P := Tryz.prog) w 24 ty 26 i2 _ Tryz.underlying24 hi2 z20 ⟨g, 0, none⟩ n cap xs (by rw [z21]; exact ho.1) holds a m c ys (by rw [z21]; exact hyl) hc (by omega) (by omega) (growslice_fits (by omega) (by rw [z22]; omega))
      exact hnew _ _ hr2 rfl (below_alloc (Below.refl _ _).drew _)

theorem own_pre {w : World} {base t sz g N n cap : Nat} {L : List Value} (h : w.ownsRow base t sz (.slice (some ⟨g, 0, none⟩) N cap) N L) (hn : n ≤ N) : w.ownsRow base t sz (.slice (some ⟨g, 0, none⟩) n cap) n (L.take (n * sz)) := by
  have hle : n * sz ≤ N * sz := Nat.mul_le_mul_right _ hn
  rcases h.2 with ⟨e, _⟩ | ⟨g', cap', cur, e, hb, hh, hnc, hcm, hcs, htake⟩
  · cases e
  cases e
  refine ⟨by rw [List.length_take, h.1]; omega, .inr ⟨g, cap, cur, rfl, hb, hh, by omega, hcm, hcs, ?_⟩⟩
  rw [← htake, List.take_take, Nat.min_eq_left hle]
theorem grownBy_after {w wr w' : World} {r r' : Option Nat} (h : w.grownBy wr r) (k : wr.grownBy w' r') (hr : ∀ g, r' = some g → r = some g ∨ w.heap.size ≤ g) : w.grownBy w' r :=
  ⟨k.os.trans h.os, k.tape.trans h.tape, k.output.trans h.output, Nat.le_trans h.size k.size, fun q hq hn => by
    rw [k.block q (Nat.lt_of_lt_of_le hq h.size) fun e => by
      rcases hr q e.symm with g | g
      · exact hn g.symm
      · omega]
    exact h.block q hq hn⟩
theorem grown_none {w w' : World} (h : Below w.heap.size w w') (r : Option Nat) : w.grownBy w' r := ⟨h.os, h.tape, h.output, h.size, fun q hq _ => h.block q hq⟩
/-- spoilt, under way: S is the list that is spoilt. -/
structure SpS (t sz : Nat) (w wr : World) (S : Value) (n : Nat) : Prop where
  own : ∃ zs : List Value, wr.ownsRow 0 t sz S n zs
  gr : w.grownBy wr S.ownBlock
  lt : ∀ g, S.ownBlock = some g → g < w.heap.size
variable {t sz st n N m c : Nat} {w wr w' : World} {S T : Value}
theorem SpS.start {ys : List Value} {base : Nat} (ho : w.ownsRow base t sz S n ys) : SpS t sz w w S n := ⟨⟨ys, own_lessB ho (Nat.zero_le _)⟩, grown_none (Below.refl _ _) _, fun g hg => (World.ownsRow.lt ho g hg).2⟩
theorem SpS.other {r : Option Nat} (h : SpS t sz w wr S n) (k : wr.grownBy w' r) (hr : ∀ g, r = some g → w.heap.size ≤ g) : SpS t sz w w' S n := by
  obtain ⟨zs, ho⟩ := h.own
  refine ⟨⟨zs, own_keep ho fun g hg => k.block g (World.ownsRow.lt ho g hg).2 fun e => ?_⟩, grownBy_after h.gr k fun g hg => .inr (hr g hg), h.lt⟩
  have := h.lt g hg
  have := hr g e.symm
  omega
theorem SpS.later (h : SpS t sz w wr S n) (hb : Below wr.heap.size wr w') : SpS t sz w w' S n := h.other (grown_none hb none) fun g hg => by cases hg
/-- A block that is not the list's is as it was. -/
theorem SpS.block (h : SpS t sz w wr S n) {q : Nat} (hq : q < w.heap.size) (hn : S.ownBlock ≠ some q) : wr.heap[q]? = w.heap[q]? := h.gr.block q hq fun e => hn e.symm
theorem SpS.set {g cap j : Nat} (h : SpS t sz w wr (.slice (some ⟨g, 0, none⟩) n cap) n) (u : Value) : SpS t sz w (wr.setCell ⟨g, j, none⟩ u) (.slice (some ⟨g, 0, none⟩) n cap) n := by
  obtain ⟨zs, ho⟩ := h.own
  have h1 := (World.ownsRow.stored ho j u).1
  have hset : wr.grownBy (wr.setCell ⟨g, j, none⟩ u) (some g) := ⟨rfl, rfl, rfl, by simp [World.setCell], fun k _ hn => Below.heap_setCell _ _ _ _ (fun e => hn (by rw [e]))⟩
  exact ⟨⟨_, h1⟩, grownBy_after h.gr hset fun q hq => .inl hq, h.lt⟩
theorem SpS.facts {g cap : Nat} (h : SpS t sz w wr (.slice (some ⟨g, 0, none⟩) n cap) n) : (∀ j, j < n * sz → ∃ v, wr.cell? ⟨g, j, none⟩ = some v) ∧ ∀ j, wr.frozen? ⟨g, j, none⟩ = false := by
  obtain ⟨zs, ho⟩ := h.own
  exact ⟨fun j hj => ⟨_, (World.ownsRow.cellAt ho j hj).trans (List.getElem?_eq_getElem (by rw [ho.1]; exact hj))⟩, fun j => World.ownsRow.frozenAt ho j⟩
theorem SpS.some (h : SpS t sz w wr S n) (hn : 0 < n) : ∃ g cap, S = .slice (some ⟨g, 0, none⟩) n cap := by
  obtain ⟨zs, ho⟩ := h.own
  rcases ho.2 with ⟨_, h0⟩ | ⟨g, cap, cur, e, _⟩
  · omega
  · exact ⟨g, cap, e⟩
/-- A list that grows out of S, or one in new memory. -/
structure SpT (t sz : Nat) (w wr : World) (S : Value) (n : Nat) (T : Value) (N : Nat) : Prop where
  own : ∃ zs : List Value, wr.ownsRow 0 t sz T N zs
  rel : (∃ g cap, S = .slice (some ⟨g, 0, none⟩) n cap ∧ T = .slice (some ⟨g, 0, none⟩) N cap ∧ n ≤ N) ∨ ∀ g, T.ownBlock = Option.some g → w.heap.size ≤ g
theorem SpT.later (h : SpT t sz w wr S n T N) (hb : Below wr.heap.size wr w') : SpT t sz w w' S n T N := by
  obtain ⟨zs, ho⟩ := h.own
  exact ⟨⟨zs, own_later ho hb⟩, h.rel⟩
theorem SpT.slice (h : SpT t sz w wr S n T N) : ∃ a c, T = .slice a N c := by
  obtain ⟨zs, ho⟩ := h.own
  exact own_slice ho
/-- append of some to such a list. -/
theorem SpT.app {ys : List Value} (hA : AppOk st t sz) (hS : SpS t sz w wr S n) (h : SpT t sz w wr S n T N) (ty : TypeId) (a : Addr) (hm : ys.length = m * sz) (hc : ∀ j u, ys[j]? = some u → wr.cell? (a.add j) = some u) (hone : ∀ u ∈ ys, u.oneCell' = true) (hl : N + m ≤ 4194304) (hm0 : 0 < m) :
    ∃ T' w', (Builtin.append_ #[st, st] ty #[T, .slice (some a) m c]).run Tryz.prog wr = .ok T' w' ∧ SpS t sz w w' S n ∧ SpT t sz w w' S n T' (N + m) ∧ ((∀ g, T.ownBlock = Option.some g → w.heap.size ≤ g) → ∀ g, T'.ownBlock = Option.some g → w.heap.size ≤ g) := by
  obtain ⟨zs, ho⟩ := h.own
  obtain ⟨T', w', hr, h2, h3⟩ := hA wr 0 N m c T zs ys ty a ho hm hc hone hl hm0 (Nat.zero_le _)
  refine ⟨T', w', hr, ?_, ⟨⟨zs ++ ys, h2⟩, ?_⟩, fun hT g hg => ?_⟩
  · rcases h3 with ⟨g, cap, e1, e2, hg⟩ | ⟨_, hb⟩
    · rcases h.rel with ⟨g', cap', e3, e4, hn⟩ | hnew
      · rw [e1] at e4
        cases e4
        rw [e2] at h2
        refine ⟨⟨(zs ++ ys).take (n * sz), ?_⟩, grownBy_after hS.gr hg fun q hq => .inl (by rw [e3]; exact hq), hS.lt⟩
        rw [e3]
        exact own_pre h2 (by omega)
      · exact hS.other hg fun q hq => hnew q (by rw [e1]; exact hq)
    · exact hS.later hb
  · rcases h3 with ⟨g, cap, e1, e2, hg⟩ | ⟨hnew, hb⟩
    · rcases h.rel with ⟨g', cap', e3, e4, hn⟩ | hnew
      · rw [e1] at e4
        cases e4
        exact .inl ⟨g, cap, e3, e2, by omega⟩
      · exact .inr fun q hq => hnew q (by rw [e1]; rw [e2] at hq; exact hq)
    · refine .inr fun q hq => ?_
      have h7 := hnew q hq
      have h8 := hS.gr.size
      omega
  · rcases h3 with ⟨g', cap, e1, e2, _⟩ | ⟨hnew, hb⟩
    · exact hT g (by rw [e1]; rw [e2] at hg; exact hg)
    · have h7 := hnew g hg
      have h8 := hS.gr.size
      omega
theorem SpT.self (h : SpS t sz w wr S n) : SpT t sz w wr S n S n := by
  obtain ⟨zs, ho⟩ := h.own
  refine ⟨⟨zs, ho⟩, ?_⟩
  rcases ho.2 with ⟨e, _⟩ | ⟨g, cap, cur, e, _⟩
  · right
    rw [e]; intro g hg; cases hg
  · exact .inl ⟨g, cap, e, e, Nat.le_refl _⟩
/-- The many that are appended at last. -/
def Mm (t sz : Nat) (w wr : World) (M : Value) (q : Nat) : Prop := ∃ zs : List Value, wr.ownsRow 0 t sz M q zs ∧ (∀ u ∈ zs, u.oneCell' = true) ∧ ∀ g, M.ownBlock = Option.some g → w.heap.size ≤ g
theorem Mm.nil : Mm t sz w wr (.slice none 0 0) 0 := ⟨[], own_none, (fun u hu => by cases hu), (fun g hg => by cases hg)⟩
theorem Mm.slice {M : Value} {q : Nat} (h : Mm t sz w wr M q) : ∃ a c, M = .slice a q c := by
  obtain ⟨zs, ho, _⟩ := h
  exact own_slice ho
/-- One more: it lies in new memory, in the world W1. -/
theorem Mm.step {M : Value} {q : Nat} {W1 : World} {ys : List Value} (hA : AppOk st t sz) (hS : SpS t sz w wr S n) (h : Mm t sz w wr M q) (hb : Below wr.heap.size wr W1) (ty : TypeId) (a : Addr) (hm : ys.length = 1 * sz) (hc : ∀ j u, ys[j]? = some u → W1.cell? (a.add j) = some u) (hone : ∀ u ∈ ys, u.oneCell' = true) (hl : q + 1 ≤ 4194304) :
    ∃ M' w', (Builtin.append_ #[st, st] ty #[M, .slice (some a) 1 c]).run Tryz.prog W1 = .ok M' w' ∧ SpS t sz w w' S n ∧ Mm t sz w w' M' (q + 1) := by
  obtain ⟨zs, ho, h1, h2⟩ := h
  obtain ⟨M', w', hr, h3, h4⟩ := hA W1 0 q 1 c M zs ys ty a (own_later ho hb) hm hc hone hl (by omega) (Nat.zero_le _)
  have hS1 := hS.later hb
  refine ⟨M', w', hr, ?_, zs ++ ys, h3, fun u hu => (List.mem_append.1 hu).elim (h1 u) (hone u), fun g hg => ?_⟩
  · rcases h4 with ⟨g, cap, e1, e2, hg⟩ | ⟨_, hb2⟩
    · exact hS1.other hg fun z hz => h2 z (by rw [e1]; exact hz)
    · exact hS1.later hb2
  · rcases h4 with ⟨g', cap, e1, e2, _⟩ | ⟨hnew, hb2⟩
    · exact h2 g (by rw [e1]; rw [e2] at hg; exact hg)
    · have h7 := hnew g hg
      have h8 := hS1.gr.size
      omega
/-- The last append. -/
theorem Mm.last {M : Value} {q cM : Nat} {aM : Option Addr} (hA : AppOk st t sz) (hS : SpS t sz w wr S n) (h : Mm t sz w wr (.slice aM q cM) q) (hq : 0 < q) (ty : TypeId) (hl : n + q ≤ 4194304) :
    ∃ M' w', (Builtin.append_ #[st, st] ty #[S, .slice aM q cM]).run Tryz.prog wr = .ok M' w' ∧ w.grownBy w' S.ownBlock := by
  obtain ⟨zs, ho, h1, h2⟩ := h
  obtain ⟨gM, rfl⟩ : ∃ gM, aM = some ⟨gM, 0, none⟩ := by
    rcases ho.2 with ⟨e, h0⟩ | ⟨g, cap, cur, e, _⟩
    · omega
    · injection e with e1 _ _; exact ⟨g, e1⟩
  obtain ⟨T', w', hr, h3, _⟩ := SpT.app (c := cM) hA hS (SpT.self hS) ty ⟨gM, 0, none⟩ (ys := zs) (m := q) ho.1 (ho.cells (g := gM) rfl) h1 hl hq
  exact ⟨T', w', hr, h3.gr⟩
theorem wp_app_run {o : Oper} {a : Act} {w : World} {K : Act → World → Prop} {Q : Exit → Act → World → Prop} (d x : Operand) (st : TypeId) (hop : o.op = Op.call { callee := Callee.builtin Builtin.append, args := #[d, x], argTypes := #[st, st] })
    (s u : Value) (hd : a.eval d = s) (hx : a.eval x = u) {v' : Value} {w' : World} (hr : (Builtin.append_ #[st, st] o.type #[s, u]).run Tryz.prog w = .ok v' w') (h : K (a.put o.dst v') w') : o.wp Tryz.prog a w K Q := by
  unfold Oper.wp execOp
  simp only [hop, resolve, invoke, builtin, Sem.run_bind, Sem.run_pure, Result.andThen_ok, List.map_toArray, List.map_cons, List.map_nil, hd, hx, hr]
  exact h
theorem wpList_app_run {ops : Array Oper} {rest : List Oper} {o : Oper} {a : Act} {w : World} {Q : Exit → Act → World → Prop} (hgd : o.guard = none) (d x : Operand) (st : TypeId) (hop : o.op = Op.call { callee := Callee.builtin Builtin.append, args := #[d, x], argTypes := #[st, st] })
    (s u : Value) (hd : a.eval d = s) (hx : a.eval x = u) {v' : Value} {w' : World} (hr : (Builtin.append_ #[st, st] o.type #[s, u]).run Tryz.prog w = .ok v' w') (h : wpList Tryz.prog ops Q rest (a.put o.dst v') w') : wpList Tryz.prog ops Q (o :: rest) a w :=
  wpList_plain hgd fun _ hK => wp_app_run d x st hop s u hd hx hr (hK _ _ h)
end Go.Proofs.YtmagpdblacgneaaGreat
set_option linter.unusedSimpArgs false
set_option linter.unusedVariables false
set_option maxRecDepth 100000
namespace Go.Proofs.YtmagpdblacgneaaGreat
open Go.RowKit Go.Sort

set_option maxHeartbeats 4000000 in
theorem spoiltI {w : World} {base n : Nat} {S : Value} {ys : List Value} (ho : w.ownsRow base 3 1 S n ys) (hl : n ≤ 2097152) (x : Int) : Calls Tryz.prog 19 #[S, .int .i64 x] w fun e w' => e = .returned (.tuple #[]) ∧ w.grownBy w' S.ownBlock := by
  have HS0 := hide (SpS.start ho)
  obtain ⟨aS, cS, hS⟩ := own_slice ho
  subst hS
  clear ho
  have HAP := hide app_okI
  have HC1 : Hid (∀ (W : World) j u, [.int .i64 x][j]? = some u → (W.alloc (.cells #[.int .i64 x] 3)).cell? ((⟨W.heap.size, 0, none⟩ : Addr).add j) = some u) := fun W j u hu => by
    rw [Addr.add_lit]
    match j, hu with
    | 0, hu => simp at hu; subst hu; simp [go_sem]
    | j + 1, hu => simp at hu
  have HO1 : Hid (∀ u ∈ ([.int .i64 x] : List Value), u.oneCell' = true) := fun u hu => by simp at hu; subst hu; rfl
  go_enter Tryz.func19, Tryz.ntmps19
  go_wp2_with fail
  go_loopw [11] (fun s11 wr => ∃ i : Nat, s11 = .int .i64 (i : Int) ∧ i ≤ n ∧ Hid (SpS 3 1 w wr (.slice aS n cS) n)) (fun s _ => n - (intOf s).toNat)
  case atStart => exact ⟨0, rfl, Nat.zero_le _, HS0⟩
  case round =>
    obtain ⟨i, rfl, hin, HS⟩ := hrel
    clear HS0
    by_cases hi : i < n
    · obtain ⟨g, cap, hg⟩ := (unhide HS).some (by omega)
      injection hg with hg _ hcap
      subst hg hcap
      obtain ⟨ec, ez⟩ := (unhide HS).facts
      obtain ⟨y, e0⟩ := ec i (by omega)
      have z0 := ez i
      have HS2 := hide ((unhide HS).set (j := i) (.int .i64 x))
      have i1 : (i : Int) < (n : Int) := by omega
      clear ez ec
      go_wp2
      go_roundw
      case rel => exact ⟨i + 1, by go_num, by omega, HS2⟩
      case measure => simp [intOf]; omega
    · obtain rfl : i = n := by omega
      have HT0 := hide (SpT.self (unhide HS))
      go_wp2_with fail
      go_loopw [5, 6] (fun s5 s6 wq => ∃ (j : Nat) (T : Value), s5 = T ∧ s6 = .int .i64 (j : Int) ∧ j ≤ 20 ∧ Hid (SpS 3 1 w wq (.slice aS i cS) i) ∧ Hid (SpT 3 1 w wq (.slice aS i cS) i T (i + j))) (fun _ s _ => 20 - (intOf s).toNat)
      case atStart => exact ⟨0, _, rfl, rfl, Nat.zero_le _, HS, HT0⟩
      case round =>
        obtain ⟨j, T, rfl, rfl, hj, HQ, HT⟩ := hrel
        clear HS HT0
        obtain ⟨aT, cT, hT⟩ := (unhide HT).slice
        subst hT
        by_cases hj2 : j < 20
        · have hb : Below wr.heap.size wr (wr.alloc (.cells #[.int .i64 x] 3)) := below_alloc (Below.refl _ _) _
          obtain ⟨T', w', hrun, hQ', hT', _⟩ := SpT.app (c := 1) (unhide HAP) ((unhide HQ).later hb) ((unhide HT).later hb) 27 ⟨wr.heap.size, 0, none⟩ (m := 1) (ys := [.int .i64 x]) rfl (unhide HC1 wr) (unhide HO1) (by omega) (by omega)
          have HQ' := hide hQ'
          have HT' := hide hT'
          have i1 : (j : Int) < 20 := by omega
          clear hQ' hT' hb
          go_wp2_with (at_builtin; refine wpList_app_run rfl (.tmp 24) (.tmp 26) 27 rfl _ _ rfl rfl hrun ?_)
          go_roundw
          case rel => exact ⟨j + 1, T', rfl, by go_num, by omega, HQ', HT'⟩
          case measure => simp [intOf]; omega
        · have i1 : ¬ (j : Int) < 20 := by omega
          clear HT
          go_wp2_with fail
          go_loopw [7, 8] (fun s7 s8 wq => ∃ (j : Nat) (M : Value), M = s7 ∧ s8 = .int .i64 (j : Int) ∧ j ≤ 64 ∧ Hid (SpS 3 1 w wq (.slice aS i cS) i) ∧ Hid (Mm 3 1 w wq M j)) (fun _ s _ => 64 - (intOf s).toNat)
          case atStart => exact ⟨0, _, rfl, rfl, Nat.zero_le _, HQ, Mm.nil⟩
          case round =>
            obtain ⟨q, M, rfl, rfl, hq, HR, HM⟩ := hrel
            clear HQ i1
            obtain ⟨aM, cM, hMs⟩ := (unhide HM).slice
            subst hMs
            by_cases hq2 : q < 64
            · have hb : Below wr.heap.size wr (wr.alloc (.cells #[.int .i64 x] 3)) := below_alloc (Below.refl _ _) _
              obtain ⟨M', w', hrun, hR', hM'⟩ := Mm.step (c := 1) (unhide HAP) (unhide HR) (unhide HM) hb 27 ⟨wr.heap.size, 0, none⟩ (ys := [.int .i64 x]) rfl (unhide HC1 wr) (unhide HO1) (by omega)
              have HR' := hide hR'
              have HM' := hide hM'
              have i1 : (q : Int) < 64 := by omega
              clear hR' hM' hb
              go_wp2_with (at_builtin; refine wpList_app_run rfl (.tmp 32) (.tmp 34) 27 rfl _ _ rfl rfl hrun ?_)
              go_roundw
              case rel => exact ⟨q + 1, M', rfl, by go_num, by omega, HR', HM'⟩
              case measure => simp [intOf]; omega
            · obtain rfl : q = 64 := by omega
              obtain ⟨T', w', hrun, hF⟩ := Mm.last (M := .slice aM 64 cM) (unhide HAP) (unhide HR) (unhide HM) (by omega) 27 (by omega)
              have HF := hide hF
              clear hF
              go_wp2_with (at_builtin; refine wpList_app_run rfl (.tmp 36) (.tmp 37) 27 rfl _ _ rfl rfl hrun ?_)
              go_end0
              exact ⟨rfl, unhide HF⟩
end Go.Proofs.YtmagpdblacgneaaGreat

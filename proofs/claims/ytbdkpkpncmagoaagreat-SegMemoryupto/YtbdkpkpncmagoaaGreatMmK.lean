import Derived.Test.YtbdkpkpncmagoaaGreatMmF
import Derived.Test.YtbdkpkpncmagoaaGreatMmI
set_option linter.unusedSimpArgs false
set_option linter.unusedVariables false
set_option maxRecDepth 100000
namespace Go.Proofs.YtbdkpkpncmagoaaGreat
open Go.RowKit Go.Sort

/-- An append to an empty list of no room. -/
def AppE (st t : Nat) : Prop := ∀ (V : World) (base b m c : Nat) (a : Option Addr) (ys : List Value) (ty : TypeId), base ≤ b → V.heap[b]? = some (.cells #[] t (0, 0)) → ys.length = m → LisAt V a ys → (∀ u ∈ ys, u.oneCell' = true) → (a = none → c = 0) → m ≤ 4194304 → base ≤ V.heap.size →
    ∃ T V', (Builtin.append_ #[st, st] ty #[.slice (some ⟨b, 0, none⟩) 0 0, .slice a m c]).run Tryz.prog V = .ok T V' ∧ V'.ownsRow base t 1 T m ys ∧ V.grownBy V' (some b)
theorem app_eB : AppE 45 4 := by
  intro V base b m c a ys ty hb hh hyl hc hone hn hl hbs
  obtain ⟨i2, hi2, z20, z21, z22⟩ := info_parts Tryz.info4
  have hE : V.ownsRow base 4 1 (.slice (some ⟨b, 0, none⟩) 0 0) 0 [] := ⟨rfl, .inr ⟨b, 0, #[], rfl, hb, hh, Nat.le_refl _, Nat.zero_le _, rfl, rfl⟩⟩
  cases a with
  | none =>
    obtain rfl : ys = [] := by
      rcases hc with h | ⟨b', off, h, _⟩
      · exact h
      · cases h
    obtain rfl : m = 0 := by simpa using hyl.symm
    obtain rfl := hn rfl
    exact ⟨_, _, run_append_owned_none (P := Tryz.prog) _ base 45 ty 4 i2 1 Tryz.underlying45 hi2 _ 0 [] hE, hE, World.grownBy.refl _ _⟩
  | some ad =>
    have hcells : ∀ j u, ys[j]? = some u → V.cell? (ad.add j) = some u := by
      rcases lis_cells hc with h | ⟨ad', h, h2⟩
      · obtain rfl : ys = [] := List.eq_nil_of_length_eq_zero h
        intro j u hu; simp at hu
      · injection h with h
        subst h
        exact h2
    obtain ⟨T, w', hr, h2, h3, _, h5⟩ := run_append_own_at (P := Tryz.prog) (w := V) base 45 ty 4 i2 (.bool false) 1 1 Tryz.underlying45 hi2 z20 z21 z22 rfl (by decide) _ 0 [] hE ad m c ys (by omega) hcells hone (by unfold maxLen; omega) (by omega) hbs
    rw [Nat.zero_add, List.nil_append] at h2
    exact ⟨T, w', hr, h2, h3⟩
theorem app_eL : AppE 46 2 := by
  intro V base b m c a ys ty hb hh hyl hc hone hn hl hbs
  obtain ⟨i2, hi2, z20, z21, z22⟩ := info_parts Tryz.info2
  have hE : V.ownsRow base 2 1 (.slice (some ⟨b, 0, none⟩) 0 0) 0 [] := ⟨rfl, .inr ⟨b, 0, #[], rfl, hb, hh, Nat.le_refl _, Nat.zero_le _, rfl, rfl⟩⟩
  cases a with
  | none =>
    obtain rfl : ys = [] := by
      rcases hc with h | ⟨b', off, h, _⟩
      · exact h
      · cases h
    obtain rfl : m = 0 := by simpa using hyl.symm
    obtain rfl := hn rfl
    exact ⟨_, _, run_append_owned_none (P := Tryz.prog) _ base 46 ty 2 i2 1 Tryz.underlying46 hi2 _ 0 [] hE, hE, World.grownBy.refl _ _⟩
  | some ad =>
    have hcells : ∀ j u, ys[j]? = some u → V.cell? (ad.add j) = some u := by
      rcases lis_cells hc with h | ⟨ad', h, h2⟩
      · obtain rfl : ys = [] := List.eq_nil_of_length_eq_zero h
        intro j u hu; simp at hu
      · injection h with h
        subst h
        exact h2
    obtain ⟨T, w', hr, h2, h3, _, h5⟩ := run_append_own_at (P := Tryz.prog) (w := V) base 46 ty 2 i2 (.int .i64 0) 1 8 Tryz.underlying46 hi2 z20 z21 z22 rfl (by decide) _ 0 [] hE ad m c ys (by omega) hcells hone (by unfold maxLen; omega) (by omega) hbs
    rw [Nat.zero_add, List.nil_append] at h2
    exact ⟨T, w', hr, h2, h3⟩
theorem app_eT : AppE 47 9 := by
  intro V base b m c a ys ty hb hh hyl hc hone hn hl hbs
  obtain ⟨i2, hi2, z20, z21, z22⟩ := info_parts Tryz.info9
  have hE : V.ownsRow base 9 1 (.slice (some ⟨b, 0, none⟩) 0 0) 0 [] := ⟨rfl, .inr ⟨b, 0, #[], rfl, hb, hh, Nat.le_refl _, Nat.zero_le _, rfl, rfl⟩⟩
  cases a with
  | none =>
    obtain rfl : ys = [] := by
      rcases hc with h | ⟨b', off, h, _⟩
      · exact h
      · cases h
    obtain rfl : m = 0 := by simpa using hyl.symm
    obtain rfl := hn rfl
    exact ⟨_, _, run_append_owned_none (P := Tryz.prog) _ base 47 ty 9 i2 1 Tryz.underlying47 hi2 _ 0 [] hE, hE, World.grownBy.refl _ _⟩
  | some ad =>
    have hcells : ∀ j u, ys[j]? = some u → V.cell? (ad.add j) = some u := by
      rcases lis_cells hc with h | ⟨ad', h, h2⟩
      · obtain rfl : ys = [] := List.eq_nil_of_length_eq_zero h
        intro j u hu; simp at hu
      · injection h with h
        subst h
        exact h2
    obtain ⟨T, w', hr, h2, h3, _, h5⟩ := run_append_own_at (P := Tryz.prog) (w := V) base 47 ty 9 i2 (.string ⟨#[]⟩) 1 16 Tryz.underlying47 hi2 z20 z21 z22 rfl (by decide) _ 0 [] hE ad m c ys (by omega) hcells hone (by unfold maxLen; omega) (by omega) hbs
    rw [Nat.zero_add, List.nil_append] at h2
    exact ⟨T, w', hr, h2, h3⟩

theorem cell_emp {V V' : World} {b t q j : Nat} {x : Value} (hg : V.grownBy V' (some b)) (hh : V.heap[b]? = some (.cells #[] t (0, 0))) (hx : V.cell? ⟨q, j, none⟩ = some x) : V'.cell? ⟨q, j, none⟩ = some x := by
  have hlt : q < V.heap.size := World.block_lt_of_cell? _ _ hx
  have hne : q ≠ b := fun e => by
    subst e
    unfold World.cell? at hx
    rw [hh] at hx
    simp at hx
  rw [← hx]
  unfold World.cell?
  rw [hg.block q hlt fun e => hne (by injection e)]
theorem lis_emp {V V' : World} {b t : Nat} {a : Option Addr} {cs : List Value} (hg : V.grownBy V' (some b)) (hh : V.heap[b]? = some (.cells #[] t (0, 0))) (h : LisAt V a cs) : LisAt V' a cs := by
  rcases h with h | ⟨b', off, e, h⟩
  · exact .inl h
  · exact .inr ⟨b', off, e, fun i x hx => cell_emp hg hh (h i x hx)⟩
/-- A column's box. -/
def CS (bx : Nat) (X : Vc) (p : Sl) (w' : World) : Prop := w'.cell? ⟨bx, 0, none⟩ = some (.int .i64 X.k) ∧ w'.cell? ⟨bx, 1, none⟩ = some (.slice p.a1 X.nl.length p.c1) ∧ w'.cell? ⟨bx, 2, none⟩ = some (.slice p.a2 X.ns.length p.c2) ∧ w'.cell? ⟨bx, 3, none⟩ = some (.slice p.a3 X.ss.length p.c3)
/-- copiedVec, under way. -/
structure Cv (w V : World) (X : Vc) (p : Sl) (bx br : Nat) (E1 E2 E3 : Option Nat) (T1 T2 T3 : Option Value) : Prop where
  bel : Below w.heap.size w V
  src : VecAt V X p
  cs : CS bx X p V
  res : V.rowIs br 49 4 (box4 (.int .i64 0) noS noS noS)
  e1 : ∀ b, E1 = some b → w.heap.size ≤ b ∧ V.heap[b]? = some (.cells #[] 4 (0, 0))
  e2 : ∀ b, E2 = some b → w.heap.size ≤ b ∧ V.heap[b]? = some (.cells #[] 2 (0, 0))
  e3 : ∀ b, E3 = some b → w.heap.size ≤ b ∧ V.heap[b]? = some (.cells #[] 9 (0, 0))
  t1 : ∀ T, T1 = some T → V.ownsRow w.heap.size 4 1 T X.nl.length (X.nl.map .bool)
  t2 : ∀ T, T2 = some T → V.ownsRow w.heap.size 2 1 T X.ns.length (X.ns.map (.int .i64))
  t3 : ∀ T, T3 = some T → V.ownsRow w.heap.size 9 1 T X.ss.length (X.ss.map .string)
variable {w V V' : World} {X : Vc} {p : Sl} {bx br : Nat} {E1 E2 E3 : Option Nat} {T1 T2 T3 : Option Value}
theorem CS.later (h : CS bx X p V) (hb : Below V.heap.size V V') : CS bx X p V' := ⟨cell_later hb h.1, cell_later hb h.2.1, cell_later hb h.2.2.1, cell_later hb h.2.2.2⟩
theorem lt_of_get {V : World} {b : Nat} {o : Obj} (h : V.heap[b]? = some o) : b < V.heap.size := (Array.getElem?_eq_some_iff.1 h).1
theorem Cv.later (h : Cv w V X p bx br E1 E2 E3 T1 T2 T3) (hb : Below V.heap.size V V') : Cv w V' X p bx br E1 E2 E3 T1 T2 T3 := by
  refine ⟨below_step h.bel hb, h.src.later hb, h.cs.later hb, rowIs_later h.res hb, fun b e => ?_, fun b e => ?_, fun b e => ?_, fun T e => own_later (h.t1 T e) hb, fun T e => own_later (h.t2 T e) hb, fun T e => own_later (h.t3 T e) hb⟩
  · have := h.e1 b e; exact ⟨this.1, by rw [hb.block b (lt_of_get this.2)]; exact this.2⟩
  · have := h.e2 b e; exact ⟨this.1, by rw [hb.block b (lt_of_get this.2)]; exact this.2⟩
  · have := h.e3 b e; exact ⟨this.1, by rw [hb.block b (lt_of_get this.2)]; exact this.2⟩
theorem push_get (V : World) (o : Obj) : (V.alloc o).heap[V.heap.size]? = some o := by show (V.heap.push _)[V.heap.size]? = _; rw [Array.getElem?_push_size]
theorem Cv.new1 (h : Cv w V X p bx br E1 E2 E3 T1 T2 T3) : Cv w (V.alloc (.cells #[] 4)) X p bx br (some V.heap.size) E2 E3 T1 T2 T3 := by
  have h' := h.later (below_alloc (Below.refl _ V) (.cells #[] 4))
  refine { h' with e1 := fun b e => ?_ }
  injection e with e
  subst e
  exact ⟨h.bel.size, push_get V _⟩
theorem Cv.new2 (h : Cv w V X p bx br E1 E2 E3 T1 T2 T3) : Cv w (V.alloc (.cells #[] 2)) X p bx br E1 (some V.heap.size) E3 T1 T2 T3 := by
  have h' := h.later (below_alloc (Below.refl _ V) (.cells #[] 2))
  refine { h' with e2 := fun b e => ?_ }
  injection e with e
  subst e
  exact ⟨h.bel.size, push_get V _⟩
theorem Cv.new3 (h : Cv w V X p bx br E1 E2 E3 T1 T2 T3) : Cv w (V.alloc (.cells #[] 9)) X p bx br E1 E2 (some V.heap.size) T1 T2 T3 := by
  have h' := h.later (below_alloc (Below.refl _ V) (.cells #[] 9))
  refine { h' with e3 := fun b e => ?_ }
  injection e with e
  subst e
  exact ⟨h.bel.size, push_get V _⟩
theorem Cv.app1 {B : Nat} (h : Cv w V X p bx br (some B) E2 E3 T1 T2 T3) (hn : p.a1 = none → p.c1 = 0) (hl : X.nl.length ≤ 4194304) (ty : TypeId) :
    ∃ T V', (Builtin.append_ #[45, 45] ty #[.slice (some ⟨B, 0, none⟩) 0 0, .slice p.a1 X.nl.length p.c1]).run Tryz.prog V = .ok T V' ∧ Cv w V' X p bx br none E2 E3 (some T) T2 T3 := by
  obtain ⟨hB, hh⟩ := h.e1 B rfl
  obtain ⟨T, V', hr, ho, hg⟩ := app_eB V w.heap.size B X.nl.length p.c1 p.a1 (X.nl.map .bool) ty hB hh (by simp) h.src.1 (fun u hu => by obtain ⟨y, _, rfl⟩ := List.mem_map.1 hu; rfl) hn hl h.bel.size
  have key : ∀ (q : Nat) (cur : Array Value) (t : Nat), t ≠ 4 → V.heap[q]? = some (.cells cur t (0, 0)) → V'.heap[q]? = V.heap[q]? := fun q cur t ht hq => hg.block q (lt_of_get hq) fun e => by
    injection e with e
    subst e
    rw [hh] at hq
    injection hq with hq
    injection hq with _ hq _
    exact ht hq.symm
  have keyT : ∀ {T : Value} {base t n : Nat} {xs : List Value}, t ≠ 4 → V.ownsRow base t 1 T n xs → V'.ownsRow base t 1 T n xs := fun {T base t n xs} ht ho => own_keep ho fun g hgT => by
    rcases ho.2 with ⟨e, _⟩ | ⟨g', cap, cur, e, _, hc, _⟩
    · rw [e] at hgT; cases hgT
    · rw [e] at hgT
      simp [Value.ownBlock] at hgT
      subst hgT
      exact key g' cur t ht hc
  refine ⟨T, V', hr, h.bel.trans ⟨hg.os, hg.tape, hg.output, hg.size, fun q hq => hg.block q (Nat.lt_of_lt_of_le hq h.bel.size) fun e => by injection e with e; omega⟩, ⟨lis_emp hg hh h.src.1, lis_emp hg hh h.src.2.1, lis_emp hg hh h.src.2.2⟩, ⟨cell_emp hg hh h.cs.1, cell_emp hg hh h.cs.2.1, cell_emp hg hh h.cs.2.2.1, cell_emp hg hh h.cs.2.2.2⟩, ?_, ?_, fun b e => ⟨(h.e2 b e).1, by rw [key b _ _ (by decide) (h.e2 b e).2]; exact (h.e2 b e).2⟩, fun b e => ⟨(h.e3 b e).1, by rw [key b _ _ (by decide) (h.e3 b e).2]; exact (h.e3 b e).2⟩, ?_, fun T e => keyT (by decide) (h.t2 T e), fun T e => keyT (by decide) (h.t3 T e)⟩
  · obtain ⟨c, hc, hrest⟩ := h.res
    exact ⟨c, by rw [key br c 49 (by decide) hc]; exact hc, hrest⟩
  · intro b e; cases e
  · intro T' e
    injection e with e
    subst e
    exact ho
theorem Cv.app2 {B : Nat} (h : Cv w V X p bx br E1 (some B) E3 T1 T2 T3) (hn : p.a2 = none → p.c2 = 0) (hl : X.ns.length ≤ 4194304) (ty : TypeId) :
    ∃ T V', (Builtin.append_ #[46, 46] ty #[.slice (some ⟨B, 0, none⟩) 0 0, .slice p.a2 X.ns.length p.c2]).run Tryz.prog V = .ok T V' ∧ Cv w V' X p bx br E1 none E3 T1 (some T) T3 := by
  obtain ⟨hB, hh⟩ := h.e2 B rfl
  obtain ⟨T, V', hr, ho, hg⟩ := app_eL V w.heap.size B X.ns.length p.c2 p.a2 (X.ns.map (.int .i64)) ty hB hh (by simp) h.src.2.1 (fun u hu => by obtain ⟨y, _, rfl⟩ := List.mem_map.1 hu; rfl) hn hl h.bel.size
  have key : ∀ (q : Nat) (cur : Array Value) (t : Nat), t ≠ 2 → V.heap[q]? = some (.cells cur t (0, 0)) → V'.heap[q]? = V.heap[q]? := fun q cur t ht hq => hg.block q (lt_of_get hq) fun e => by
    injection e with e
    subst e
    rw [hh] at hq
    injection hq with hq
    injection hq with _ hq _
    exact ht hq.symm
  have keyT : ∀ {T : Value} {base t n : Nat} {xs : List Value}, t ≠ 2 → V.ownsRow base t 1 T n xs → V'.ownsRow base t 1 T n xs := fun {T base t n xs} ht ho => own_keep ho fun g hgT => by
    rcases ho.2 with ⟨e, _⟩ | ⟨g', cap, cur, e, _, hc, _⟩
    · rw [e] at hgT; cases hgT
    · rw [e] at hgT
      simp [Value.ownBlock] at hgT
      subst hgT
      exact key g' cur t ht hc
  refine ⟨T, V', hr, h.bel.trans ⟨hg.os, hg.tape, hg.output, hg.size, fun q hq => hg.block q (Nat.lt_of_lt_of_le hq h.bel.size) fun e => by injection e with e; omega⟩, ⟨lis_emp hg hh h.src.1, lis_emp hg hh h.src.2.1, lis_emp hg hh h.src.2.2⟩, ⟨cell_emp hg hh h.cs.1, cell_emp hg hh h.cs.2.1, cell_emp hg hh h.cs.2.2.1, cell_emp hg hh h.cs.2.2.2⟩, ?_, fun b e => ⟨(h.e1 b e).1, by rw [key b _ _ (by decide) (h.e1 b e).2]; exact (h.e1 b e).2⟩, ?_, fun b e => ⟨(h.e3 b e).1, by rw [key b _ _ (by decide) (h.e3 b e).2]; exact (h.e3 b e).2⟩, fun T e => keyT (by decide) (h.t1 T e), ?_, fun T e => keyT (by decide) (h.t3 T e)⟩
  · obtain ⟨c, hc, hrest⟩ := h.res
    exact ⟨c, by rw [key br c 49 (by decide) hc]; exact hc, hrest⟩
  · intro b e; cases e
  · intro T' e
    injection e with e
    subst e
    exact ho
theorem Cv.app3 {B : Nat} (h : Cv w V X p bx br E1 E2 (some B) T1 T2 T3) (hn : p.a3 = none → p.c3 = 0) (hl : X.ss.length ≤ 4194304) (ty : TypeId) :
    ∃ T V', (Builtin.append_ #[47, 47] ty #[.slice (some ⟨B, 0, none⟩) 0 0, .slice p.a3 X.ss.length p.c3]).run Tryz.prog V = .ok T V' ∧ Cv w V' X p bx br E1 E2 none T1 T2 (some T) := by
  obtain ⟨hB, hh⟩ := h.e3 B rfl
  obtain ⟨T, V', hr, ho, hg⟩ := app_eT V w.heap.size B X.ss.length p.c3 p.a3 (X.ss.map .string) ty hB hh (by simp) h.src.2.2 (fun u hu => by obtain ⟨y, _, rfl⟩ := List.mem_map.1 hu; rfl) hn hl h.bel.size
  have key : ∀ (q : Nat) (cur : Array Value) (t : Nat), t ≠ 9 → V.heap[q]? = some (.cells cur t (0, 0)) → V'.heap[q]? = V.heap[q]? := fun q cur t ht hq => hg.block q (lt_of_get hq) fun e => by
    injection e with e
    subst e
    rw [hh] at hq
    injection hq with hq
    injection hq with _ hq _
    exact ht hq.symm
  have keyT : ∀ {T : Value} {base t n : Nat} {xs : List Value}, t ≠ 9 → V.ownsRow base t 1 T n xs → V'.ownsRow base t 1 T n xs := fun {T base t n xs} ht ho => own_keep ho fun g hgT => by
    rcases ho.2 with ⟨e, _⟩ | ⟨g', cap, cur, e, _, hc, _⟩
    · rw [e] at hgT; cases hgT
    · rw [e] at hgT
      simp [Value.ownBlock] at hgT
      subst hgT
      exact key g' cur t ht hc
  refine ⟨T, V', hr, h.bel.trans ⟨hg.os, hg.tape, hg.output, hg.size, fun q hq => hg.block q (Nat.lt_of_lt_of_le hq h.bel.size) fun e => by injection e with e; omega⟩, ⟨lis_emp hg hh h.src.1, lis_emp hg hh h.src.2.1, lis_emp hg hh h.src.2.2⟩, ⟨cell_emp hg hh h.cs.1, cell_emp hg hh h.cs.2.1, cell_emp hg hh h.cs.2.2.1, cell_emp hg hh h.cs.2.2.2⟩, ?_, fun b e => ⟨(h.e1 b e).1, by rw [key b _ _ (by decide) (h.e1 b e).2]; exact (h.e1 b e).2⟩, fun b e => ⟨(h.e2 b e).1, by rw [key b _ _ (by decide) (h.e2 b e).2]; exact (h.e2 b e).2⟩, ?_, fun T e => keyT (by decide) (h.t1 T e), fun T e => keyT (by decide) (h.t2 T e), ?_⟩
  · obtain ⟨c, hc, hrest⟩ := h.res
    exact ⟨c, by rw [key br c 49 (by decide) hc]; exact hc, hrest⟩
  · intro b e; cases e
  · intro T' e
    injection e with e
    subst e
    exact ho

theorem Cv.done {S1 S2 S3 : Value} {E1 E2 E3 : Option Nat} (h : Cv w V X p bx br E1 E2 E3 (some S1) (some S2) (some S3)) (hbr : w.heap.size ≤ br) :
    ∃ q : Sl, S1 = .slice q.a1 X.nl.length q.c1 ∧ S2 = .slice q.a2 X.ns.length q.c2 ∧ S3 = .slice q.a3 X.ss.length q.c3 ∧ Own3 ((((V.setCell ⟨br, 0, none⟩ (.int .i64 X.k)).setCell ⟨br, 1, none⟩ S1).setCell ⟨br, 2, none⟩ S2).setCell ⟨br, 3, none⟩ S3) w.heap.size X q ∧ Below w.heap.size w ((((V.setCell ⟨br, 0, none⟩ (.int .i64 X.k)).setCell ⟨br, 1, none⟩ S1).setCell ⟨br, 2, none⟩ S2).setCell ⟨br, 3, none⟩ S3) := by
  have h1 := h.t1 _ rfl
  have h2 := h.t2 _ rfl
  have h3 := h.t3 _ rfl
  obtain ⟨a1, c1, e1⟩ := own_slice h1
  obtain ⟨a2, c2, e2⟩ := own_slice h2
  obtain ⟨a3, c3, e3⟩ := own_slice h3
  subst e1 e2 e3
  have hk : ∀ {base t n : Nat} {T : Value} {xs : List Value}, t ≠ 49 → V.ownsRow base t 1 T n xs → ((((V.setCell ⟨br, 0, none⟩ (.int .i64 X.k)).setCell ⟨br, 1, none⟩ (.slice a1 X.nl.length c1)).setCell ⟨br, 2, none⟩ (.slice a2 X.ns.length c2)).setCell ⟨br, 3, none⟩ (.slice a3 X.ss.length c3)).ownsRow base t 1 T n xs := fun {base t n T xs} ht ho => own_keep ho fun g hg => by
    have hne : g ≠ br := fun e => own_ne h.res ho (Ne.symm ht) (by rw [hg, e])
    rw [Go.Deep.blk_setCell_other _ _ _ _ hne, Go.Deep.blk_setCell_other _ _ _ _ hne, Go.Deep.blk_setCell_other _ _ _ _ hne, Go.Deep.blk_setCell_other _ _ _ _ hne]
  exact ⟨⟨a1, c1, a2, c2, a3, c3⟩, rfl, rfl, rfl, ⟨hk (by decide) h1, hk (by decide) h2, hk (by decide) h3⟩, below_set4 h.bel hbr _ _ _ _⟩

set_option maxHeartbeats 8000000 in
theorem copiedvec_any (w : World) (X : Vc) (p : Sl) (hp : VecAt w X p) (hN : (p.a1 = none → p.c1 = 0) ∧ (p.a2 = none → p.c2 = 0) ∧ (p.a3 = none → p.c3 = 0)) (l1 : X.nl.length ≤ 4194304) (l2 : X.ns.length ≤ 4194304) (l3 : X.ss.length ≤ 4194304) :
    Calls Tryz.prog 17 #[vecV X p] w fun e w' => ∃ q, e = .returned (vecV X q) ∧ Own3 w' w.heap.size X q ∧ Below w.heap.size w w' := by
  rw [vecV_open]
  have HN := hide hN
  obtain ⟨W, hW⟩ : ∃ W, (w.alloc (.cells #[.int .i64 X.k, .slice p.a1 X.nl.length p.c1, .slice p.a2 X.ns.length p.c2, .slice p.a3 X.ss.length p.c3] 49)).alloc (.cells #[.int .i64 0, .slice none 0 0, .slice none 0 0, .slice none 0 0] 49) = W := ⟨_, rfl⟩
  obtain ⟨bx, hbx⟩ : ∃ bx, w.heap.size = bx := ⟨_, rfl⟩
  have HBR : Hid (w.heap.size ≤ bx + 1) := by show w.heap.size ≤ bx + 1; omega
  have HU0 : Hid (Cv w W X p bx (bx + 1) none none none none none none) := by
    have hb : Below w.heap.size w W := by rw [← hW]; exact below_alloc (below_alloc (Below.refl _ _) _) _
    refine ⟨hb, hp.later hb, ?_, ?_, (fun _ h => by cases h), (fun _ h => by cases h), (fun _ h => by cases h), (fun _ h => by cases h), (fun _ h => by cases h), (fun _ h => by cases h)⟩
    · have := box_facts (World.rowIs.alloc (box4_alloc w (.int .i64 X.k) (.slice p.a1 X.nl.length p.c1) (.slice p.a2 X.ns.length p.c2) (.slice p.a3 X.ss.length p.c3)) (.cells #[.int .i64 0, .slice none 0 0, .slice none 0 0, .slice none 0 0] 49))
      rw [hW, hbx] at this
      exact ⟨this.1, this.2.1, this.2.2.1, this.2.2.2.1⟩
    · have := box4_alloc (w.alloc (.cells #[.int .i64 X.k, .slice p.a1 X.nl.length p.c1, .slice p.a2 X.ns.length p.c2, .slice p.a3 X.ss.length p.c3] 49)) (.int .i64 0) noS noS noS
      have e : (w.alloc (.cells #[.int .i64 X.k, .slice p.a1 X.nl.length p.c1, .slice p.a2 X.ns.length p.c2, .slice p.a3 X.ss.length p.c3] 49)).heap.size = bx + 1 := by rw [← hbx]; show (w.heap.push _).size = _; rw [Array.size_push]
      rw [e] at this
      rw [← hW]
      exact this
  clear hp hN
  go_enter Tryz.func17, Tryz.ntmps17
  go_upto_region 1 with fail
  clear hbx hW
  have HU := hide ((unhide HU0).later (Below.refl _ _).drew)
  clear HU0
  refine wp_region_noPanic ?_
  refine wp_region_G (S := CS bx X p) (k := 15) (by kernel_rfl) ?_
  obtain ⟨W3, hW3⟩ : ∃ W3, W.drew = W3 := ⟨_, rfl⟩
  change anyG _ _ _ _ _ _ _ _ _ W.drew
  rw [hW3] at HU ⊢
  clear hW3 W
  rename World => W
  refine anyG_takel (i := 0) (v := (.pointer (some ⟨bx, 0, none⟩))) [1, 14, 15] rfl (by kernel_rfl) (by kernel_rfl) (by kernel_rfl) (by kernel_rfl) (fun _ _ _ h => h) (Or.inl ⟨by rfl, fun w' hSw => ?_⟩) (unhide HU).cs ?_
  · obtain ⟨s0, s1, s2, s3⟩ := hSw; go_simp
  try simp only [Act.put, List.setIfInBounds_toArray, List.set_cons_zero, List.set_cons_succ]
  refine anyG_takel (i := 1) (v := (.int .i64 X.k)) [14, 15] rfl (by kernel_rfl) (by kernel_rfl) (by kernel_rfl) (by kernel_rfl) (fun _ _ _ h => h) (Or.inl ⟨by rfl, fun w' hSw => ?_⟩) (unhide HU).cs ?_
  · obtain ⟨s0, s1, s2, s3⟩ := hSw; go_simp
  try simp only [Act.put, List.setIfInBounds_toArray, List.set_cons_zero, List.set_cons_succ]
  refine anyG_takel (i := 3) (v := (.pointer (some ⟨bx, 1, none⟩))) [4, 5, 9, 13, 14, 15] rfl (by kernel_rfl) (by kernel_rfl) (by kernel_rfl) (by kernel_rfl) (fun _ _ _ h => h) (Or.inl ⟨by rfl, fun w' hSw => ?_⟩) (unhide HU).cs ?_
  · obtain ⟨s0, s1, s2, s3⟩ := hSw; go_simp
  try simp only [Act.put, List.setIfInBounds_toArray, List.set_cons_zero, List.set_cons_succ]
  refine anyG_takel (i := 4) (v := (.slice p.a1 X.nl.length p.c1)) [5, 9, 13, 14, 15] rfl (by kernel_rfl) (by kernel_rfl) (by kernel_rfl) (by kernel_rfl) (fun _ _ _ h => h) (Or.inl ⟨by rfl, fun w' hSw => ?_⟩) (unhide HU).cs ?_
  · obtain ⟨s0, s1, s2, s3⟩ := hSw; go_simp
  try simp only [Act.put, List.setIfInBounds_toArray, List.set_cons_zero, List.set_cons_succ]
  refine anyG_takel (i := 7) (v := (.pointer (some ⟨bx, 2, none⟩))) [8, 9, 13, 14, 15] rfl (by kernel_rfl) (by kernel_rfl) (by kernel_rfl) (by kernel_rfl) (fun _ _ _ h => h) (Or.inl ⟨by rfl, fun w' hSw => ?_⟩) (unhide HU).cs ?_
  · obtain ⟨s0, s1, s2, s3⟩ := hSw; go_simp
  try simp only [Act.put, List.setIfInBounds_toArray, List.set_cons_zero, List.set_cons_succ]
  refine anyG_takel (i := 8) (v := (.slice p.a2 X.ns.length p.c2)) [9, 13, 14, 15] rfl (by kernel_rfl) (by kernel_rfl) (by kernel_rfl) (by kernel_rfl) (fun _ _ _ h => h) (Or.inl ⟨by rfl, fun w' hSw => ?_⟩) (unhide HU).cs ?_
  · obtain ⟨s0, s1, s2, s3⟩ := hSw; go_simp
  try simp only [Act.put, List.setIfInBounds_toArray, List.set_cons_zero, List.set_cons_succ]
  refine anyG_takel (i := 11) (v := (.pointer (some ⟨bx, 3, none⟩))) [12, 13, 14, 15] rfl (by kernel_rfl) (by kernel_rfl) (by kernel_rfl) (by kernel_rfl) (fun _ _ _ h => h) (Or.inl ⟨by rfl, fun w' hSw => ?_⟩) (unhide HU).cs ?_
  · obtain ⟨s0, s1, s2, s3⟩ := hSw; go_simp
  try simp only [Act.put, List.setIfInBounds_toArray, List.set_cons_zero, List.set_cons_succ]
  refine anyG_takel (i := 12) (v := (.slice p.a3 X.ss.length p.c3)) [13, 14, 15] rfl (by kernel_rfl) (by kernel_rfl) (by kernel_rfl) (by kernel_rfl) (fun _ _ _ h => h) (Or.inl ⟨by rfl, fun w' hSw => ?_⟩) (unhide HU).cs ?_
  · obtain ⟨s0, s1, s2, s3⟩ := hSw; go_simp
  try simp only [Act.put, List.setIfInBounds_toArray, List.set_cons_zero, List.set_cons_succ]
  iterate 6
    all_goals (first
      | (refine anyG_many [2, 6, 10] (by decide +kernel) (by simp) ?_; intro i hi; simp only [List.mem_cons, List.not_mem_nil, or_false] at hi; rcases hi with rfl | rfl | rfl)
      | (refine anyG_many [5, 6, 10] (by decide +kernel) (by simp) ?_; intro i hi; simp only [List.mem_cons, List.not_mem_nil, or_false] at hi; rcases hi with rfl | rfl | rfl)
      | (refine anyG_many [2, 6] (by decide +kernel) (by simp) ?_; intro i hi; simp only [List.mem_cons, List.not_mem_nil, or_false] at hi; rcases hi with rfl | rfl)
      | (refine anyG_many [2, 10] (by decide +kernel) (by simp) ?_; intro i hi; simp only [List.mem_cons, List.not_mem_nil, or_false] at hi; rcases hi with rfl | rfl)
      | (refine anyG_many [5, 6] (by decide +kernel) (by simp) ?_; intro i hi; simp only [List.mem_cons, List.not_mem_nil, or_false] at hi; rcases hi with rfl | rfl)
      | (refine anyG_many [5, 10] (by decide +kernel) (by simp) ?_; intro i hi; simp only [List.mem_cons, List.not_mem_nil, or_false] at hi; rcases hi with rfl | rfl)
      | (refine anyG_many [6, 10] (by decide +kernel) (by simp) ?_; intro i hi; simp only [List.mem_cons, List.not_mem_nil, or_false] at hi; rcases hi with rfl | rfl)
      | (refine anyG_many [9, 10] (by decide +kernel) (by simp) ?_; intro i hi; simp only [List.mem_cons, List.not_mem_nil, or_false] at hi; rcases hi with rfl | rfl)
      | refine anyG_one (i := 2) (by decide +kernel) ?_
      | refine anyG_one (i := 5) (by decide +kernel) ?_
      | refine anyG_one (i := 6) (by decide +kernel) ?_
      | refine anyG_one (i := 9) (by decide +kernel) ?_
      | refine anyG_one (i := 10) (by decide +kernel) ?_
      | refine anyG_one (i := 13) (by decide +kernel) ?_)
    all_goals (first
      | (refine wpOp_lit (i := 2) rfl (by rfl) fun K hK => ?_
         go_simp
         have HU2 := hide (unhide HU).new1
         refine unhide hK _ _ ⟨fun _ => (unhide HU2).cs, ?_⟩
         obtain ⟨B1, hT⟩ : ∃ T, W.heap.size = T := ⟨_, rfl⟩
         obtain ⟨W2, hW2⟩ : ∃ W2, W.alloc (.cells #[] 4) = W2 := ⟨_, rfl⟩
         rw [hT, hW2] at HU2
         rw [hT, hW2]
         clear hK K HU hT hW2 W
         rename World => W
         have HU := HU2
         clear HU2)
      | (refine wpOp_lit (i := 5) rfl (by rfl) fun K hK => ?_
         obtain ⟨R1, W2, hrun, hU2⟩ := (unhide HU).app1 (unhide HN).1 l1 45
         refine wp_app_run (.tmp 5) (.tmp 7) 45 (by rfl) _ _ (by rfl) (by rfl) hrun ?_
         have HU2 := hide hU2
         clear hrun hU2
         refine unhide hK _ _ ⟨fun _ => (unhide HU2).cs, ?_⟩
         clear hK K HU W
         rename World => W
         have HU := HU2
         clear HU2)
      | (refine wpOp_lit (i := 6) rfl (by rfl) fun K hK => ?_
         go_simp
         have HU2 := hide (unhide HU).new2
         refine unhide hK _ _ ⟨fun _ => (unhide HU2).cs, ?_⟩
         obtain ⟨B2, hT⟩ : ∃ T, W.heap.size = T := ⟨_, rfl⟩
         obtain ⟨W2, hW2⟩ : ∃ W2, W.alloc (.cells #[] 2) = W2 := ⟨_, rfl⟩
         rw [hT, hW2] at HU2
         rw [hT, hW2]
         clear hK K HU hT hW2 W
         rename World => W
         have HU := HU2
         clear HU2)
      | (refine wpOp_lit (i := 9) rfl (by rfl) fun K hK => ?_
         obtain ⟨R2, W2, hrun, hU2⟩ := (unhide HU).app2 (unhide HN).2.1 l2 46
         refine wp_app_run (.tmp 9) (.tmp 11) 46 (by rfl) _ _ (by rfl) (by rfl) hrun ?_
         have HU2 := hide hU2
         clear hrun hU2
         refine unhide hK _ _ ⟨fun _ => (unhide HU2).cs, ?_⟩
         clear hK K HU W
         rename World => W
         have HU := HU2
         clear HU2)
      | (refine wpOp_lit (i := 10) rfl (by rfl) fun K hK => ?_
         go_simp
         have HU2 := hide (unhide HU).new3
         refine unhide hK _ _ ⟨fun _ => (unhide HU2).cs, ?_⟩
         obtain ⟨B3, hT⟩ : ∃ T, W.heap.size = T := ⟨_, rfl⟩
         obtain ⟨W2, hW2⟩ : ∃ W2, W.alloc (.cells #[] 9) = W2 := ⟨_, rfl⟩
         rw [hT, hW2] at HU2
         rw [hT, hW2]
         clear hK K HU hT hW2 W
         rename World => W
         have HU := HU2
         clear HU2)
      | (refine wpOp_lit (i := 13) rfl (by rfl) fun K hK => ?_
         obtain ⟨R3, W2, hrun, hU2⟩ := (unhide HU).app3 (unhide HN).2.2 l3 47
         refine wp_app_run (.tmp 13) (.tmp 15) 47 (by rfl) _ _ (by rfl) (by rfl) hrun ?_
         have HU2 := hide hU2
         clear hrun hU2
         refine unhide hK _ _ ⟨fun _ => (unhide HU2).cs, ?_⟩
         clear hK K HU W
         rename World => W
         have HU := HU2
         clear HU2))
    all_goals (try simp only [Act.put, List.setIfInBounds_toArray, List.set_cons_zero, List.set_cons_succ])
  all_goals
    (obtain ⟨q, rfl, rfl, rfl, ho, hbl⟩ := (unhide HU).done (unhide HBR)
     have HO := hide ho
     have HB := hide hbl
     have HC := hide (unhide HU).cs
     obtain ⟨r0, r1, r2, r3, f0, f1, f2, f3⟩ := box_facts (unhide HU).res
     clear ho hbl HU
     refine anyG_one (i := 14) (by kernel_rfl) ?_
     refine wpOp_lit rfl (by rfl) fun K hK => ?_
     go_simp
     refine unhide hK _ _ ⟨fun _ => unhide HC, ?_⟩
     clear hK K HC
     refine anyG_one (i := 15) (by kernel_rfl) ?_
     refine wpOp_lit rfl (by rfl) fun K hK => ?_
     go_simp
     refine unhide hK _ _ ⟨fun hh => absurd hh (by decide), ?_⟩
     clear hK K
     refine anyG_done (by kernel_rfl) ?_ _
     refine NoPanic.normal ?_
     go_wp2
     refine bodyPost_ret (v := vecV X q) (by simp [results, Tryz.results17, go_sem, vecV, *]) rfl ?_
     exact ⟨q, rfl, unhide HO, unhide HB⟩)
end Go.Proofs.YtbdkpkpncmagoaaGreat

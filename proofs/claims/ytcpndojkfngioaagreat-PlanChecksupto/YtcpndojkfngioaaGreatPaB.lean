import Derived.Test.YtcpndojkfngioaaGreatKeptA
import Derived.Test.YtcpndojkfngioaaGreatOwnA
import Derived.Test.YtcpndojkfngioaaGreatExO
import Derived.Maps.AppendAt
import Derived.Laws.AppendOwnNone
import Derived.Lib.SliceRun
import Derived.Test.YtcpndojkfngioaaGreatPlA
set_option linter.unusedSimpArgs false
set_option linter.unusedVariables false
namespace Go.Proofs.YtcpndojkfngioaaGreat
open Go.RowKit Go.Sort

/-- A node, and where its parts lie. -/
abbrev Nd := Ex × Option Addr × Nat
def sh (q : Nd) : List Value := [.int .i64 q.1.op, .int .i64 q.1.n, .int .i64 q.1.v.k, .int .i64 q.1.v.n, .string q.1.v.s, .slice q.2.1 q.1.args.length q.2.2]
theorem info26 : (Tryz.prog.info? 74).map (fun i => (i.zero, i.size, i.bytes)) = some (some (.agg #[.int .i64 0, .int .i64 0, .int .i64 0, .int .i64 0, .string ⟨#[]⟩, .slice none 0 0]), 6, 72) := by kernel_rfl
/-- The slice of expressions v, a row of the call's own, holds L. -/
def OwnE (w : World) (base : Nat) (v : Value) (L : List Nd) : Prop := w.ownsRow base 74 6 v L.length (L.flatMap sh)
theorem OwnE.later {w w1 : World} {base : Nat} {v : Value} {xs : List Nd} (h : OwnE w base v xs) (hb : Below w.heap.size w w1) : OwnE w1 base v xs := own_later h hb
theorem sh_at : ∀ (zs : List Nd) (i j : Nat) (x : Nd), zs[i]? = some x → j < 6 → (zs.flatMap sh)[i * 6 + j]? = (sh x)[j]?
  | [], i, j, x, h, _ => by simp at h
  | z :: zs, 0, j, x, h, hj => by
    simp at h
    subst h
    rw [List.flatMap_cons, List.getElem?_append_left (by simp [sh]; omega)]
    simp
  | z :: zs, i + 1, j, x, h, hj => by
    have ih := sh_at zs i j x (by simpa using h) hj
    rw [List.flatMap_cons, List.getElem?_append_right (by simp [sh]; omega)]
    rw [← ih]
    congr 1
    simp [sh]
    omega
theorem sh_len (zs : List Nd) : (zs.flatMap sh).length = zs.length * 6 := by
  induction zs with
  | nil => rfl
  | cons z zs ih => rw [List.flatMap_cons, List.length_append, ih]; simp [sh]; omega
theorem sh_all (xs : List Nd) : ∀ u ∈ xs.flatMap sh, u.oneCell' = true := by
  intro u hu
  obtain ⟨x, _, hx⟩ := List.mem_flatMap.1 hu
  simp [sh] at hx
  rcases hx with rfl | rfl | rfl | rfl | rfl | rfl <;> rfl
theorem sh_set : ∀ (L : List Nd) (j : Nat) (x : Nd), j < L.length →
    ((((((L.flatMap sh).set (j * 6) (.int .i64 x.1.op)).set (j * 6 + 1) (.int .i64 x.1.n)).set (j * 6 + 2) (.int .i64 x.1.v.k)).set (j * 6 + 3) (.int .i64 x.1.v.n)).set (j * 6 + 4) (.string x.1.v.s)).set (j * 6 + 5) (.slice x.2.1 x.1.args.length x.2.2) = (L.set j x).flatMap sh
  | [], j, x, h => by simp at h
  | z :: L, 0, x, _ => by simp [sh]
  | z :: L, j + 1, x, h => by
    have ih := sh_set L j x (by simpa using h)
    rw [List.set_cons_succ, List.flatMap_cons, List.flatMap_cons, ← ih]
    simp only [sh, List.cons_append, List.nil_append]
    have e : ∀ k, (j + 1) * 6 + k = (j * 6 + k) + 1 + 1 + 1 + 1 + 1 + 1 := by omega
    have e0 : (j + 1) * 6 = j * 6 + 1 + 1 + 1 + 1 + 1 + 1 := by omega
    rw [e 1, e 2, e 3, e 4, e 5, e0]
    simp only [List.set_cons_succ]
theorem OwnE.len {w : World} {base g N cap : Nat} {L : List Nd} (h : OwnE w base (.slice (some ⟨g, 0, none⟩) N cap) L) : N = L.length := by
  rcases h.2 with ⟨e, _⟩ | ⟨g', cap', cur, e, _⟩
  · cases e
  · injection e
theorem OwnE.put {w : World} {base g N cap j : Nat} {L : List Nd} (h : OwnE w base (.slice (some ⟨g, 0, none⟩) N cap) L) (hj : j < L.length) (x : Nd) :
    OwnE ((((((w.setCell ⟨g, j * 6, none⟩ (.int .i64 x.1.op)).setCell ⟨g, j * 6 + 1, none⟩ (.int .i64 x.1.n)).setCell ⟨g, j * 6 + 2, none⟩ (.int .i64 x.1.v.k)).setCell ⟨g, j * 6 + 3, none⟩ (.int .i64 x.1.v.n)).setCell ⟨g, j * 6 + 4, none⟩ (.string x.1.v.s)).setCell ⟨g, j * 6 + 5, none⟩ (.slice x.2.1 x.1.args.length x.2.2)) base (.slice (some ⟨g, 0, none⟩) N cap) (L.set j x) := by
  have hN := h.len
  subst hN
  have h1 := (World.ownsRow.stored h (j * 6) (.int .i64 x.1.op)).1
  have h2 := (World.ownsRow.stored h1 (j * 6 + 1) (.int .i64 x.1.n)).1
  have h3 := (World.ownsRow.stored h2 (j * 6 + 2) (.int .i64 x.1.v.k)).1
  have h4 := (World.ownsRow.stored h3 (j * 6 + 3) (.int .i64 x.1.v.n)).1
  have h5 := (World.ownsRow.stored h4 (j * 6 + 4) (.string x.1.v.s)).1
  have h6 := (World.ownsRow.stored h5 (j * 6 + 5) (.slice x.2.1 x.1.args.length x.2.2)).1
  rw [sh_set L j x hj] at h6
  unfold OwnE
  rw [List.length_set]
  exact h6
/-- The six cells of a node in a block. -/
def Cells6 (w : World) (b off : Nat) (q : Nd) : Prop := w.cell? ⟨b, off, none⟩ = some (.int .i64 q.1.op) ∧ w.cell? ⟨b, off + 1, none⟩ = some (.int .i64 q.1.n) ∧ w.cell? ⟨b, off + 2, none⟩ = some (.int .i64 q.1.v.k) ∧ w.cell? ⟨b, off + 3, none⟩ = some (.int .i64 q.1.v.n) ∧ w.cell? ⟨b, off + 4, none⟩ = some (.string q.1.v.s) ∧ w.cell? ⟨b, off + 5, none⟩ = some (.slice q.2.1 q.1.args.length q.2.2)
theorem OwnE.facts {w : World} {base g N cap j : Nat} {L : List Nd} {x : Nd} (h : OwnE w base (.slice (some ⟨g, 0, none⟩) N cap) L) (hj : L[j]? = some x) :
    Cells6 w g (j * 6) x ∧ (w.frozen? ⟨g, j * 6, none⟩ = false ∧ w.frozen? ⟨g, j * 6 + 1, none⟩ = false ∧ w.frozen? ⟨g, j * 6 + 2, none⟩ = false ∧ w.frozen? ⟨g, j * 6 + 3, none⟩ = false ∧ w.frozen? ⟨g, j * 6 + 4, none⟩ = false ∧ w.frozen? ⟨g, j * 6 + 5, none⟩ = false) := by
  have hN := h.len
  subst hN
  have hl := (List.getElem?_eq_some_iff.1 hj).1
  refine ⟨⟨?_, ?_, ?_, ?_, ?_, ?_⟩, World.ownsRow.frozenAt h _, World.ownsRow.frozenAt h _, World.ownsRow.frozenAt h _, World.ownsRow.frozenAt h _, World.ownsRow.frozenAt h _, World.ownsRow.frozenAt h _⟩
  · rw [World.ownsRow.cellAt h (j * 6) (by omega)]; exact sh_at L j 0 x hj (by omega)
  · rw [World.ownsRow.cellAt h (j * 6 + 1) (by omega)]; exact sh_at L j 1 x hj (by omega)
  · rw [World.ownsRow.cellAt h (j * 6 + 2) (by omega)]; exact sh_at L j 2 x hj (by omega)
  · rw [World.ownsRow.cellAt h (j * 6 + 3) (by omega)]; exact sh_at L j 3 x hj (by omega)
  · rw [World.ownsRow.cellAt h (j * 6 + 4) (by omega)]; exact sh_at L j 4 x hj (by omega)
  · rw [World.ownsRow.cellAt h (j * 6 + 5) (by omega)]; exact sh_at L j 5 x hj (by omega)
theorem OwnE.some {w : World} {base n cap : Nat} {a : Option Addr} {L : List Nd} (h : OwnE w base (.slice a n cap) L) (hl : 0 < L.length) : ∃ g, a = some ⟨g, 0, none⟩ ∧ base ≤ g ∧ g < w.heap.size := by
  rcases h.2 with ⟨_, h0⟩ | ⟨g, cap', cur, e, hb, hg, _⟩
  · omega
  · injection e with e
    exact ⟨g, e, hb, (Array.getElem?_eq_some_iff.1 hg).1⟩
theorem OwnE.slice {w : World} {base : Nat} {v : Value} {L : List Nd} (h : OwnE w base v L) : ∃ a cap, v = .slice a L.length cap := by
  rcases h.2 with ⟨rfl, h0⟩ | ⟨g, cap, cur, rfl, _⟩
  · have : L = [] := List.eq_nil_of_length_eq_zero h0
    subst this
    exact ⟨none, 0, rfl⟩
  · exact ⟨_, cap, rfl⟩
/-- The parts of nodes that lie in memory, as they are there. -/
theorem all_nodes {w : World} : ∀ (l : List Ex) (a : Option Addr), Ex.all w a l → ∃ L : List Nd, L.map (·.1) = l ∧ (∀ q ∈ L, Ex.all w q.2.1 q.1.args) ∧ (l = [] ∨ ∃ b off, a = some ⟨b, off, none⟩ ∧ ∀ i q, L[i]? = some q → Cells6 w b (off + i * 6) q)
  | [], a, _ => ⟨[], rfl, by simp, .inl rfl⟩
  | e :: l, a, h => by
    rw [Ex.all] at h
    obtain ⟨b, off, rfl, h1, h2⟩ := h
    obtain ⟨a', c', hc, ha⟩ := Ex.at_open h1
    obtain ⟨L, g1, g2, g3⟩ := all_nodes l _ h2
    refine ⟨(e, a', c') :: L, by simp [g1], ?_, .inr ⟨b, off, rfl, ?_⟩⟩
    · intro q hq
      rcases List.mem_cons.1 hq with rfl | hq
      · exact ha
      · exact g2 q hq
    · intro i q hq
      cases i with
      | zero =>
        simp at hq
        subst hq
        simpa [Cells6] using hc
      | succ i =>
        rcases g3 with rfl | ⟨b', off', e', g3⟩
        · have : L = [] := by cases L with
            | nil => rfl
            | cons _ _ => simp at g1
          subst this
          simp at hq
        · injection e' with e'
          injection e' with e1 e2
          subst e1 e2
          have := g3 i q (by simpa using hq)
          rw [show off + (i + 1) * 6 = off + 6 + i * 6 by omega]
          exact this
theorem nodes_cells {w : World} {b off : Nat} {L : List Nd} (h : ∀ i q, L[i]? = some q → Cells6 w b (off + i * 6) q) : ∀ j u, (L.flatMap sh)[j]? = some u → w.cell? ((⟨b, off, none⟩ : Addr).add j) = some u := by
  intro j u hj
  rw [Addr.add_lit]
  have hlt : j < L.length * 6 := by rw [← sh_len]; exact (List.getElem?_eq_some_iff.1 hj).1
  obtain ⟨x, hx⟩ : ∃ x, L[j / 6]? = some x := ⟨_, List.getElem?_eq_getElem (by omega)⟩
  have hf := sh_at L (j / 6) (j % 6) x hx (by omega)
  rw [show j / 6 * 6 + j % 6 = j by omega, hj] at hf
  obtain ⟨h0, h1, h2, h3, h4, h5⟩ := h (j / 6) x hx
  have h6 : j % 6 = 0 ∨ j % 6 = 1 ∨ j % 6 = 2 ∨ j % 6 = 3 ∨ j % 6 = 4 ∨ j % 6 = 5 := by omega
  rcases h6 with h6 | h6 | h6 | h6 | h6 | h6 <;> rw [h6] at hf <;> simp [sh] at hf <;> subst hf
  · rw [show off + j = off + j / 6 * 6 by omega]; exact h0
  · rw [show off + j = off + j / 6 * 6 + 1 by omega]; exact h1
  · rw [show off + j = off + j / 6 * 6 + 2 by omega]; exact h2
  · rw [show off + j = off + j / 6 * 6 + 3 by omega]; exact h3
  · rw [show off + j = off + j / 6 * 6 + 4 by omega]; exact h4
  · rw [show off + j = off + j / 6 * 6 + 5 by omega]; exact h5
/-- What lies in the blocks from lo on, whatever becomes of the others. -/
def ExK (lo : Nat) (w : World) (a : Option Addr) (l : List Ex) : Prop := ∀ W', Kept lo [] w W' → Ex.all W' a l
theorem ExK.now {lo : Nat} {w : World} {a : Option Addr} {l : List Ex} (h : ExK lo w a l) : Ex.all w a l := h w (Kept.refl _ _ _)
theorem ExK.on {lo : Nat} {w w' : World} {a : Option Addr} {l : List Ex} (h : ExK lo w a l) (hk : Kept lo [] w w') : ExK lo w' a l := fun W' hW => h W' (hk.trans hW)
theorem ExK.more {lo lo' : Nat} {w : World} {a : Option Addr} {l : List Ex} (h : ExK lo w a l) (hl : lo' ≤ lo) : ExK lo' w a l := fun W' hW => h W' (hW.more hl (by simp))
theorem ownE_all {w : World} {base g N cap : Nat} {L : List Nd} (h : OwnE w base (.slice (some ⟨g, 0, none⟩) N cap) L) (hL : ∀ q ∈ L, Ex.all w q.2.1 q.1.args) : Ex.all w (some ⟨g, 0, none⟩) (L.map (·.1)) := by
  refine Ex.all_of _ 0 fun i e he => ?_
  obtain ⟨q, hq, rfl⟩ : ∃ q, L[i]? = some q ∧ q.1 = e := by
    rw [List.getElem?_map] at he
    cases hq : L[i]? with
    | none => rw [hq] at he; cases he
    | some q => rw [hq] at he; exact ⟨q, rfl, by simpa using he⟩
  have hc := (h.facts hq).1
  rw [show 0 + i * 6 = i * 6 by omega]
  exact Ex.at_mk hc (hL q (List.mem_of_getElem? hq))
theorem ownE_kept {w W' : World} {base g N cap lo : Nat} {L : List Nd} (h : OwnE w base (.slice (some ⟨g, 0, none⟩) N cap) L) (hk : Kept lo [] w W') (hg : lo ≤ g) (hL : ∀ q ∈ L, Ex.all W' q.2.1 q.1.args) : Ex.all W' (some ⟨g, 0, none⟩) (L.map (·.1)) := by
  refine Ex.all_of _ 0 fun i e he => ?_
  obtain ⟨q, hq, rfl⟩ : ∃ q, L[i]? = some q ∧ q.1 = e := by
    rw [List.getElem?_map] at he
    cases hq : L[i]? with
    | none => rw [hq] at he; cases he
    | some q => rw [hq] at he; exact ⟨q, rfl, by simpa using he⟩
  obtain ⟨h0, h1, h2, h3, h4, h5⟩ := (h.facts hq).1
  rw [show 0 + i * 6 = i * 6 by omega]
  exact Ex.at_mk ⟨Kept.cell h0 hk hg (by simp), Kept.cell h1 hk hg (by simp), Kept.cell h2 hk hg (by simp), Kept.cell h3 hk hg (by simp), Kept.cell h4 hk hg (by simp), Kept.cell h5 hk hg (by simp)⟩ (hL q (List.mem_of_getElem? hq))
theorem Kept.of_low (w : World) {lo : Nat} (N : List Nat) {B : Nat} (o : Nat) (v : Value) (h : B < lo) : Kept lo N w (w.setCell ⟨B, o, none⟩ v) :=
  ⟨by simp [World.setCell], fun b h1 _ _ => Below.heap_setCell _ _ _ _ (fun e => by have e2 : b = B := e; omega)⟩
/-- What a function that makes nodes does. -/
def By (W : World) (F : Value) (g : Ex → Ex) (P : Ex → Prop) : Prop := ∃ n k, F = .func (.func n) #[] k ∧ Enters n ∧ ∀ W' (lo : Nat) (e : Ex) (a : Option Addr) (c : Nat), Below W.heap.size W W' → lo ≤ W'.heap.size → P e → ExK lo W' a e.args →
  Calls Tryz.prog n (#[e.val a c] ++ k) W' fun r w' => ∃ a2 c2, r = .returned ((g e).val a2 c2) ∧ ExK lo w' a2 (g e).args ∧ Below W'.heap.size W' w'
theorem By.later {W W' : World} {F : Value} {g : Ex → Ex} {P : Ex → Prop} (h : By W F g P) (hb : Below W.heap.size W W') : By W' F g P := by
  obtain ⟨n, k, h1, h2, h3⟩ := h
  exact ⟨n, k, h1, h2, fun W2 lo e a c hW => h3 W2 lo e a c (below_step hb hW)⟩
end Go.Proofs.YtcpndojkfngioaaGreat
set_option linter.unusedSimpArgs false
set_option linter.unusedVariables false
namespace Go.Proofs.YtcpndojkfngioaaGreat
open Go.RowKit Go.Sort

theorem all_none {w : World} {l : List Ex} (h : Ex.all w none l) : l = [] := by
  cases l with
  | nil => rfl
  | cons e l => rw [Ex.all] at h; obtain ⟨b, off, h, _⟩ := h; cases h
/-- While the parts are made: those ahead of k are, the others are as they were. -/
def MInv (g : Ex → Ex) (L0 : List Nd) (B gb n cap : Nat) (W1 : World) (k : Nat) (wr : World) : Prop := ∃ L : List Nd, OwnE wr B (.slice (some ⟨gb, 0, none⟩) n cap) L ∧ L.length = L0.length ∧ (∀ i, k ≤ i → L[i]? = L0[i]?) ∧ (∀ i q q0, i < k → L[i]? = some q → L0[i]? = some q0 → q.1 = madeE g q0.1 ∧ ExK (gb + 1) wr q.2.1 q.1.args) ∧ Below B W1 wr
theorem MInv.load {g : Ex → Ex} {L0 : List Nd} {B gb n cap k : Nat} {W1 wr : World} {q0 : Nd} (h : MInv g L0 B gb n cap W1 k wr) (hq0 : L0[k]? = some q0) : Cells6 wr gb (k * 6) q0 := by
  obtain ⟨L, h1, h2, h3, h4, h5⟩ := h
  exact (h1.facts (by rw [h3 k (Nat.le_refl _)]; exact hq0)).1
theorem MInv.may {g : Ex → Ex} {L0 : List Nd} {B gb n cap k : Nat} {W1 wr w2 : World} {q0 : Nd} (h : MInv g L0 B gb n cap W1 k wr) (hb : Below wr.heap.size wr w2) (hq0 : L0[k]? = some q0) :
    Cells6 w2 gb (k * 6) q0 ∧ (w2.frozen? ⟨gb, k * 6, none⟩ = false ∧ w2.frozen? ⟨gb, k * 6 + 1, none⟩ = false ∧ w2.frozen? ⟨gb, k * 6 + 2, none⟩ = false ∧ w2.frozen? ⟨gb, k * 6 + 3, none⟩ = false ∧ w2.frozen? ⟨gb, k * 6 + 4, none⟩ = false ∧ w2.frozen? ⟨gb, k * 6 + 5, none⟩ = false) := by
  obtain ⟨L, h1, h2, h3, h4, h5⟩ := h
  exact (h1.later hb).facts (by rw [h3 k (Nat.le_refl _)]; exact hq0)
theorem MInv.step {g : Ex → Ex} {L0 : List Nd} {B gb n cap k lo : Nat} {W1 wr w2 : World} {q q0 : Nd} (h : MInv g L0 B gb n cap W1 k wr) (hb : Below wr.heap.size wr w2) (hq0 : L0[k]? = some q0) (hx : q.1 = madeE g q0.1) (hk : ExK lo w2 q.2.1 q.1.args) (hlo : gb < lo) (hB : B ≤ gb) (hBr : B ≤ wr.heap.size) :
    MInv g L0 B gb n cap W1 (k + 1) ((((((w2.setCell ⟨gb, k * 6, none⟩ (.int .i64 q.1.op)).setCell ⟨gb, k * 6 + 1, none⟩ (.int .i64 q.1.n)).setCell ⟨gb, k * 6 + 2, none⟩ (.int .i64 q.1.v.k)).setCell ⟨gb, k * 6 + 3, none⟩ (.int .i64 q.1.v.n)).setCell ⟨gb, k * 6 + 4, none⟩ (.string q.1.v.s)).setCell ⟨gb, k * 6 + 5, none⟩ (.slice q.2.1 q.1.args.length q.2.2)) := by
  obtain ⟨L, h1, h2, h3, h4, h5⟩ := h
  have hkl := (List.getElem?_eq_some_iff.1 hq0).1
  have hKs : Kept (gb + 1) [] w2 ((((((w2.setCell ⟨gb, k * 6, none⟩ (.int .i64 q.1.op)).setCell ⟨gb, k * 6 + 1, none⟩ (.int .i64 q.1.n)).setCell ⟨gb, k * 6 + 2, none⟩ (.int .i64 q.1.v.k)).setCell ⟨gb, k * 6 + 3, none⟩ (.int .i64 q.1.v.n)).setCell ⟨gb, k * 6 + 4, none⟩ (.string q.1.v.s)).setCell ⟨gb, k * 6 + 5, none⟩ (.slice q.2.1 q.1.args.length q.2.2)) :=
    (((((Kept.of_low _ _ _ _ (by omega)).trans (Kept.of_low _ _ _ _ (by omega))).trans (Kept.of_low _ _ _ _ (by omega))).trans (Kept.of_low _ _ _ _ (by omega))).trans (Kept.of_low _ _ _ _ (by omega))).trans (Kept.of_low _ _ _ _ (by omega))
  refine ⟨L.set k q, (h1.later hb).put (by omega) q, by rw [List.length_set]; exact h2, ?_, ?_, ?_⟩
  · intro i hi
    rw [List.getElem?_set_ne (by omega)]
    exact h3 i (by omega)
  · intro i y y0 hi hy hy0
    by_cases hik : i = k
    · subst hik
      rw [List.getElem?_set_self (by omega)] at hy
      injection hy with hy
      rw [hq0] at hy0
      injection hy0 with hy0
      subst hy hy0
      exact ⟨hx, (hk.more (by omega)).on hKs⟩
    · rw [List.getElem?_set_ne (by omega)] at hy
      obtain ⟨g1, g2⟩ := h4 i y y0 (by omega) hy hy0
      exact ⟨g1, (g2.on (Kept.of_below _ _ hb)).on hKs⟩
  · have hb2 : Below B wr w2 := hb.mono hBr
    exact ((((((h5.trans hb2).setCell (by exact hB) _).setCell (by exact hB) _).setCell (by exact hB) _).setCell (by exact hB) _).setCell (by exact hB) _).setCell (by exact hB) _
theorem MInv.below {g : Ex → Ex} {L0 : List Nd} {B gb n cap k : Nat} {W1 wr : World} (h : MInv g L0 B gb n cap W1 k wr) : Below B W1 wr := by
  obtain ⟨L, h1, h2, h3, h4, h5⟩ := h
  exact h5
theorem MInv.done {g : Ex → Ex} {L0 : List Nd} {B gb n cap lo : Nat} {W1 wr : World} (h : MInv g L0 B gb n cap W1 L0.length wr) (hlo : lo ≤ gb) : ExK lo wr (some ⟨gb, 0, none⟩) (L0.map fun q => madeE g q.1) := by
  obtain ⟨L, h1, h2, h3, h4, h5⟩ := h
  intro W' hW
  have e : L0.map (fun q => madeE g q.1) = L.map (·.1) := by
    apply List.ext_getElem?
    intro i
    rw [List.getElem?_map, List.getElem?_map]
    by_cases hi : i < L0.length
    · rw [List.getElem?_eq_getElem hi, List.getElem?_eq_getElem (by omega : i < L.length)]
      have := (h4 i _ _ hi (List.getElem?_eq_getElem (by omega : i < L.length)) (List.getElem?_eq_getElem hi)).1
      simp only [Option.map_some]
      rw [this]
    · rw [List.getElem?_eq_none (by omega), List.getElem?_eq_none (by omega)]
      rfl
  rw [e]
  refine ownE_kept h1 hW hlo fun q hq => ?_
  obtain ⟨i, hi⟩ := List.getElem?_of_mem hq
  have hil := (List.getElem?_eq_some_iff.1 hi).1
  exact (h4 i q _ (by omega) hi (List.getElem?_eq_getElem (by omega : i < L0.length))).2 W' (hW.more (by omega) (by simp))
end Go.Proofs.YtcpndojkfngioaaGreat
set_option linter.unusedSimpArgs false
set_option linter.unusedVariables false
namespace Go.Proofs.YtcpndojkfngioaaGreat
open Go.RowKit Go.Sort

/-- Every node will do. -/
def allE (_ : Ex) : Bool := true
/-- A copy, where it isn't too large for one. -/
def copyT (e : Ex) : Ex := if (measE allE e 33554432 131072).2.2 then copyE e else e
/-- What lies in elder blocks, or in those from w on but N, whatever becomes of those. -/
def ExL (w : World) (N : List Nat) (w' : World) (a : Option Addr) (l : List Ex) : Prop := ∀ W', Below w.heap.size w W' → Kept w.heap.size N w' W' → Ex.all W' a l
end Go.Proofs.YtcpndojkfngioaaGreat

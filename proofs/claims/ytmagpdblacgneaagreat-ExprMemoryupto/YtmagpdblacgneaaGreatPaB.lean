import Derived.Test.YtmagpdblacgneaaGreatExC
import Derived.Test.YtmagpdblacgneaaGreatExE
import Derived.Maps.AppendAt
import Derived.Laws.AppendOwnNone
import Derived.Lib.SliceRun
import Derived.Test.YtmagpdblacgneaaGreatCellC
import Derived.OrdersHeld
import Derived.Deep.RegionHeld3
set_option linter.unusedSimpArgs false
set_option linter.unusedVariables false
namespace Go.Proofs.YtmagpdblacgneaaGreat
open Go.RowKit Go.Sort

/-- A node, and where its parts lie. -/
abbrev Nd := Ex × Option Addr × Nat
def sh (q : Nd) : List Value := [.int .i64 q.1.op, .int .i64 q.1.n, .int .i64 q.1.v.k, .int .i64 q.1.v.n, .string q.1.v.s, .slice q.2.1 q.1.args.length q.2.2]
theorem info26 : (Tryz.prog.info? 26).map (fun i => (i.zero, i.size, i.bytes)) = some (some (.agg #[.int .i64 0, .int .i64 0, .int .i64 0, .int .i64 0, .string ⟨#[]⟩, .slice none 0 0]), 6, 72) := by kernel_rfl
/-- The slice of expressions v, a row of the call's own, holds L. -/
def OwnE (w : World) (base : Nat) (v : Value) (L : List Nd) : Prop := w.ownsRow base 26 6 v L.length (L.flatMap sh)
theorem OwnE.later {w w1 : World} {base : Nat} {v : Value} {xs : List Nd} (h : OwnE w base v xs) (hb : Below w.heap.size w w1) : OwnE w1 base v xs := own_later h hb
theorem sh_at : ∀ (zs : List Nd) (i j : Nat) (x : Nd), zs[i]? = some x → j < 6 → (zs.flatMap sh)[i * 6 + j]? = (sh x)[j]?
  | [], i, j, x, h, _ => by simp at h
  | z :: zs, 0, j, x, h, hj => by
    simp at h
    subst h
    rw [List.flatMap_cons, List.getElem?_append_left (by simp [sh]; omega)]
    simp
  | z :: zs, i + 1, j, x, h, hj => by
    have ih := sh_at zs i j x (by simpa using h) hj
    rw [List.flatMap_cons, List.getElem?_append_right (by simp [sh]; omega)]
    rw [← ih]
    congr 1
    simp [sh]
    omega
theorem sh_len (zs : List Nd) : (zs.flatMap sh).length = zs.length * 6 := by
  induction zs with
  | nil => rfl
  | cons z zs ih => rw [List.flatMap_cons, List.length_append, ih]; simp [sh]; omega
theorem sh_all (xs : List Nd) : ∀ u ∈ xs.flatMap sh, u.oneCell' = true := by
  intro u hu
  obtain ⟨x, _, hx⟩ := List.mem_flatMap.1 hu
  simp [sh] at hx
  rcases hx with rfl | rfl | rfl | rfl | rfl | rfl <;> rfl
theorem sh_set : ∀ (L : List Nd) (j : Nat) (x : Nd), j < L.length →
    ((((((L.flatMap sh).set (j * 6) (.int .i64 x.1.op)).set (j * 6 + 1) (.int .i64 x.1.n)).set (j * 6 + 2) (.int .i64 x.1.v.k)).set (j * 6 + 3) (.int .i64 x.1.v.n)).set (j * 6 + 4) (.string x.1.v.s)).set (j * 6 + 5) (.slice x.2.1 x.1.args.length x.2.2) = (L.set j x).flatMap sh
  | [], j, x, h => by simp at h
  | z :: L, 0, x, _ => by simp [sh]
  | z :: L, j + 1, x, h => by
    have ih := sh_set L j x (by simpa using h)
    rw [List.set_cons_succ, List.flatMap_cons, List.flatMap_cons, ← ih]
    simp only [sh, List.cons_append, List.nil_append]
    have e : ∀ k, (j + 1) * 6 + k = (j * 6 + k) + 1 + 1 + 1 + 1 + 1 + 1 := by omega
    have e0 : (j + 1) * 6 = j * 6 + 1 + 1 + 1 + 1 + 1 + 1 := by omega
    rw [e 1, e 2, e 3, e 4, e 5, e0]
    simp only [List.set_cons_succ]
theorem OwnE.len {w : World} {base g N cap : Nat} {L : List Nd} (h : OwnE w base (.slice (some ⟨g, 0, none⟩) N cap) L) : N = L.length := by
  rcases h.2 with ⟨e, _⟩ | ⟨g', cap', cur, e, _⟩
  · cases e
  · injection e
theorem OwnE.put {w : World} {base g N cap j : Nat} {L : List Nd} (h : OwnE w base (.slice (some ⟨g, 0, none⟩) N cap) L) (hj : j < L.length) (x : Nd) :
    OwnE ((((((w.setCell ⟨g, j * 6, none⟩ (.int .i64 x.1.op)).setCell ⟨g, j * 6 + 1, none⟩ (.int .i64 x.1.n)).setCell ⟨g, j * 6 + 2, none⟩ (.int .i64 x.1.v.k)).setCell ⟨g, j * 6 + 3, none⟩ (.int .i64 x.1.v.n)).setCell ⟨g, j * 6 + 4, none⟩ (.string x.1.v.s)).setCell ⟨g, j * 6 + 5, none⟩ (.slice x.2.1 x.1.args.length x.2.2)) base (.slice (some ⟨g, 0, none⟩) N cap) (L.set j x) := by
  have hN := h.len
  subst hN
  have h1 := (World.ownsRow.stored h (j * 6) (.int .i64 x.1.op)).1
  have h2 := (World.ownsRow.stored h1 (j * 6 + 1) (.int .i64 x.1.n)).1
  have h3 := (World.ownsRow.stored h2 (j * 6 + 2) (.int .i64 x.1.v.k)).1
  have h4 := (World.ownsRow.stored h3 (j * 6 + 3) (.int .i64 x.1.v.n)).1
  have h5 := (World.ownsRow.stored h4 (j * 6 + 4) (.string x.1.v.s)).1
  have h6 := (World.ownsRow.stored h5 (j * 6 + 5) (.slice x.2.1 x.1.args.length x.2.2)).1
  rw [sh_set L j x hj] at h6
  unfold OwnE
  rw [List.length_set]
  exact h6
/-- The six cells of a node in a block. -/
def Cells6 (w : World) (b off : Nat) (q : Nd) : Prop := w.cell? ⟨b, off, none⟩ = some (.int .i64 q.1.op) ∧ w.cell? ⟨b, off + 1, none⟩ = some (.int .i64 q.1.n) ∧ w.cell? ⟨b, off + 2, none⟩ = some (.int .i64 q.1.v.k) ∧ w.cell? ⟨b, off + 3, none⟩ = some (.int .i64 q.1.v.n) ∧ w.cell? ⟨b, off + 4, none⟩ = some (.string q.1.v.s) ∧ w.cell? ⟨b, off + 5, none⟩ = some (.slice q.2.1 q.1.args.length q.2.2)
theorem OwnE.facts {w : World} {base g N cap j : Nat} {L : List Nd} {x : Nd} (h : OwnE w base (.slice (some ⟨g, 0, none⟩) N cap) L) (hj : L[j]? = some x) :
    Cells6 w g (j * 6) x ∧ (w.frozen? ⟨g, j * 6, none⟩ = false ∧ w.frozen? ⟨g, j * 6 + 1, none⟩ = false ∧ w.frozen? ⟨g, j * 6 + 2, none⟩ = false ∧ w.frozen? ⟨g, j * 6 + 3, none⟩ = false ∧ w.frozen? ⟨g, j * 6 + 4, none⟩ = false ∧ w.frozen? ⟨g, j * 6 + 5, none⟩ = false) := by
  have hN := h.len
  subst hN
  have hl := (List.getElem?_eq_some_iff.1 hj).1
  refine ⟨⟨?_, ?_, ?_, ?_, ?_, ?_⟩, World.ownsRow.frozenAt h _, World.ownsRow.frozenAt h _, World.ownsRow.frozenAt h _, World.ownsRow.frozenAt h _, World.ownsRow.frozenAt h _, World.ownsRow.frozenAt h _⟩
  · rw [World.ownsRow.cellAt h (j * 6) (by omega)]; exact sh_at L j 0 x hj (by omega)
  · rw [World.ownsRow.cellAt h (j * 6 + 1) (by omega)]; exact sh_at L j 1 x hj (by omega)
  · rw [World.ownsRow.cellAt h (j * 6 + 2) (by omega)]; exact sh_at L j 2 x hj (by omega)
  · rw [World.ownsRow.cellAt h (j * 6 + 3) (by omega)]; exact sh_at L j 3 x hj (by omega)
  · rw [World.ownsRow.cellAt h (j * 6 + 4) (by omega)]; exact sh_at L j 4 x hj (by omega)
  · rw [World.ownsRow.cellAt h (j * 6 + 5) (by omega)]; exact sh_at L j 5 x hj (by omega)
theorem OwnE.some {w : World} {base n cap : Nat} {a : Option Addr} {L : List Nd} (h : OwnE w base (.slice a n cap) L) (hl : 0 < L.length) : ∃ g, a = some ⟨g, 0, none⟩ ∧ base ≤ g ∧ g < w.heap.size := by
  rcases h.2 with ⟨_, h0⟩ | ⟨g, cap', cur, e, hb, hg, _⟩
  · omega
  · injection e with e
    exact ⟨g, e, hb, (Array.getElem?_eq_some_iff.1 hg).1⟩
theorem OwnE.slice {w : World} {base : Nat} {v : Value} {L : List Nd} (h : OwnE w base v L) : ∃ a cap, v = .slice a L.length cap := by
  rcases h.2 with ⟨rfl, h0⟩ | ⟨g, cap, cur, rfl, _⟩
  · have : L = [] := List.eq_nil_of_length_eq_zero h0
    subst this
    exact ⟨none, 0, rfl⟩
  · exact ⟨_, cap, rfl⟩
/-- The parts of nodes that lie in memory, as they are there. -/
theorem all_nodes {w : World} : ∀ (l : List Ex) (a : Option Addr), Ex.all w a l → ∃ L : List Nd, L.map (·.1) = l ∧ (∀ q ∈ L, Ex.all w q.2.1 q.1.args) ∧ (l = [] ∨ ∃ b off, a = some ⟨b, off, none⟩ ∧ ∀ i q, L[i]? = some q → Cells6 w b (off + i * 6) q)
  | [], a, _ => ⟨[], rfl, by simp, .inl rfl⟩
  | e :: l, a, h => by
    rw [Ex.all] at h
    obtain ⟨b, off, rfl, h1, h2⟩ := h
    obtain ⟨a', c', hc, ha⟩ := Ex.at_open h1
    obtain ⟨L, g1, g2, g3⟩ := all_nodes l _ h2
    refine ⟨(e, a', c') :: L, by simp [g1], ?_, .inr ⟨b, off, rfl, ?_⟩⟩
    · intro q hq
      rcases List.mem_cons.1 hq with rfl | hq
      · exact ha
      · exact g2 q hq
    · intro i q hq
      cases i with
      | zero =>
        simp at hq
        subst hq
        simpa [Cells6] using hc
      | succ i =>
        rcases g3 with rfl | ⟨b', off', e', g3⟩
        · have : L = [] := by cases L with
            | nil => rfl
            | cons _ _ => simp at g1
          subst this
          simp at hq
        · injection e' with e'
          injection e' with e1 e2
          subst e1 e2
          have := g3 i q (by simpa using hq)
          rw [show off + (i + 1) * 6 = off + 6 + i * 6 by omega]
          exact this
theorem nodes_cells {w : World} {b off : Nat} {L : List Nd} (h : ∀ i q, L[i]? = some q → Cells6 w b (off + i * 6) q) : ∀ j u, (L.flatMap sh)[j]? = some u → w.cell? ((⟨b, off, none⟩ : Addr).add j) = some u := by
  intro j u hj
  rw [Addr.add_lit]
  have hlt : j < L.length * 6 := by rw [← sh_len]; exact (List.getElem?_eq_some_iff.1 hj).1
  obtain ⟨x, hx⟩ : ∃ x, L[j / 6]? = some x := ⟨_, List.getElem?_eq_getElem (by omega)⟩
  have hf := sh_at L (j / 6) (j % 6) x hx (by omega)
  rw [show j / 6 * 6 + j % 6 = j by omega, hj] at hf
  obtain ⟨h0, h1, h2, h3, h4, h5⟩ := h (j / 6) x hx
  have h6 : j % 6 = 0 ∨ j % 6 = 1 ∨ j % 6 = 2 ∨ j % 6 = 3 ∨ j % 6 = 4 ∨ j % 6 = 5 := by omega
  rcases h6 with h6 | h6 | h6 | h6 | h6 | h6 <;> rw [h6] at hf <;> simp [sh] at hf <;> subst hf
  · rw [show off + j = off + j / 6 * 6 by omega]; exact h0
  · rw [show off + j = off + j / 6 * 6 + 1 by omega]; exact h1
  · rw [show off + j = off + j / 6 * 6 + 2 by omega]; exact h2
  · rw [show off + j = off + j / 6 * 6 + 3 by omega]; exact h3
  · rw [show off + j = off + j / 6 * 6 + 4 by omega]; exact h4
  · rw [show off + j = off + j / 6 * 6 + 5 by omega]; exact h5
theorem ownE_all {w : World} {base g N cap : Nat} {L : List Nd} (h : OwnE w base (.slice (some ⟨g, 0, none⟩) N cap) L) (hL : ∀ q ∈ L, Ex.all w q.2.1 q.1.args) : Ex.all w (some ⟨g, 0, none⟩) (L.map (·.1)) := by
  refine Ex.all_of _ 0 fun i e he => ?_
  obtain ⟨q, hq, rfl⟩ : ∃ q, L[i]? = some q ∧ q.1 = e := by
    rw [List.getElem?_map] at he
    cases hq : L[i]? with
    | none => rw [hq] at he; cases he
    | some q => rw [hq] at he; exact ⟨q, rfl, by simpa using he⟩
  have hc := (h.facts hq).1
  rw [show 0 + i * 6 = i * 6 by omega]
  exact Ex.at_mk hc (hL q (List.mem_of_getElem? hq))
theorem ownE_kept {w W' : World} {base g N cap lo : Nat} {L : List Nd} (h : OwnE w base (.slice (some ⟨g, 0, none⟩) N cap) L) (hk : Kept lo [] w W') (hg : lo ≤ g) (hL : ∀ q ∈ L, Ex.all W' q.2.1 q.1.args) : Ex.all W' (some ⟨g, 0, none⟩) (L.map (·.1)) := by
  refine Ex.all_of _ 0 fun i e he => ?_
  obtain ⟨q, hq, rfl⟩ : ∃ q, L[i]? = some q ∧ q.1 = e := by
    rw [List.getElem?_map] at he
    cases hq : L[i]? with
    | none => rw [hq] at he; cases he
    | some q => rw [hq] at he; exact ⟨q, rfl, by simpa using he⟩
  obtain ⟨h0, h1, h2, h3, h4, h5⟩ := (h.facts hq).1
  rw [show 0 + i * 6 = i * 6 by omega]
  exact Ex.at_mk ⟨Kept.cell h0 hk hg (by simp), Kept.cell h1 hk hg (by simp), Kept.cell h2 hk hg (by simp), Kept.cell h3 hk hg (by simp), Kept.cell h4 hk hg (by simp), Kept.cell h5 hk hg (by simp)⟩ (hL q (List.mem_of_getElem? hq))
theorem own_keepE {w w1 : World} {base e size : Nat} {v : Value} {m : Nat} {xs : List Value} (h : w.ownsRow base e size v m xs) (hb : ∀ g, v.ownBlock = some g → w1.heap[g]? = w.heap[g]?) : w1.ownsRow base e size v m xs := by
  refine ⟨h.1, ?_⟩
  rcases h.2 with h2 | ⟨g, cap, cur, rfl, h3, h4, h5⟩
  · exact .inl h2
  · exact .inr ⟨g, cap, cur, rfl, h3, by rw [hb g rfl]; exact h4, h5⟩
/-- A tree of lists, each in a block of its own, all of F. -/
inductive Ow (w : World) : List Ex → Option Addr → Nat → (Nat → Prop) → Prop
  | nil (F : Nat → Prop) : Ow w [] none 0 F
  | row {g c : Nat} {L : List Nd} {K : Nat → Nat → Prop} {F : Nat → Prop} (h : OwnE w g (.slice (some ⟨g, 0, none⟩) L.length c) L) (hc : ∀ (i : Nat) (q : Nd), L[i]? = some q → Ow w q.1.args q.2.1 q.2.2 (K i)) (hK : ∀ (i : Nat) (q : Nd) b, L[i]? = some q → K i b → b ≠ g ∧ F b) (hd : ∀ (i j : Nat) b, i ≠ j → K i b → K j b → False) (hg : F g) : Ow w (L.map (·.1)) (some ⟨g, 0, none⟩) c F
theorem Ow.all {w : World} {l : List Ex} {a : Option Addr} {c : Nat} {F : Nat → Prop} (h : Ow w l a c F) : Ex.all w a l := by
  induction h with
  | nil F => rw [Ex.all]; trivial
  | row h hc hK hd hg ih => exact ownE_all h fun q hq => by obtain ⟨i, hi⟩ := List.getElem?_of_mem hq; exact ih i q hi
theorem Ow.keep {w w' : World} {l : List Ex} {a : Option Addr} {c : Nat} {F : Nat → Prop} (h : Ow w l a c F) : (∀ b, F b → w'.heap[b]? = w.heap[b]?) → Ow w' l a c F := by
  induction h with
  | nil F => exact fun _ => .nil F
  | @row g c L K F h hc hK hd hg ih => exact fun hk => .row (own_keepE h fun b hb => by simp only [Value.ownBlock, Option.some.injEq] at hb; subst hb; exact hk _ hg) (fun i q hq => ih i q hq fun b hb => hk b (hK i q b hq hb).2) hK hd hg
theorem Ow.wide {w : World} {l : List Ex} {a : Option Addr} {c : Nat} {F G : Nat → Prop} (h : Ow w l a c F) (hG : ∀ b, F b → G b) : Ow w l a c G := by
  cases h with
  | nil F => exact .nil G
  | row h hc hK hd hg => exact .row h hc (fun i q b hq hb => ⟨(hK i q b hq hb).1, hG b (hK i q b hq hb).2⟩) hd (hG _ hg)
/-- What lies in the blocks from lo on, in blocks of its own. -/
def ExK (lo : Nat) (w : World) (a : Option Addr) (c : Nat) (l : List Ex) : Prop := ∃ F, Ow w l a c F ∧ ∀ b, F b → lo ≤ b ∧ b < w.heap.size
theorem ExK.now {lo : Nat} {w : World} {a : Option Addr} {c : Nat} {l : List Ex} (h : ExK lo w a c l) : Ex.all w a l := by obtain ⟨F, h, _⟩ := h; exact h.all
theorem ExK.on {lo : Nat} {w w' : World} {a : Option Addr} {c : Nat} {l : List Ex} (h : ExK lo w a c l) (hk : Kept lo [] w w') : ExK lo w' a c l := by
  obtain ⟨F, h, hF⟩ := h
  exact ⟨F, h.keep fun b hb => hk.block b (hF b hb).1 (hF b hb).2 (by simp), fun b hb => ⟨(hF b hb).1, Nat.lt_of_lt_of_le (hF b hb).2 hk.size⟩⟩
theorem ExK.more {lo lo' : Nat} {w : World} {a : Option Addr} {c : Nat} {l : List Ex} (h : ExK lo w a c l) (hl : lo' ≤ lo) : ExK lo' w a c l := by
  obtain ⟨F, h, hF⟩ := h
  exact ⟨F, h, fun b hb => ⟨Nat.le_trans hl (hF b hb).1, (hF b hb).2⟩⟩
theorem ExK.nil (lo : Nat) (w : World) : ExK lo w none 0 [] := ⟨fun _ => False, .nil _, fun b h => h.elim⟩
/-- A list of one's own whose members are trees of their own, apart. -/
theorem ExK.row {lo : Nat} {w : World} {base n c : Nat} {a : Option Addr} {L : List Nd} {K : Nat → Nat → Prop} (h : OwnE w base (.slice a n c) L) (hc : ∀ (i : Nat) (q : Nd), L[i]? = some q → Ow w q.1.args q.2.1 q.2.2 (K i)) (hK : ∀ (i : Nat) (q : Nd) b, L[i]? = some q → K i b → lo ≤ b ∧ b < w.heap.size ∧ (Value.slice a n c).ownBlock ≠ some b) (hd : ∀ (i j : Nat) b, i ≠ j → K i b → K j b → False) (hlo : lo ≤ base) : ExK lo w a c (L.map (·.1)) := by
  rcases h with ⟨h1, ⟨e, h0⟩ | ⟨g, cap, cur, e, h3, h4, h5⟩⟩
  · injection e with e1 e2 e3
    subst e1 e3
    obtain rfl : L = [] := List.eq_nil_of_length_eq_zero h0
    exact ExK.nil lo w
  · injection e with e1 e2 e3
    subst e1 e2 e3
    have hgl : g < w.heap.size := (Array.getElem?_eq_some_iff.1 h4).1
    refine ⟨fun b => b = g ∨ ∃ i q, L[i]? = some q ∧ K i b, .row (K := K) ⟨h1, .inr ⟨g, _, cur, rfl, Nat.le_refl _, h4, h5⟩⟩ hc (fun i q b hq hb => ⟨fun e => (hK i q b hq hb).2.2 (by rw [e]; rfl), .inr ⟨i, q, hq, hb⟩⟩) hd (.inl rfl), fun b hb => ?_⟩
    rcases hb with rfl | ⟨i, q, hq, hb⟩
    · exact ⟨Nat.le_trans hlo h3, hgl⟩
    · exact ⟨(hK i q b hq hb).1, (hK i q b hq hb).2.1⟩
set_option maxHeartbeats 2000000 in
set_option maxRecDepth 100000 in
/-- slices.Clone (71) of a list of expressions. -/
theorem eclone_any (a : Option Addr) (c : Nat) (L : List Nd) (w : World) (hl : L.length ≤ 1000000000) (ha : L = [] ∨ ∃ b off, a = some ⟨b, off, none⟩ ∧ ∀ i q, L[i]? = some q → Cells6 w b (off + i * 6) q) (hn : a = none → L = []) :
    Calls Tryz.prog 42 #[.slice a L.length c] w fun e w' => ∃ v, e = .returned v ∧ OwnE w' w.heap.size v L ∧ Below w.heap.size w w' := by
  obtain ⟨i4, hi4, z40, z41, z42⟩ := info_parts info26
  cases a with
  | none =>
    have hx := hn rfl
    subst hx
    clear hn ha
    have hcmp : ∀ w', (binOp .eql 24 (.slice none 0 c) (.slice none 0 0)).run Tryz.prog w' = .ok (.bool true) w' := fun w' => by rw [Go.Lib.run_eql_slice_nil w' 24 26 none 0 c 0 0 Tryz.underlying24]; rfl
    go_enter Tryz.func42, Tryz.ntmps42
    go_wp2
    go_ret
    exact ⟨_, rfl, World.ownsRow_nil _ _ _ _, Below.refl _ _⟩
  | some ad =>
    have hcmp : ∀ w', (binOp .eql 24 (.slice (some ad) L.length c) (.slice none 0 0)).run Tryz.prog w' = .ok (.bool false) w' := fun w' => by rw [Go.Lib.run_eql_slice_nil w' 24 26 _ _ _ 0 0 Tryz.underlying24]; rfl
    have bl := below_alloc (Below.refl _ w) (.cells #[] 26)
    have HA : Hid (∀ j u, (L.flatMap sh)[j]? = some u → (w.alloc (.cells #[] 26)).cell? (ad.add j) = some u) := by
      rcases ha with h0 | ⟨b, off, e, h⟩
      · subst h0
        intro j u hj
        simp at hj
      · injection e with e
        subst e
        exact nodes_cells (fun i q hq => by obtain ⟨h0, h1, h2, h3, h4, h5⟩ := h i q hq; exact ⟨clater h0 bl, clater h1 bl, clater h2 bl, clater h3 bl, clater h4 bl, clater h5 bl⟩)
    clear ha hn
    go_enter Tryz.func42, Tryz.ntmps42
    go_wp2_with (at_builtin; refine wpList_append_own_at _ rfl (.tmp 5) (.tmp 6) 24 rfl w.heap.size 26 i4 (.agg #[.int .i64 0, .int .i64 0, .int .i64 0, .int .i64 0, .string ⟨#[]⟩, .slice none 0 0]) 6 72 Tryz.underlying24 hi4 z40 z41 z42 rfl (by decide) (.slice (some ⟨w.heap.size, 0, none⟩) 0 0) 0 [] rfl ?_ ad L.length c (L.flatMap sh) rfl (sh_len L) (unhide HA) (sh_all L) (by unfold maxLen; omega) (by omega) (by simp) ?_)
    · exact ⟨rfl, .inr ⟨w.heap.size, 0, #[], rfl, Nat.le_refl _, Go.Deep.blk_alloc_new _ _, Nat.le_refl _, Nat.zero_le _, rfl, rfl⟩⟩
    · intro v1 w3 hown1 hgrow1 _ hat1
      have HO : Hid (OwnE w3 w.heap.size v1 L) := by
        show OwnE w3 w.heap.size v1 L
        unfold OwnE
        simpa using hown1
      have HB := hide (bl.trans (grown_below (B := w.heap.size) hgrow1 (by simp) (fun g hg => by simp [Value.ownBlock] at hg; omega)))
      clear hown1 hgrow1 hat1 bl
      go_wp2
      go_ret
      exact ⟨_, rfl, unhide HO, unhide HB⟩
theorem Kept.of_low (w : World) {lo : Nat} (N : List Nat) {B : Nat} (o : Nat) (v : Value) (h : B < lo) : Kept lo N w (w.setCell ⟨B, o, none⟩ v) :=
  ⟨by simp [World.setCell], fun b h1 _ _ => Below.heap_setCell _ _ _ _ (fun e => by have e2 : b = B := e; omega)⟩
/-- What a function that makes nodes does. -/
def By (W : World) (F : Value) (g : Ex → Ex) (P : Ex → Prop) : Prop := ∃ n k, F = .func (.func n) #[] k ∧ Enters n ∧ ∀ W' (lo : Nat) (e : Ex) (a : Option Addr) (c : Nat), Below W.heap.size W W' → lo ≤ W'.heap.size → P e → ExK lo W' a c e.args →
  Calls Tryz.prog n (#[e.val a c] ++ k) W' fun r w' => ∃ a2 c2, r = .returned ((g e).val a2 c2) ∧ ExK lo w' a2 c2 (g e).args ∧ Below W'.heap.size W' w'
theorem By.later {W W' : World} {F : Value} {g : Ex → Ex} {P : Ex → Prop} (h : By W F g P) (hb : Below W.heap.size W W') : By W' F g P := by
  obtain ⟨n, k, h1, h2, h3⟩ := h
  exact ⟨n, k, h1, h2, fun W2 lo e a c hW => h3 W2 lo e a c (below_step hb hW)⟩
end Go.Proofs.YtmagpdblacgneaaGreat
set_option linter.unusedSimpArgs false
set_option linter.unusedVariables false
namespace Go.Proofs.YtmagpdblacgneaaGreat
open Go.RowKit Go.Sort

/-! Loads taken first in a region that overwrites, at its end, what they read: the condition is asked only as long as operation k has not come up. -/
section
variable {P : Program} {ops : Array Oper} {Q : Exit → Act → World → Prop} {md : Region.Mode} {S : World → Prop} {k : Nat}

def anyG (P : Program) (md : Region.Mode) (ops : Array Oper) (Q : Exit → Act → World → Prop) (S : World → Prop) (k : Nat) : Nat → Array Bool → Act → World → Prop
  | 0, L, a, w => Region.ready md ops L = [] ∧ Q .normal a w
  | f + 1, L, a, w => (Region.ready md ops L = [] → Q .normal a w) ∧ ∀ i ∈ Region.ready md ops L, wpOp P ops Q i (fun a' w' => ((L.setIfInBounds i true).getD k true = false → S w') ∧ anyG P md ops Q S k f (L.setIfInBounds i true) a' w') a w

theorem any_of_G : ∀ (f : Nat) (L : Array Bool) (a : Act) (w : World), anyG P md ops Q S k f L a w → wpAny P md ops Q f L a w
  | 0, _, _, _, h => h
  | f + 1, _, _, _, h => ⟨h.1, fun i hi => wpOp_mono (fun a' w' h' => any_of_G f _ a' w' h'.2) (h.2 i hi)⟩

/-- None of K can come up ahead of i. -/
def waits (md : Region.Mode) (ops : Array Oper) (i : Nat) (K : List Nat) : Bool :=
  K.all fun c => match ops[c]? with
    | some o => o.after.any fun e => Region.binds md e && (e.on == i || K.contains e.on)
    | none => true

theorem not_ready {i j : Nat} {K : List Nat} {L : Array Bool} (hw : waits md ops i K = true) (hL : ∀ c ∈ K, L.getD c true = false) (hi : i ∈ Region.ready md ops L) (hj : j ∈ Region.ready md ops L) : j ∉ K := by
  intro hjK
  have un : ∀ c, L.getD c true = false → L.getD c false = true → False := by
    intro c h0 h1
    rcases Nat.lt_or_ge c L.size with h' | h'
    · simp [h'] at h0 h1; rw [h0] at h1; cases h1
    · simp [Array.getElem?_eq_none h'] at h1
  obtain ⟨_, o, ho, hall⟩ := mem_ready.1 hj
  have h1 := List.all_eq_true.1 hw j hjK
  simp only [ho] at h1
  obtain ⟨e, he, hb⟩ : ∃ e, e ∈ o.after ∧ (Region.binds md e && (e.on == i || K.contains e.on)) = true := by
    obtain ⟨n, hn, hb⟩ := Array.any_eq_true.1 h1
    exact ⟨_, Array.getElem_mem hn, hb⟩
  simp only [Bool.and_eq_true, Bool.or_eq_true, beq_iff_eq, List.contains_iff_mem] at hb
  have h2 := hall e he hb.1
  rcases hb.2 with h3 | h3
  · rw [h3] at h2
    exact un _ (mem_ready.1 hi).1 h2
  · exact un _ (hL _ h3) h2

theorem anyG_first {i : Nat} {oi : Oper} {v : Value} {K : List Nat} (hi : ops[i]? = some oi) (hsel : ∀ (j : Nat) (o : Oper) cs b, ops[j]? = some o → o.op ≠ .select cs b)
    (hQ : ∀ c a w, Q (.panic c) (a.put oi.dst v) w → Q (.panic c) a w) (hk : k ∈ K) (hiK : i ∉ K) (hw : waits md ops i K = true) :
    ∀ (f : Nat) (L : Array Bool) (a : Act) (w : World),
      (∀ j oj, ops[j]? = some oj → j ≠ i → L.getD j true = false → (∀ e ∈ oj.after, Region.binds md e = true → e.on ≠ i) → oi.apart ops oj = true) →
      (∀ c ∈ K, L.getD c true = false) → i ∈ Region.ready md ops L → YieldsIf P ops S oi v a → S w →
      anyG P md ops Q S k f (L.setIfInBounds i true) (a.put oi.dst v) w → anyG P md ops Q S k (f + 1) L a w := by
  intro f
  induction f with
  | zero =>
    intro L a w _ _ hr hy hS H
    refine ⟨fun h => (by rw [h] at hr; cases hr), fun j hj => ?_⟩
    by_cases hji : j = i
    · subst hji; exact hy.wpOp hi hS ⟨fun _ => hS, H⟩
    · have := ready_mono hj hji
      rw [H.1] at this
      cases this
  | succ f ih =>
    intro L a w hfree hL hr hy hS H
    refine ⟨fun h => (by rw [h] at hr; cases hr), fun j hj => ?_⟩
    by_cases hji : j = i
    · subst hji; exact hy.wpOp hi hS ⟨fun _ => hS, H⟩
    · have hjK := not_ready hw hL hr hj
      have h1 := H.2 j (ready_mono hj hji)
      obtain ⟨hjun, oj, hoj, hall⟩ := mem_ready.1 hj
      have hnot : ∀ e ∈ oj.after, Region.binds md e = true → e.on ≠ i := fun e he hb heq => by
        have h1 := hall e he hb
        have h0 := (mem_ready.1 hr).1
        rw [heq] at h1
        rcases Nat.lt_or_ge i L.size with h' | h'
        · simp [h'] at h0 h1; rw [h0] at h1; cases h1
        · simp [Array.getElem?_eq_none h'] at h1
      have h2 := wpOp_putIf hoj (hfree j oj hoj hji hjun hnot) (fun cs b => hsel i oi cs b hi) (fun cs b => hsel j oj cs b hoj) hQ hy h1
      have hfree' : ∀ c oc, ops[c]? = some oc → c ≠ i → (L.setIfInBounds j true).getD c true = false →
          (∀ e ∈ oc.after, Region.binds md e = true → e.on ≠ i) → oi.apart ops oc = true := fun c oc hc hci hun hno => by
        refine hfree c oc hc hci ?_ hno
        by_cases hjc : j = c
        · subst hjc; exact hjun
        · rw [getD_set_ne true hjc] at hun; exact hun
      have hL' : ∀ c ∈ K, (L.setIfInBounds j true).getD c true = false := fun c hc => by
        have hne : j ≠ c := fun h => hjK (by rw [h]; exact hc)
        rw [getD_set_ne true hne]
        exact hL c hc
      refine wpOp_mono (fun a' w' h3 => ?_) h2
      have hjk : j ≠ k := fun h => hjK (by rw [h]; exact hk)
      have hik : i ≠ k := fun h => hiK (by rw [h]; exact hk)
      have hS' : S w' := h3.2.1 (by rw [getD_set_ne true hjk, getD_set_ne true hik]; exact hL k hk)
      refine ⟨fun _ => hS', ih (L.setIfInBounds j true) a' w' hfree' hL' (ready_mono hr (Ne.symm hji)) h3.1 hS' ?_⟩
      rw [Array.setIfInBounds_comm _ _ hji]
      exact h3.2.2

/-- Take i first. -/
theorem anyG_take {i : Nat} {oi : Oper} {v : Value} {f : Nat} {L : Array Bool} {a : Act} {w : World} (K : List Nat) (hi : ops[i]? = some oi)
    (hs : Region.noSelect ops = true) (hf : Region.free md ops L i = true) (hr : (Region.ready md ops L).contains i = true)
    (hK : (K.contains k && !K.contains i && waits md ops i K && K.all fun c => !L.getD c true) = true)
    (hQ : ∀ c a w, Q (.panic c) (a.put oi.dst v) w → Q (.panic c) a w) (hy : YieldsIf P ops S oi v a) (hS : S w)
    (h : anyG P md ops Q S k f (L.setIfInBounds i true) (a.put oi.dst v) w) : anyG P md ops Q S k (f + 1) L a w := by
  simp only [Bool.and_eq_true, List.contains_iff_mem, Bool.not_eq_true', List.all_eq_true] at hK
  refine anyG_first (K := K) hi (Region.noSelect_spec hs) hQ hK.1.1.1 (fun hm => ?_) hK.1.2 f L a w (Region.free_spec hi hf) hK.2 (by simpa using hr) hy hS h
  have := hK.1.1.2
  rw [List.contains_iff_mem.2 hm] at this
  cases this

/-- One alone can come up. -/
theorem anyG_one {i : Nat} {f : Nat} {L : Array Bool} {a : Act} {w : World} (hr : Region.ready md ops L = [i])
    (h : wpOp P ops Q i (fun a' w' => ((L.setIfInBounds i true).getD k true = false → S w') ∧ anyG P md ops Q S k f (L.setIfInBounds i true) a' w') a w) : anyG P md ops Q S k (f + 1) L a w :=
  ⟨fun h0 => (by rw [hr] at h0; cases h0), fun j hj => by rw [hr, List.mem_singleton] at hj; subst hj; exact h⟩

/-- An operation that is wanted; what follows is a letter. -/
theorem wpOp_at {i : Nat} {o : Oper} {a : Act} {w : World} {K : Act → World → Prop} (hi : ops[i]? = some o) (hw : Region.wanted o (yielded ops a.tmps) = true)
    (h : ∀ K' : Act → World → Prop, Hid (∀ a w, K a w → K' a w) → o.wp P a w K' Q) : wpOp P ops Q i K a w := by
  unfold wpOp
  simp only [hi, hw, if_true]
  exact .inl (h K (hide fun _ _ h => h))

theorem anyG_done {L : Array Bool} {a : Act} {w : World} (hr : Region.ready md ops L = []) (h : Q .normal a w) : ∀ f, anyG P md ops Q S k f L a w
  | 0 => ⟨hr, h⟩
  | _ + 1 => ⟨fun _ => h, by rw [hr]; simp⟩

theorem wp_region_G {id : Nat} {a : Act} {w : World} (hm : P.follows .mixedOrders = true)
    (h : anyG P .any ops Q S k ops.size (Array.replicate ops.size false) a { w with drawn := w.drawn + 1 }) : (Code.region id ops true).wp P Q a w :=
  wp_region_any hm (any_of_G _ _ _ _ h)
theorem anyG_many {f : Nat} {L : Array Bool} {a : Act} {w : World} (l : List Nat) (hr : Region.ready md ops L = l) (hl : l ≠ [])
    (h : ∀ i ∈ l, wpOp P ops Q i (fun a' w' => ((L.setIfInBounds i true).getD k true = false → S w') ∧ anyG P md ops Q S k f (L.setIfInBounds i true) a' w') a w) : anyG P md ops Q S k (f + 1) L a w :=
  ⟨fun h0 => absurd (hr.symm.trans h0) hl, fun j hj => h j (by rw [← hr]; exact hj)⟩
theorem drop_at {α : Type} {l : Array α} {i : Nat} {o : α} {r : List α} (h : l.toList.drop i = o :: r) : l[i]? = some o := by
  have h1 : (l.toList.drop i)[0]? = some o := by rw [h]; rfl
  rw [List.getElem?_drop] at h1
  simpa using h1
theorem wpOp_lit {i : Nat} {o : Oper} {r : List Oper} {a : Act} {w : World} {K : Act → World → Prop} (hi : ops.toList.drop i = o :: r) (hw : Region.wanted o (yielded ops a.tmps) = true)
    (h : ∀ K' : Act → World → Prop, Hid (∀ a w, K a w → K' a w) → o.wp P a w K' Q) : wpOp P ops Q i K a w := wpOp_at (drop_at hi) hw h
theorem anyG_takel {i : Nat} {oi : Oper} {r : List Oper} {v : Value} {f : Nat} {L : Array Bool} {a : Act} {w : World} (K : List Nat) (hi : ops.toList.drop i = oi :: r)
    (hs : Region.noSelect ops = true) (hf : Region.free md ops L i = true) (hr : (Region.ready md ops L).contains i = true)
    (hK : (K.contains k && !K.contains i && waits md ops i K && K.all fun c => !L.getD c true) = true)
    (hQ : ∀ c a w, Q (.panic c) (a.put oi.dst v) w → Q (.panic c) a w) (hy : YieldsIf P ops S oi v a) (hS : S w)
    (h : anyG P md ops Q S k f (L.setIfInBounds i true) (a.put oi.dst v) w) : anyG P md ops Q S k (f + 1) L a w := anyG_take K (drop_at hi) hs hf hr hK hQ hy hS h
end
end Go.Proofs.YtmagpdblacgneaaGreat

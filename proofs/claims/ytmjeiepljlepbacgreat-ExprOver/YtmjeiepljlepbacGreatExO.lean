import Derived.Test.YtmjeiepljlepbacGreatExE
import Derived.ProofKit
import Derived.OpenShut
import Derived.Lib.SmallJoins
import Derived.ChangeOld
import Derived.Deep.Slices
import Derived.Deep.Strs
import Derived.JoinedCond
import Derived.SizedLaws
import Derived.Test.YtmjeiepljlepbacGreatPaA
import Derived.Test.YtmjeiepljlepbacGreatKeptA
import Derived.Maps.AppendAt
import Derived.Laws.AppendOwnNone
import Derived.Lib.SliceRun
set_option linter.unusedSimpArgs false
set_option linter.unusedVariables false
namespace Go.Proofs.YtmjeiepljlepbacGreat
open Go.ChangeShapes Go.WideShapes Go.ChangeAt Go.RowKit Go.Joins Go.Deep

theorem cells26 : Tryz.prog.cellsOf 59 = 6 := by kernel_rfl
theorem bytes26 : Tryz.prog.bytesOf 59 = 72 := by kernel_rfl
theorem cells23 : Tryz.prog.cellsOf 38 = 3 := by kernel_rfl
theorem cells24 : Tryz.prog.cellsOf 57 = 1 := by kernel_rfl
theorem cells3 : Tryz.prog.cellsOf 3 = 1 := by kernel_rfl
theorem cells2 : Tryz.prog.cellsOf 2 = 1 := by kernel_rfl
theorem cells9 : Tryz.prog.cellsOf 9 = 1 := by kernel_rfl
theorem in64_of {x : Int} (h : (Lit.int .i64 x).wf = true) : In64 x := by
  simp [Lit.wf, IntKind.min, IntKind.max, IntKind.signed, IntKind.bits] at h
  exact ⟨by omega, by omega⟩
theorem Ex.all_of {w : World} {b : Nat} : ∀ (l : List Ex) (off : Nat), (∀ i e, l[i]? = some e → Ex.at w b (off + i * 6) e) → Ex.all w (some ⟨b, off, none⟩) l
  | [], off, _ => by rw [Ex.all]; trivial
  | e :: l, off, h => by
    rw [Ex.all]
    refine ⟨b, off, rfl, by simpa using h 0 e rfl, Ex.all_of l (off + 6) fun i x hx => ?_⟩
    have := h (i + 1) x (by simpa using hx)
    rw [show off + 6 + i * 6 = off + (i + 1) * 6 by omega]
    exact this
theorem Ex.at_mk {w : World} {b off : Nat} {e : Ex} {a : Option Addr} {c : Nat} (h : w.cell? ⟨b, off, none⟩ = some (.int .i64 e.op) ∧ w.cell? ⟨b, off + 1, none⟩ = some (.int .i64 e.n) ∧ w.cell? ⟨b, off + 2, none⟩ = some (.int .i64 e.v.k) ∧ w.cell? ⟨b, off + 3, none⟩ = some (.int .i64 e.v.n) ∧ w.cell? ⟨b, off + 4, none⟩ = some (.string e.v.s) ∧ w.cell? ⟨b, off + 5, none⟩ = some (.slice a e.args.length c)) (ha : Ex.all w a e.args) : Ex.at w b off e := by
  cases e with
  | mk op n v l => rw [Ex.at]; exact ⟨a, c, h, ha⟩
theorem Ex.fins_of : ∀ (l : List Ex), (∀ x ∈ l, x.fin) → Ex.fins l
  | [], _ => by rw [Ex.fins]; trivial
  | e :: l, h => by rw [Ex.fins]; exact ⟨h e (by simp), Ex.fins_of l fun x hx => h x (by simp [hx])⟩
theorem weights_all {H : Type} {P : Program} {e : TypeId} : ∀ {l : List (DataW H)} {d : DataW H}, d ∈ l → ∀ n ∈ d.weights P e, n ∈ DataW.weightsAll P e l
  | x :: l, d, h, n, hn => by
    rw [DataW.weightsAll, List.mem_append]
    rcases List.mem_cons.1 h with rfl | h
    · exact .inl hn
    · exact .inr (weights_all h n hn)
section
variable {H : Type} {enc : TypeId × Value → H} {w : World} {base : Nat} {spare : Nat → Bool} {held : Bool}
set_option maxRecDepth 100000 in
theorem open_ex : ∀ (k : Nat) (d : DataW H), SizeOf.sizeOf d ≤ k → (∀ n ∈ d.weights Tryz.prog (59), n ≤ reachBytes) → ∀ {n : Nat} {cs : List Value} {ps : List MemPlace}, DataW.trod enc Tryz.prog w base spare held n 59 cs = some (d, ps) →
    ∃ (e : Ex) (a : Option Addr) (c : Nat), cs = [.int .i64 e.op, .int .i64 e.n, .int .i64 e.v.k, .int .i64 e.v.n, .string e.v.s, .slice a e.args.length c] ∧ Ex.all w a e.args ∧ e.fin
  | 0, d, hs, _, _, _, _, _ => by cases d <;> simp at hs
  | k + 1, d, hs, hw, n, cs, ps, h => by
    obtain ⟨y0, y1, y2, y3, n', hx, hl, h0, h1, h2, h3⟩ := trod_struct4 Tryz.underlying59 h
    simp only [Prod.mk.injEq] at hx
    obtain ⟨rfl, _⟩ := hx
    rw [cells26] at hl
    match cs, hl with
    | [c0, c1, c2, c3, c4, c5], _ =>
      simp only [cells3, cells23, cells24, List.drop_zero, List.take_succ_cons, List.take_zero, List.drop_succ_cons] at h0 h1 h2 h3
      obtain ⟨op, e0, q0, w0⟩ := DataW.trod_int Tryz.underlying3 h0
      obtain ⟨m, e1, q1, w1⟩ := DataW.trod_int Tryz.underlying3 h1
      obtain ⟨z0, z1, z2, n2, hz, hzl, g0, g1, g2⟩ := trod_struct3 Tryz.underlying38 h2
      simp only [cells3, cells2, cells9, List.drop_zero, List.take_succ_cons, List.take_zero, List.drop_succ_cons] at g0 g1 g2
      obtain ⟨vk, e2, r0, wk⟩ := DataW.trod_int Tryz.underlying3 g0
      obtain ⟨vn, e3, r1, wn⟩ := DataW.trod_int Tryz.underlying2 g1
      obtain ⟨vs, e4, r2, ws⟩ := DataW.trod_string Tryz.underlying9 g2
      simp only [List.cons.injEq, and_true] at e0 e1 e2 e3 e4
      subst e0 e1 e2 e3 e4
      have hw2 : ∀ n ∈ y2.1.weights Tryz.prog (38), n ≤ reachBytes := fun n hn => hw n (by simp [DataW.weights, DataW.weightsEach, Tryz.underlying59, hn])
      have hw3 : ∀ n ∈ y3.1.weights Tryz.prog (57), n ≤ reachBytes := fun n hn => hw n (by simp [DataW.weights, DataW.weightsEach, Tryz.underlying59, hn])
      have hvs : vs.size ≤ 140737488355328 := by
        have := hw2 vs.data.toList.length (by rw [hz]; simp [DataW.weights, DataW.weightsEach, Tryz.underlying38, r2])
        have h2 := reachBytes_lt
        rw [Array.length_toList] at this
        have e : vs.data.size = vs.size := rfl
        omega
      rcases open_slice Tryz.underlying57 h3 with ⟨hcs, hx⟩ | ⟨a, len, cap, mm, n3, D, Pl, hcs, hb, hl3, hm, hmm, hx, hel⟩
      · simp only [List.cons.injEq, and_true] at hcs
        subst hcs
        refine ⟨.mk op m ⟨vk, vn, vs⟩ [], none, 0, rfl, by rw [Ex.args, Ex.all]; trivial, ?_⟩
        rw [Ex.fin]
        exact ⟨⟨Nat.zero_le _, hvs, in64_of wn, in64_of w1⟩, by rw [Ex.fins]; trivial⟩
      · simp only [List.cons.injEq, and_true] at hcs
        subst hcs
        have hlm : len ≤ mm := by rw [hmm]; split <;> omega
        have hy3 : y3.1 = .slice ((List.range len).map D) ((List.range (mm - len)).map fun j => D (len + j)) := by rw [hx]
        have hbyt : len ≤ 140737488355328 := by
          have := hw3 ((((List.range len).map D).length + ((List.range (mm - len)).map fun j => D (len + j)).length) * Tryz.prog.bytesOf 59) (by rw [hy3]; simp [DataW.weights, Tryz.underlying57])
          rw [bytes26] at this
          have h2 := reachBytes_lt
          simp only [List.length_map, List.length_range] at this
          omega
        have hel2 : ∀ i, i < len → ∃ (q : Ex × Option Addr × Nat), w.cells? base (a.add (i * 6)) 6 = some [.int .i64 q.1.op, .int .i64 q.1.n, .int .i64 q.1.v.k, .int .i64 q.1.v.n, .string q.1.v.s, .slice q.2.1 q.1.args.length q.2.2] ∧ Ex.all w q.2.1 q.1.args ∧ q.1.fin := by
          intro i hi
          obtain ⟨cs', g1, g2⟩ := hel i (by omega)
          rw [cells26] at g1
          have hmem : D i ∈ (List.range len).map D := List.mem_map.2 ⟨i, List.mem_range.2 hi, rfl⟩
          have hsz : SizeOf.sizeOf (D i) ≤ k := by
            have s1 := List.sizeOf_lt_of_mem hmem
            rw [hy3] at hs
            simp only [DataW.agg.sizeOf_spec, DataW.slice.sizeOf_spec, List.cons.sizeOf_spec, List.nil.sizeOf_spec] at hs
            omega
          obtain ⟨e', a', c', r1, r2, r3⟩ := open_ex k (D i) hsz (fun n hn => hw3 n (by
            rw [hy3]
            simp only [DataW.weights, Tryz.underlying57, List.mem_cons, List.mem_append]
            exact .inr (.inl (weights_all hmem n hn)))) g2
          exact ⟨(e', a', c'), by rw [g1, r1], r2, r3⟩
        have inst : Inhabited (Ex × Option Addr × Nat) := ⟨(.mk 0 0 .null [], none, 0)⟩
        obtain ⟨f, hfx⟩ := choose_lt (α := Ex × Option Addr × Nat) (n := len) hel2
        have hlen : ((List.range len).map fun i => (f i).1).length = len := by simp
        refine ⟨.mk op m ⟨vk, vn, vs⟩ ((List.range len).map fun i => (f i).1), some a, cap, ?_, ?_, ?_⟩
        · show _ = [_, _, _, _, _, Value.slice (some a) ((List.range len).map fun i => (f i).1).length cap]
          rw [hlen]; rfl
        · show Ex.all w (some a) ((List.range len).map fun i => (f i).1)
          by_cases hl0 : len = 0
          · subst hl0; show Ex.all w (some a) []; rw [Ex.all]; trivial
          · obtain ⟨b, off, spot⟩ := a
            have hc0 := (World.cells?_some (hfx 0 (by omega)).1).2.2 0 (by omega)
            have hspot : spot = none := by simpa [Addr.add] using World.cell?_spot hc0
            subst hspot
            refine Ex.all_of _ off fun i e' he => ?_
            obtain ⟨hi, rfl⟩ := List.getElem?_eq_some_iff.1 he
            have hi' : i < len := by simpa using hi
            have hc := (World.cells?_some (hfx i hi').1).2.2
            have d0 := hc 0 (by omega)
            have d1 := hc 1 (by omega)
            have d2 := hc 2 (by omega)
            have d3 := hc 3 (by omega)
            have d4 := hc 4 (by omega)
            have d5 := hc 5 (by omega)
            have ea : ∀ (o n : Nat), (⟨b, o, none⟩ : Addr).add n = ⟨b, o + n, none⟩ := by
              intro o n
              by_cases h : n = 0 <;> simp [Addr.add, h]
            rw [ea, ea] at d0 d1 d2 d3 d4 d5
            simp only [List.getElem_map, List.getElem_range]
            exact Ex.at_mk ⟨by simpa using d0, by simpa using d1, by simpa using d2, by simpa using d3, by simpa using d4, by simpa using d5⟩ (hfx i hi').2.1
        · rw [Ex.fin]
          refine ⟨⟨by rw [hlen]; exact hbyt, hvs, in64_of wn, in64_of w1⟩, Ex.fins_of _ fun x hx => ?_⟩
          obtain ⟨i, hi, rfl⟩ := List.mem_map.1 hx
          exact (hfx i (by simpa using hi)).2.2
set_option maxRecDepth 100000 in
/-- An expression that came in, laid open. -/
theorem open_expr {r : Reach} {b0 : Nat} {v : Value} {d : DataW H} {p : List MemPlace} (hv : Value.okWide Tryz.prog w r b0 59 v) (h : DataW.Trod enc Tryz.prog w base spare held 59 v d p) (hw : ∀ n ∈ d.weights Tryz.prog (59), n ≤ reachBytes) :
    ∃ (e : Ex) (a : Option Addr) (c : Nat), v = e.val a c ∧ Ex.all w a e.args ∧ e.fin := by
  obtain ⟨cs, rfl, hsz⟩ := okWide_struct Tryz.underlying59 hv
  obtain ⟨fuel, hf⟩ := h
  obtain ⟨e, a, c, h1, h2, h3⟩ := open_ex (SizeOf.sizeOf d) d (Nat.le_refl _) hw hf
  refine ⟨e, a, c, ?_, h2, h3⟩
  rw [Ex.val_open]
  congr 1
  have h4 : cs.toList = [.int .i64 e.op, .int .i64 e.n, .int .i64 e.v.k, .int .i64 e.v.n, .string e.v.s, .slice a e.args.length c] := h1
  rw [← Array.toArray_toList (xs := cs), h4]
end
end Go.Proofs.YtmjeiepljlepbacGreat
set_option linter.unusedSimpArgs false
set_option linter.unusedVariables false
namespace Go.Proofs.YtmjeiepljlepbacGreat
open Go.RowKit Go.Sort

/-- A node, and where its parts lie. -/
abbrev Nd := Ex × Option Addr × Nat
def sh (q : Nd) : List Value := [.int .i64 q.1.op, .int .i64 q.1.n, .int .i64 q.1.v.k, .int .i64 q.1.v.n, .string q.1.v.s, .slice q.2.1 q.1.args.length q.2.2]
theorem info26 : (Tryz.prog.info? 59).map (fun i => (i.zero, i.size, i.bytes)) = some (some (.agg #[.int .i64 0, .int .i64 0, .int .i64 0, .int .i64 0, .string ⟨#[]⟩, .slice none 0 0]), 6, 72) := by kernel_rfl
/-- The slice of expressions v, a row of the call's own, holds L. -/
def OwnE (w : World) (base : Nat) (v : Value) (L : List Nd) : Prop := w.ownsRow base 59 6 v L.length (L.flatMap sh)
theorem OwnE.later {w w1 : World} {base : Nat} {v : Value} {xs : List Nd} (h : OwnE w base v xs) (hb : Below w.heap.size w w1) : OwnE w1 base v xs := own_later h hb
theorem sh_at : ∀ (zs : List Nd) (i j : Nat) (x : Nd), zs[i]? = some x → j < 6 → (zs.flatMap sh)[i * 6 + j]? = (sh x)[j]?
  | [], i, j, x, h, _ => by simp at h
  | z :: zs, 0, j, x, h, hj => by
    simp at h
    subst h
    rw [List.flatMap_cons, List.getElem?_append_left (by simp [sh]; omega)]
    simp
  | z :: zs, i + 1, j, x, h, hj => by
    have ih := sh_at zs i j x (by simpa using h) hj
    rw [List.flatMap_cons, List.getElem?_append_right (by simp [sh]; omega)]
    rw [← ih]
    congr 1
    simp [sh]
    omega
theorem sh_len (zs : List Nd) : (zs.flatMap sh).length = zs.length * 6 := by
  induction zs with
  | nil => rfl
  | cons z zs ih => rw [List.flatMap_cons, List.length_append, ih]; simp [sh]; omega
theorem sh_all (xs : List Nd) : ∀ u ∈ xs.flatMap sh, u.oneCell' = true := by
  intro u hu
  obtain ⟨x, _, hx⟩ := List.mem_flatMap.1 hu
  simp [sh] at hx
  rcases hx with rfl | rfl | rfl | rfl | rfl | rfl <;> rfl
theorem sh_set : ∀ (L : List Nd) (j : Nat) (x : Nd), j < L.length →
    ((((((L.flatMap sh).set (j * 6) (.int .i64 x.1.op)).set (j * 6 + 1) (.int .i64 x.1.n)).set (j * 6 + 2) (.int .i64 x.1.v.k)).set (j * 6 + 3) (.int .i64 x.1.v.n)).set (j * 6 + 4) (.string x.1.v.s)).set (j * 6 + 5) (.slice x.2.1 x.1.args.length x.2.2) = (L.set j x).flatMap sh
  | [], j, x, h => by simp at h
  | z :: L, 0, x, _ => by simp [sh]
  | z :: L, j + 1, x, h => by
    have ih := sh_set L j x (by simpa using h)
    rw [List.set_cons_succ, List.flatMap_cons, List.flatMap_cons, ← ih]
    simp only [sh, List.cons_append, List.nil_append]
    have e : ∀ k, (j + 1) * 6 + k = (j * 6 + k) + 1 + 1 + 1 + 1 + 1 + 1 := by omega
    have e0 : (j + 1) * 6 = j * 6 + 1 + 1 + 1 + 1 + 1 + 1 := by omega
    rw [e 1, e 2, e 3, e 4, e 5, e0]
    simp only [List.set_cons_succ]
theorem OwnE.len {w : World} {base g N cap : Nat} {L : List Nd} (h : OwnE w base (.slice (some ⟨g, 0, none⟩) N cap) L) : N = L.length := by
  rcases h.2 with ⟨e, _⟩ | ⟨g', cap', cur, e, _⟩
  · cases e
  · injection e
theorem OwnE.put {w : World} {base g N cap j : Nat} {L : List Nd} (h : OwnE w base (.slice (some ⟨g, 0, none⟩) N cap) L) (hj : j < L.length) (x : Nd) :
    OwnE ((((((w.setCell ⟨g, j * 6, none⟩ (.int .i64 x.1.op)).setCell ⟨g, j * 6 + 1, none⟩ (.int .i64 x.1.n)).setCell ⟨g, j * 6 + 2, none⟩ (.int .i64 x.1.v.k)).setCell ⟨g, j * 6 + 3, none⟩ (.int .i64 x.1.v.n)).setCell ⟨g, j * 6 + 4, none⟩ (.string x.1.v.s)).setCell ⟨g, j * 6 + 5, none⟩ (.slice x.2.1 x.1.args.length x.2.2)) base (.slice (some ⟨g, 0, none⟩) N cap) (L.set j x) := by
  have hN := h.len
  subst hN
  have h1 := (World.ownsRow.stored h (j * 6) (.int .i64 x.1.op)).1
  have h2 := (World.ownsRow.stored h1 (j * 6 + 1) (.int .i64 x.1.n)).1
  have h3 := (World.ownsRow.stored h2 (j * 6 + 2) (.int .i64 x.1.v.k)).1
  have h4 := (World.ownsRow.stored h3 (j * 6 + 3) (.int .i64 x.1.v.n)).1
  have h5 := (World.ownsRow.stored h4 (j * 6 + 4) (.string x.1.v.s)).1
  have h6 := (World.ownsRow.stored h5 (j * 6 + 5) (.slice x.2.1 x.1.args.length x.2.2)).1
  rw [sh_set L j x hj] at h6
  unfold OwnE
  rw [List.length_set]
  exact h6
/-- The six cells of a node in a block. -/
def Cells6 (w : World) (b off : Nat) (q : Nd) : Prop := w.cell? ⟨b, off, none⟩ = some (.int .i64 q.1.op) ∧ w.cell? ⟨b, off + 1, none⟩ = some (.int .i64 q.1.n) ∧ w.cell? ⟨b, off + 2, none⟩ = some (.int .i64 q.1.v.k) ∧ w.cell? ⟨b, off + 3, none⟩ = some (.int .i64 q.1.v.n) ∧ w.cell? ⟨b, off + 4, none⟩ = some (.string q.1.v.s) ∧ w.cell? ⟨b, off + 5, none⟩ = some (.slice q.2.1 q.1.args.length q.2.2)
theorem OwnE.facts {w : World} {base g N cap j : Nat} {L : List Nd} {x : Nd} (h : OwnE w base (.slice (some ⟨g, 0, none⟩) N cap) L) (hj : L[j]? = some x) :
    Cells6 w g (j * 6) x ∧ (w.frozen? ⟨g, j * 6, none⟩ = false ∧ w.frozen? ⟨g, j * 6 + 1, none⟩ = false ∧ w.frozen? ⟨g, j * 6 + 2, none⟩ = false ∧ w.frozen? ⟨g, j * 6 + 3, none⟩ = false ∧ w.frozen? ⟨g, j * 6 + 4, none⟩ = false ∧ w.frozen? ⟨g, j * 6 + 5, none⟩ = false) := by
  have hN := h.len
  subst hN
  have hl := (List.getElem?_eq_some_iff.1 hj).1
  refine ⟨⟨?_, ?_, ?_, ?_, ?_, ?_⟩, World.ownsRow.frozenAt h _, World.ownsRow.frozenAt h _, World.ownsRow.frozenAt h _, World.ownsRow.frozenAt h _, World.ownsRow.frozenAt h _, World.ownsRow.frozenAt h _⟩
  · rw [World.ownsRow.cellAt h (j * 6) (by omega)]; exact sh_at L j 0 x hj (by omega)
  · rw [World.ownsRow.cellAt h (j * 6 + 1) (by omega)]; exact sh_at L j 1 x hj (by omega)
  · rw [World.ownsRow.cellAt h (j * 6 + 2) (by omega)]; exact sh_at L j 2 x hj (by omega)
  · rw [World.ownsRow.cellAt h (j * 6 + 3) (by omega)]; exact sh_at L j 3 x hj (by omega)
  · rw [World.ownsRow.cellAt h (j * 6 + 4) (by omega)]; exact sh_at L j 4 x hj (by omega)
  · rw [World.ownsRow.cellAt h (j * 6 + 5) (by omega)]; exact sh_at L j 5 x hj (by omega)
theorem OwnE.some {w : World} {base n cap : Nat} {a : Option Addr} {L : List Nd} (h : OwnE w base (.slice a n cap) L) (hl : 0 < L.length) : ∃ g, a = some ⟨g, 0, none⟩ ∧ base ≤ g ∧ g < w.heap.size := by
  rcases h.2 with ⟨_, h0⟩ | ⟨g, cap', cur, e, hb, hg, _⟩
  · omega
  · injection e with e
    exact ⟨g, e, hb, (Array.getElem?_eq_some_iff.1 hg).1⟩
theorem OwnE.slice {w : World} {base : Nat} {v : Value} {L : List Nd} (h : OwnE w base v L) : ∃ a cap, v = .slice a L.length cap := by
  rcases h.2 with ⟨rfl, h0⟩ | ⟨g, cap, cur, rfl, _⟩
  · have : L = [] := List.eq_nil_of_length_eq_zero h0
    subst this
    exact ⟨none, 0, rfl⟩
  · exact ⟨_, cap, rfl⟩
/-- The parts of nodes that lie in memory, as they are there. -/
theorem all_nodes {w : World} : ∀ (l : List Ex) (a : Option Addr), Ex.all w a l → ∃ L : List Nd, L.map (·.1) = l ∧ (∀ q ∈ L, Ex.all w q.2.1 q.1.args) ∧ (l = [] ∨ ∃ b off, a = some ⟨b, off, none⟩ ∧ ∀ i q, L[i]? = some q → Cells6 w b (off + i * 6) q)
  | [], a, _ => ⟨[], rfl, by simp, .inl rfl⟩
  | e :: l, a, h => by
    rw [Ex.all] at h
    obtain ⟨b, off, rfl, h1, h2⟩ := h
    obtain ⟨a', c', hc, ha⟩ := Ex.at_open h1
    obtain ⟨L, g1, g2, g3⟩ := all_nodes l _ h2
    refine ⟨(e, a', c') :: L, by simp [g1], ?_, .inr ⟨b, off, rfl, ?_⟩⟩
    · intro q hq
      rcases List.mem_cons.1 hq with rfl | hq
      · exact ha
      · exact g2 q hq
    · intro i q hq
      cases i with
      | zero =>
        simp at hq
        subst hq
        simpa [Cells6] using hc
      | succ i =>
        rcases g3 with rfl | ⟨b', off', e', g3⟩
        · have : L = [] := by cases L with
            | nil => rfl
            | cons _ _ => simp at g1
          subst this
          simp at hq
        · injection e' with e'
          injection e' with e1 e2
          subst e1 e2
          have := g3 i q (by simpa using hq)
          rw [show off + (i + 1) * 6 = off + 6 + i * 6 by omega]
          exact this
theorem nodes_cells {w : World} {b off : Nat} {L : List Nd} (h : ∀ i q, L[i]? = some q → Cells6 w b (off + i * 6) q) : ∀ j u, (L.flatMap sh)[j]? = some u → w.cell? ((⟨b, off, none⟩ : Addr).add j) = some u := by
  intro j u hj
  rw [Addr.add_lit]
  have hlt : j < L.length * 6 := by rw [← sh_len]; exact (List.getElem?_eq_some_iff.1 hj).1
  obtain ⟨x, hx⟩ : ∃ x, L[j / 6]? = some x := ⟨_, List.getElem?_eq_getElem (by omega)⟩
  have hf := sh_at L (j / 6) (j % 6) x hx (by omega)
  rw [show j / 6 * 6 + j % 6 = j by omega, hj] at hf
  obtain ⟨h0, h1, h2, h3, h4, h5⟩ := h (j / 6) x hx
  have h6 : j % 6 = 0 ∨ j % 6 = 1 ∨ j % 6 = 2 ∨ j % 6 = 3 ∨ j % 6 = 4 ∨ j % 6 = 5 := by omega
  rcases h6 with h6 | h6 | h6 | h6 | h6 | h6 <;> rw [h6] at hf <;> simp [sh] at hf <;> subst hf
  · rw [show off + j = off + j / 6 * 6 by omega]; exact h0
  · rw [show off + j = off + j / 6 * 6 + 1 by omega]; exact h1
  · rw [show off + j = off + j / 6 * 6 + 2 by omega]; exact h2
  · rw [show off + j = off + j / 6 * 6 + 3 by omega]; exact h3
  · rw [show off + j = off + j / 6 * 6 + 4 by omega]; exact h4
  · rw [show off + j = off + j / 6 * 6 + 5 by omega]; exact h5
/-- What lies in the blocks from lo on, whatever becomes of the others. -/
def ExK (lo : Nat) (w : World) (a : Option Addr) (l : List Ex) : Prop := ∀ W', Kept lo [] w W' → Ex.all W' a l
theorem ExK.now {lo : Nat} {w : World} {a : Option Addr} {l : List Ex} (h : ExK lo w a l) : Ex.all w a l := h w (Kept.refl _ _ _)
theorem ExK.on {lo : Nat} {w w' : World} {a : Option Addr} {l : List Ex} (h : ExK lo w a l) (hk : Kept lo [] w w') : ExK lo w' a l := fun W' hW => h W' (hk.trans hW)
theorem ExK.more {lo lo' : Nat} {w : World} {a : Option Addr} {l : List Ex} (h : ExK lo w a l) (hl : lo' ≤ lo) : ExK lo' w a l := fun W' hW => h W' (hW.more hl (by simp))
theorem ownE_all {w : World} {base g N cap : Nat} {L : List Nd} (h : OwnE w base (.slice (some ⟨g, 0, none⟩) N cap) L) (hL : ∀ q ∈ L, Ex.all w q.2.1 q.1.args) : Ex.all w (some ⟨g, 0, none⟩) (L.map (·.1)) := by
  refine Ex.all_of _ 0 fun i e he => ?_
  obtain ⟨q, hq, rfl⟩ : ∃ q, L[i]? = some q ∧ q.1 = e := by
    rw [List.getElem?_map] at he
    cases hq : L[i]? with
    | none => rw [hq] at he; cases he
    | some q => rw [hq] at he; exact ⟨q, rfl, by simpa using he⟩
  have hc := (h.facts hq).1
  rw [show 0 + i * 6 = i * 6 by omega]
  exact Ex.at_mk hc (hL q (List.mem_of_getElem? hq))
theorem ownE_kept {w W' : World} {base g N cap lo : Nat} {L : List Nd} (h : OwnE w base (.slice (some ⟨g, 0, none⟩) N cap) L) (hk : Kept lo [] w W') (hg : lo ≤ g) (hL : ∀ q ∈ L, Ex.all W' q.2.1 q.1.args) : Ex.all W' (some ⟨g, 0, none⟩) (L.map (·.1)) := by
  refine Ex.all_of _ 0 fun i e he => ?_
  obtain ⟨q, hq, rfl⟩ : ∃ q, L[i]? = some q ∧ q.1 = e := by
    rw [List.getElem?_map] at he
    cases hq : L[i]? with
    | none => rw [hq] at he; cases he
    | some q => rw [hq] at he; exact ⟨q, rfl, by simpa using he⟩
  obtain ⟨h0, h1, h2, h3, h4, h5⟩ := (h.facts hq).1
  rw [show 0 + i * 6 = i * 6 by omega]
  exact Ex.at_mk ⟨Kept.cell h0 hk hg (by simp), Kept.cell h1 hk hg (by simp), Kept.cell h2 hk hg (by simp), Kept.cell h3 hk hg (by simp), Kept.cell h4 hk hg (by simp), Kept.cell h5 hk hg (by simp)⟩ (hL q (List.mem_of_getElem? hq))
set_option maxHeartbeats 2000000 in
set_option maxRecDepth 100000 in
/-- slices.Clone (71) of a list of expressions. -/
theorem eclone_any (a : Option Addr) (c : Nat) (L : List Nd) (w : World) (hl : L.length ≤ 1000000000) (ha : L = [] ∨ ∃ b off, a = some ⟨b, off, none⟩ ∧ ∀ i q, L[i]? = some q → Cells6 w b (off + i * 6) q) (hn : a = none → L = []) :
    Calls Tryz.prog 118 #[.slice a L.length c] w fun e w' => ∃ v, e = .returned v ∧ OwnE w' w.heap.size v L ∧ Below w.heap.size w w' := by
  obtain ⟨i4, hi4, z40, z41, z42⟩ := info_parts info26
  cases a with
  | none =>
    have hx := hn rfl
    subst hx
    clear hn ha
    have hcmp : ∀ w', (binOp .eql 57 (.slice none 0 c) (.slice none 0 0)).run Tryz.prog w' = .ok (.bool true) w' := fun w' => by rw [Go.Lib.run_eql_slice_nil w' 57 59 none 0 c 0 0 Tryz.underlying57]; rfl
    go_enter Tryz.func118, Tryz.ntmps118
    go_wp2
    go_ret
    exact ⟨_, rfl, World.ownsRow_nil _ _ _ _, Below.refl _ _⟩
  | some ad =>
    have hcmp : ∀ w', (binOp .eql 57 (.slice (some ad) L.length c) (.slice none 0 0)).run Tryz.prog w' = .ok (.bool false) w' := fun w' => by rw [Go.Lib.run_eql_slice_nil w' 57 59 _ _ _ 0 0 Tryz.underlying57]; rfl
    have bl := below_alloc (Below.refl _ w) (.cells #[] 59)
    have HA : Hid (∀ j u, (L.flatMap sh)[j]? = some u → (w.alloc (.cells #[] 59)).cell? (ad.add j) = some u) := by
      rcases ha with h0 | ⟨b, off, e, h⟩
      · subst h0
        intro j u hj
        simp at hj
      · injection e with e
        subst e
        exact nodes_cells (fun i q hq => by obtain ⟨h0, h1, h2, h3, h4, h5⟩ := h i q hq; exact ⟨clater h0 bl, clater h1 bl, clater h2 bl, clater h3 bl, clater h4 bl, clater h5 bl⟩)
    clear ha hn
    go_enter Tryz.func118, Tryz.ntmps118
    go_wp2_with (at_builtin; refine wpList_append_own_at _ rfl (.tmp 5) (.tmp 6) 57 rfl w.heap.size 59 i4 (.agg #[.int .i64 0, .int .i64 0, .int .i64 0, .int .i64 0, .string ⟨#[]⟩, .slice none 0 0]) 6 72 Tryz.underlying57 hi4 z40 z41 z42 rfl (by decide) (.slice (some ⟨w.heap.size, 0, none⟩) 0 0) 0 [] rfl ?_ ad L.length c (L.flatMap sh) rfl (sh_len L) (unhide HA) (sh_all L) (by unfold maxLen; omega) (by omega) (by simp) ?_)
    · exact ⟨rfl, .inr ⟨w.heap.size, 0, #[], rfl, Nat.le_refl _, Go.Deep.blk_alloc_new _ _, Nat.le_refl _, Nat.zero_le _, rfl, rfl⟩⟩
    · intro v1 w3 hown1 hgrow1 _ hat1
      have HO : Hid (OwnE w3 w.heap.size v1 L) := by
        show OwnE w3 w.heap.size v1 L
        unfold OwnE
        simpa using hown1
      have HB := hide (bl.trans (grown_below (B := w.heap.size) hgrow1 (by simp) (fun g hg => by simp [Value.ownBlock] at hg; omega)))
      clear hown1 hgrow1 hat1 bl
      go_wp2
      go_ret
      exact ⟨_, rfl, unhide HO, unhide HB⟩
theorem Kept.of_low (w : World) {lo : Nat} (N : List Nat) {B : Nat} (o : Nat) (v : Value) (h : B < lo) : Kept lo N w (w.setCell ⟨B, o, none⟩ v) :=
  ⟨by simp [World.setCell], fun b h1 _ _ => Below.heap_setCell _ _ _ _ (fun e => by have e2 : b = B := e; omega)⟩
/-- What a function that makes nodes does. -/
def By (W : World) (F : Value) (g : Ex → Ex) (P : Ex → Prop) : Prop := ∃ n k, F = .func (.func n) #[] k ∧ Enters n ∧ ∀ W' (lo : Nat) (e : Ex) (a : Option Addr) (c : Nat), Below W.heap.size W W' → lo ≤ W'.heap.size → P e → ExK lo W' a e.args →
  Calls Tryz.prog n (#[e.val a c] ++ k) W' fun r w' => ∃ a2 c2, r = .returned ((g e).val a2 c2) ∧ ExK lo w' a2 (g e).args ∧ Below W'.heap.size W' w'
theorem By.later {W W' : World} {F : Value} {g : Ex → Ex} {P : Ex → Prop} (h : By W F g P) (hb : Below W.heap.size W W') : By W' F g P := by
  obtain ⟨n, k, h1, h2, h3⟩ := h
  exact ⟨n, k, h1, h2, fun W2 lo e a c hW => h3 W2 lo e a c (below_step hb hW)⟩
end Go.Proofs.YtmjeiepljlepbacGreat
set_option linter.unusedSimpArgs false
set_option linter.unusedVariables false
namespace Go.Proofs.YtmjeiepljlepbacGreat
open Go.RowKit Go.Sort

set_option maxHeartbeats 400000 in
theorem constant_any (v : Val) (w : World) : Calls Tryz.prog 122 #[v.v] w fun r w' => r = .returned ((Ex.mk 2 0 v []).val none 0) ∧ Below w.heap.size w w' := by
  rw [Val.open_]
  go_enter Tryz.func122, Tryz.ntmps122
  go_wp2
  refine bodyPost_ret (v := (Ex.mk 2 0 v []).val none 0) (by simp [results, Tryz.results122, go_sem, Ex.val, Ex.op, Ex.n, Ex.v, Ex.args]) rfl ?_
  exact ⟨rfl, by first | exact Below.refl _ _ | exact below_alloc (Below.refl _ _) _ | exact below_alloc (below_alloc (Below.refl _ _) _) _⟩
/-- A node's box of its own: what is in it, and that it may be written. -/
def Box6 (w : World) (b : Nat) (e : Ex) (a : Option Addr) (c : Nat) : Prop := Six w b e a c ∧ (w.frozen? ⟨b, 0, none⟩ = false ∧ w.frozen? ⟨b, 1, none⟩ = false ∧ w.frozen? ⟨b, 2, none⟩ = false ∧ w.frozen? ⟨b, 3, none⟩ = false ∧ w.frozen? ⟨b, 4, none⟩ = false ∧ w.frozen? ⟨b, 5, none⟩ = false)
theorem Box6.later {w w1 : World} {b : Nat} {e : Ex} {a : Option Addr} {c : Nat} (h : Box6 w b e a c) (hb : Below w.heap.size w w1) : Box6 w1 b e a c := by
  obtain ⟨h0, f0, f1, f2, f3, f4, f5⟩ := h
  obtain ⟨hc, hf⟩ := bcell hb
  have hl : b < w.heap.size := World.block_lt_of_cell? w _ h0.1
  refine ⟨h0.later hb, ?_⟩
  rw [hf _ _ hl, hf _ _ hl, hf _ _ hl, hf _ _ hl, hf _ _ hl, hf _ _ hl]
  exact ⟨f0, f1, f2, f3, f4, f5⟩
theorem Box6.new (w : World) (e : Ex) (a : Option Addr) (c : Nat) : Box6 (w.alloc (e.box a c)) w.heap.size e a c := ⟨Six.new w e a c, by simp [go_sem], by simp [go_sem], by simp [go_sem], by simp [go_sem], by simp [go_sem], by simp [go_sem]⟩
/-- The expression that is none. -/
abbrev zeroE : Ex := .mk 0 0 .null []
theorem put6 {w W : World} {B : Nat} (hb : Below w.heap.size w W) (hB : w.heap.size ≤ B) (u0 u1 u2 u3 u4 u5 : Value) : Below w.heap.size w ((((((W.setCell ⟨B, 0, none⟩ u0).setCell ⟨B, 1, none⟩ u1).setCell ⟨B, 2, none⟩ u2).setCell ⟨B, 3, none⟩ u3).setCell ⟨B, 4, none⟩ u4).setCell ⟨B, 5, none⟩ u5) :=
  ((((((hb.setCell (by simpa using hB) _).setCell (by simpa using hB) _).setCell (by simpa using hB) _).setCell (by simpa using hB) _).setCell (by simpa using hB) _).setCell (by simpa using hB) _)
set_option maxHeartbeats 400000 in
/-- needed (60). -/
theorem needed_any (e : Ex) (a : Option Addr) (c : Nat) (w : World) : Calls Tryz.prog 119 #[e.val a c] w fun r w' => r = .returned ((needE e).val none 0) ∧ Below w.heap.size w w' := by
  have HC := hide (fun W => clean_any e.v W)
  have HK := hide (fun W => constant_any (cleanV e.v) W)
  have HB := hide (below_alloc (Below.refl _ w) (.cells #[.int .i64 e.op, .int .i64 e.n, .int .i64 e.v.k, .int .i64 e.v.n, .string e.v.s, .slice a e.args.length c] 59))
  have H6 : Hid (Six (w.alloc (.cells #[.int .i64 e.op, .int .i64 e.n, .int .i64 e.v.k, .int .i64 e.v.n, .string e.v.s, .slice a e.args.length c] 59)) w.heap.size e a c) := Six.new w e a c
  obtain ⟨R, hR⟩ : ∃ R, R = (needE e).val none 0 := ⟨_, rfl⟩
  rw [← hR]
  by_cases h1 : e.op = 1
  · have hR2 : R = .agg #[.int .i64 1, .int .i64 e.n, .int .i64 0, .int .i64 0, .string ⟨#[]⟩, .slice none 0 0] := by rw [hR, show needE e = .mk 1 e.n .null [] by unfold needE; rw [h1]; rfl]; rfl
    subst hR2
    clear hR
    rw [Ex.val_open, h1]
    rw [h1] at HB
    go_enter Tryz.func119, Tryz.ntmps119
    go_wp2
    refine bodyPost_ret (v := .agg #[.int .i64 1, .int .i64 e.n, .int .i64 0, .int .i64 0, .string ⟨#[]⟩, .slice none 0 0]) (by simp [results, Tryz.results119, go_sem]) rfl ?_
    exact ⟨rfl, below_alloc (unhide HB) _⟩
  by_cases h2 : e.op = 2
  · have hR2 : R = (Ex.mk 2 0 (cleanV e.v) []).val none 0 := by rw [hR, show needE e = .mk 2 0 (cleanV e.v) [] by unfold needE; rw [h2]; rfl]
    subst hR2
    clear hR h1
    rw [Ex.val_open, h2]
    rw [h2] at HB
    rw [Val.open_] at HC
    have HB2 := hide (below_alloc (unhide HB) (zeroE.box none 0))
    have HZ := hide (Box6.new (w.alloc (.cells #[.int .i64 2, .int .i64 e.n, .int .i64 e.v.k, .int .i64 e.v.n, .string e.v.s, .slice a e.args.length c] 59)) zeroE none 0)
    have hsz : (w.alloc (.cells #[.int .i64 2, .int .i64 e.n, .int .i64 e.v.k, .int .i64 e.v.n, .string e.v.s, .slice a e.args.length c] 59)).heap.size = w.heap.size + 1 := by simp [go_sem]
    rw [hsz] at HZ
    clear hsz
    generalize cleanV e.v = cv at *
    go_enter Tryz.func119, Tryz.ntmps119
    go_wp2_with (first
      | (go_at_call 47; refine (unhide HC _).mono ?_; rintro r w1 ⟨rfl, hb1⟩)
      | (go_at_call 122; refine (unhide HK _).mono ?_; rintro r w2 ⟨rfl, hb2⟩; obtain ⟨⟨z0, z1, z2, z3, z4, z5⟩, f0, f1, f2, f3, f4, f5⟩ := (unhide HZ).later (below_step hb1 hb2); rw [Ex.val_open]))
    refine bodyPost_ret (v := (Ex.mk 2 0 cv []).val none 0) (by simp [results, Tryz.results119, go_sem, Ex.val, Ex.op, Ex.n, Ex.v, Ex.args, *]) rfl ?_
    exact ⟨rfl, put6 (below_step (below_step (unhide HB2) hb1) hb2) (by omega) _ _ _ _ _ _⟩
  · have e1 : (e.op == 1) = false := by simpa using h1
    have e2 : (e.op == 2) = false := by simpa using h2
    have hR2 : R = .agg #[.int .i64 e.op, .int .i64 0, .int .i64 0, .int .i64 0, .string ⟨#[]⟩, .slice none 0 0] := by rw [hR, show needE e = .mk e.op 0 .null [] by unfold needE; rw [e1, e2]; rfl]; rfl
    subst hR2
    clear hR e1 e2
    rw [Ex.val_open]
    go_enter Tryz.func119, Tryz.ntmps119
    go_wp2
    refine bodyPost_ret (v := .agg #[.int .i64 e.op, .int .i64 0, .int .i64 0, .int .i64 0, .string ⟨#[]⟩, .slice none 0 0]) (by simp [results, Tryz.results119, go_sem]) rfl ?_
    exact ⟨rfl, below_alloc (unhide HB) _⟩
end Go.Proofs.YtmjeiepljlepbacGreat

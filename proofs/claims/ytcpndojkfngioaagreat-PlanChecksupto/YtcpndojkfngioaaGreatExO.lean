import Derived.Test.YtcpndojkfngioaaGreatExE
import Derived.ProofKit
import Derived.OpenShut
import Derived.Lib.SmallJoins
import Derived.ChangeOld
import Derived.Deep.Slices
import Derived.Deep.Strs
import Derived.JoinedCond
import Derived.SizedLaws
set_option linter.unusedSimpArgs false
set_option linter.unusedVariables false
namespace Go.Proofs.YtcpndojkfngioaaGreat
open Go.ChangeShapes Go.WideShapes Go.ChangeAt Go.RowKit Go.Joins Go.Deep

theorem cells26 : Tryz.prog.cellsOf 74 = 6 := by kernel_rfl
theorem bytes26 : Tryz.prog.bytesOf 74 = 72 := by kernel_rfl
theorem cells23 : Tryz.prog.cellsOf 65 = 3 := by kernel_rfl
theorem cells24 : Tryz.prog.cellsOf 22 = 1 := by kernel_rfl
theorem cells3 : Tryz.prog.cellsOf 3 = 1 := by kernel_rfl
theorem cells2 : Tryz.prog.cellsOf 2 = 1 := by kernel_rfl
theorem cells9 : Tryz.prog.cellsOf 9 = 1 := by kernel_rfl
theorem in64_of {x : Int} (h : (Lit.int .i64 x).wf = true) : In64 x := by
  simp [Lit.wf, IntKind.min, IntKind.max, IntKind.signed, IntKind.bits] at h
  exact ⟨by omega, by omega⟩
theorem Ex.all_of {w : World} {b : Nat} : ∀ (l : List Ex) (off : Nat), (∀ i e, l[i]? = some e → Ex.at w b (off + i * 6) e) → Ex.all w (some ⟨b, off, none⟩) l
  | [], off, _ => by rw [Ex.all]; trivial
  | e :: l, off, h => by
    rw [Ex.all]
    refine ⟨b, off, rfl, by simpa using h 0 e rfl, Ex.all_of l (off + 6) fun i x hx => ?_⟩
    have := h (i + 1) x (by simpa using hx)
    rw [show off + 6 + i * 6 = off + (i + 1) * 6 by omega]
    exact this
theorem Ex.at_mk {w : World} {b off : Nat} {e : Ex} {a : Option Addr} {c : Nat} (h : w.cell? ⟨b, off, none⟩ = some (.int .i64 e.op) ∧ w.cell? ⟨b, off + 1, none⟩ = some (.int .i64 e.n) ∧ w.cell? ⟨b, off + 2, none⟩ = some (.int .i64 e.v.k) ∧ w.cell? ⟨b, off + 3, none⟩ = some (.int .i64 e.v.n) ∧ w.cell? ⟨b, off + 4, none⟩ = some (.string e.v.s) ∧ w.cell? ⟨b, off + 5, none⟩ = some (.slice a e.args.length c)) (ha : Ex.all w a e.args) : Ex.at w b off e := by
  cases e with
  | mk op n v l => rw [Ex.at]; exact ⟨a, c, h, ha⟩
theorem Ex.fins_of : ∀ (l : List Ex), (∀ x ∈ l, x.fin) → Ex.fins l
  | [], _ => by rw [Ex.fins]; trivial
  | e :: l, h => by rw [Ex.fins]; exact ⟨h e (by simp), Ex.fins_of l fun x hx => h x (by simp [hx])⟩
theorem weights_all {H : Type} {P : Program} {e : TypeId} : ∀ {l : List (DataW H)} {d : DataW H}, d ∈ l → ∀ n ∈ d.weights P e, n ∈ DataW.weightsAll P e l
  | x :: l, d, h, n, hn => by
    rw [DataW.weightsAll, List.mem_append]
    rcases List.mem_cons.1 h with rfl | h
    · exact .inl hn
    · exact .inr (weights_all h n hn)
section
variable {H : Type} {enc : TypeId × Value → H} {w : World} {base : Nat} {spare : Nat → Bool} {held : Bool}
set_option maxRecDepth 100000 in
theorem open_ex : ∀ (k : Nat) (d : DataW H), SizeOf.sizeOf d ≤ k → (∀ n ∈ d.weights Tryz.prog (74), n ≤ reachBytes) → ∀ {n : Nat} {cs : List Value} {ps : List MemPlace}, DataW.trod enc Tryz.prog w base spare held n 74 cs = some (d, ps) →
    ∃ (e : Ex) (a : Option Addr) (c : Nat), cs = [.int .i64 e.op, .int .i64 e.n, .int .i64 e.v.k, .int .i64 e.v.n, .string e.v.s, .slice a e.args.length c] ∧ Ex.all w a e.args ∧ e.fin
  | 0, d, hs, _, _, _, _, _ => by cases d <;> simp at hs
  | k + 1, d, hs, hw, n, cs, ps, h => by
    obtain ⟨y0, y1, y2, y3, n', hx, hl, h0, h1, h2, h3⟩ := trod_struct4 Tryz.underlying74 h
    simp only [Prod.mk.injEq] at hx
    obtain ⟨rfl, _⟩ := hx
    rw [cells26] at hl
    match cs, hl with
    | [c0, c1, c2, c3, c4, c5], _ =>
      simp only [cells3, cells23, cells24, List.drop_zero, List.take_succ_cons, List.take_zero, List.drop_succ_cons] at h0 h1 h2 h3
      obtain ⟨op, e0, q0, w0⟩ := DataW.trod_int Tryz.underlying3 h0
      obtain ⟨m, e1, q1, w1⟩ := DataW.trod_int Tryz.underlying3 h1
      obtain ⟨z0, z1, z2, n2, hz, hzl, g0, g1, g2⟩ := trod_struct3 Tryz.underlying65 h2
      simp only [cells3, cells2, cells9, List.drop_zero, List.take_succ_cons, List.take_zero, List.drop_succ_cons] at g0 g1 g2
      obtain ⟨vk, e2, r0, wk⟩ := DataW.trod_int Tryz.underlying3 g0
      obtain ⟨vn, e3, r1, wn⟩ := DataW.trod_int Tryz.underlying2 g1
      obtain ⟨vs, e4, r2, ws⟩ := DataW.trod_string Tryz.underlying9 g2
      simp only [List.cons.injEq, and_true] at e0 e1 e2 e3 e4
      subst e0 e1 e2 e3 e4
      have hw2 : ∀ n ∈ y2.1.weights Tryz.prog (65), n ≤ reachBytes := fun n hn => hw n (by simp [DataW.weights, DataW.weightsEach, Tryz.underlying74, hn])
      have hw3 : ∀ n ∈ y3.1.weights Tryz.prog (22), n ≤ reachBytes := fun n hn => hw n (by simp [DataW.weights, DataW.weightsEach, Tryz.underlying74, hn])
      have hvs : vs.size ≤ 140737488355328 := by
        have := hw2 vs.data.toList.length (by rw [hz]; simp [DataW.weights, DataW.weightsEach, Tryz.underlying65, r2])
        have h2 := reachBytes_lt
        rw [Array.length_toList] at this
        have e : vs.data.size = vs.size := rfl
        omega
      rcases open_slice Tryz.underlying22 h3 with ⟨hcs, hx⟩ | ⟨a, len, cap, mm, n3, D, Pl, hcs, hb, hl3, hm, hmm, hx, hel⟩
      · simp only [List.cons.injEq, and_true] at hcs
        subst hcs
        refine ⟨.mk op m ⟨vk, vn, vs⟩ [], none, 0, rfl, by rw [Ex.args, Ex.all]; trivial, ?_⟩
        rw [Ex.fin]
        exact ⟨⟨Nat.zero_le _, hvs, in64_of wn, in64_of w1⟩, by rw [Ex.fins]; trivial⟩
      · simp only [List.cons.injEq, and_true] at hcs
        subst hcs
        have hlm : len ≤ mm := by rw [hmm]; split <;> omega
        have hy3 : y3.1 = .slice ((List.range len).map D) ((List.range (mm - len)).map fun j => D (len + j)) := by rw [hx]
        have hbyt : len ≤ 140737488355328 := by
          have := hw3 ((((List.range len).map D).length + ((List.range (mm - len)).map fun j => D (len + j)).length) * Tryz.prog.bytesOf 74) (by rw [hy3]; simp [DataW.weights, Tryz.underlying22])
          rw [bytes26] at this
          have h2 := reachBytes_lt
          simp only [List.length_map, List.length_range] at this
          omega
        have hel2 : ∀ i, i < len → ∃ (q : Ex × Option Addr × Nat), w.cells? base (a.add (i * 6)) 6 = some [.int .i64 q.1.op, .int .i64 q.1.n, .int .i64 q.1.v.k, .int .i64 q.1.v.n, .string q.1.v.s, .slice q.2.1 q.1.args.length q.2.2] ∧ Ex.all w q.2.1 q.1.args ∧ q.1.fin := by
          intro i hi
          obtain ⟨cs', g1, g2⟩ := hel i (by omega)
          rw [cells26] at g1
          have hmem : D i ∈ (List.range len).map D := List.mem_map.2 ⟨i, List.mem_range.2 hi, rfl⟩
          have hsz : SizeOf.sizeOf (D i) ≤ k := by
            have s1 := List.sizeOf_lt_of_mem hmem
            rw [hy3] at hs
            simp only [DataW.agg.sizeOf_spec, DataW.slice.sizeOf_spec, List.cons.sizeOf_spec, List.nil.sizeOf_spec] at hs
            omega
          obtain ⟨e', a', c', r1, r2, r3⟩ := open_ex k (D i) hsz (fun n hn => hw3 n (by
            rw [hy3]
            simp only [DataW.weights, Tryz.underlying22, List.mem_cons, List.mem_append]
            exact .inr (.inl (weights_all hmem n hn)))) g2
          exact ⟨(e', a', c'), by rw [g1, r1], r2, r3⟩
        have inst : Inhabited (Ex × Option Addr × Nat) := ⟨(.mk 0 0 .null [], none, 0)⟩
        obtain ⟨f, hfx⟩ := choose_lt (α := Ex × Option Addr × Nat) (n := len) hel2
        have hlen : ((List.range len).map fun i => (f i).1).length = len := by simp
        refine ⟨.mk op m ⟨vk, vn, vs⟩ ((List.range len).map fun i => (f i).1), some a, cap, ?_, ?_, ?_⟩
        · show _ = [_, _, _, _, _, Value.slice (some a) ((List.range len).map fun i => (f i).1).length cap]
          rw [hlen]; rfl
        · show Ex.all w (some a) ((List.range len).map fun i => (f i).1)
          by_cases hl0 : len = 0
          · subst hl0; show Ex.all w (some a) []; rw [Ex.all]; trivial
          · obtain ⟨b, off, spot⟩ := a
            have hc0 := (World.cells?_some (hfx 0 (by omega)).1).2.2 0 (by omega)
            have hspot : spot = none := by simpa [Addr.add] using World.cell?_spot hc0
            subst hspot
            refine Ex.all_of _ off fun i e' he => ?_
            obtain ⟨hi, rfl⟩ := List.getElem?_eq_some_iff.1 he
            have hi' : i < len := by simpa using hi
            have hc := (World.cells?_some (hfx i hi').1).2.2
            have d0 := hc 0 (by omega)
            have d1 := hc 1 (by omega)
            have d2 := hc 2 (by omega)
            have d3 := hc 3 (by omega)
            have d4 := hc 4 (by omega)
            have d5 := hc 5 (by omega)
            have ea : ∀ (o n : Nat), (⟨b, o, none⟩ : Addr).add n = ⟨b, o + n, none⟩ := by
              intro o n
              by_cases h : n = 0 <;> simp [Addr.add, h]
            rw [ea, ea] at d0 d1 d2 d3 d4 d5
            simp only [List.getElem_map, List.getElem_range]
            exact Ex.at_mk ⟨by simpa using d0, by simpa using d1, by simpa using d2, by simpa using d3, by simpa using d4, by simpa using d5⟩ (hfx i hi').2.1
        · rw [Ex.fin]
          refine ⟨⟨by rw [hlen]; exact hbyt, hvs, in64_of wn, in64_of w1⟩, Ex.fins_of _ fun x hx => ?_⟩
          obtain ⟨i, hi, rfl⟩ := List.mem_map.1 hx
          exact (hfx i (by simpa using hi)).2.2
set_option maxRecDepth 100000 in
/-- An expression that came in, laid open. -/
theorem open_expr {r : Reach} {b0 : Nat} {v : Value} {d : DataW H} {p : List MemPlace} (hv : Value.okWide Tryz.prog w r b0 74 v) (h : DataW.Trod enc Tryz.prog w base spare held 74 v d p) (hw : ∀ n ∈ d.weights Tryz.prog (74), n ≤ reachBytes) :
    ∃ (e : Ex) (a : Option Addr) (c : Nat), v = e.val a c ∧ Ex.all w a e.args ∧ e.fin := by
  obtain ⟨cs, rfl, hsz⟩ := okWide_struct Tryz.underlying74 hv
  obtain ⟨fuel, hf⟩ := h
  obtain ⟨e, a, c, h1, h2, h3⟩ := open_ex (SizeOf.sizeOf d) d (Nat.le_refl _) hw hf
  refine ⟨e, a, c, ?_, h2, h3⟩
  rw [Ex.val_open]
  congr 1
  have h4 : cs.toList = [.int .i64 e.op, .int .i64 e.n, .int .i64 e.v.k, .int .i64 e.v.n, .string e.v.s, .slice a e.args.length c] := h1
  rw [← Array.toArray_toList (xs := cs), h4]
end
end Go.Proofs.YtcpndojkfngioaaGreat

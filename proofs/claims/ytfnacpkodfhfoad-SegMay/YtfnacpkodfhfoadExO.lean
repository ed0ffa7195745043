import Derived.Test.YtfnacpkodfhfoadExG
import Derived.ProofKit
import Derived.OpenShut
import Derived.Lib.SmallJoins
import Derived.ChangeOld
import Derived.Deep.Slices
import Derived.Deep.Strs
import Derived.JoinedCond
import Derived.SizedLaws
import Derived.Test.YtfnacpkodfhfoadMyA
import Derived.Test.YtfnacpkodfhfoadExK
import Derived.Test.YtfnacpkodfhfoadExA
set_option linter.unusedSimpArgs false
set_option linter.unusedVariables false
namespace Go.Proofs.Ytfnacpkodfhfoad
open Go.ChangeShapes Go.WideShapes Go.ChangeAt Go.RowKit Go.Joins Go.Deep

theorem cells26 : Try.prog.cellsOf 26 = 6 := by kernel_rfl
theorem bytes26 : Try.prog.bytesOf 26 = 72 := by kernel_rfl
theorem cells23 : Try.prog.cellsOf 23 = 3 := by kernel_rfl
theorem cells24 : Try.prog.cellsOf 24 = 1 := by kernel_rfl
theorem cells3 : Try.prog.cellsOf 3 = 1 := by kernel_rfl
theorem cells2 : Try.prog.cellsOf 2 = 1 := by kernel_rfl
theorem cells9 : Try.prog.cellsOf 9 = 1 := by kernel_rfl
theorem in64_of {x : Int} (h : (Lit.int .i64 x).wf = true) : In64 x := by
  simp [Lit.wf, IntKind.min, IntKind.max, IntKind.signed, IntKind.bits] at h
  exact ⟨by omega, by omega⟩
theorem Ex.all_of {w : World} {b : Nat} : ∀ (l : List Ex) (off : Nat), (∀ i e, l[i]? = some e → Ex.at w b (off + i * 6) e) → Ex.all w (some ⟨b, off, none⟩) l
  | [], off, _ => by rw [Ex.all]; trivial
  | e :: l, off, h => by
    rw [Ex.all]
    refine ⟨b, off, rfl, by simpa using h 0 e rfl, Ex.all_of l (off + 6) fun i x hx => ?_⟩
    have := h (i + 1) x (by simpa using hx)
    rw [show off + 6 + i * 6 = off + (i + 1) * 6 by omega]
    exact this
theorem Ex.at_mk {w : World} {b off : Nat} {e : Ex} {a : Option Addr} {c : Nat} (h : w.cell? ⟨b, off, none⟩ = some (.int .i64 e.op) ∧ w.cell? ⟨b, off + 1, none⟩ = some (.int .i64 e.n) ∧ w.cell? ⟨b, off + 2, none⟩ = some (.int .i64 e.v.k) ∧ w.cell? ⟨b, off + 3, none⟩ = some (.int .i64 e.v.n) ∧ w.cell? ⟨b, off + 4, none⟩ = some (.string e.v.s) ∧ w.cell? ⟨b, off + 5, none⟩ = some (.slice a e.args.length c)) (ha : Ex.all w a e.args) : Ex.at w b off e := by
  cases e with
  | mk op n v l => rw [Ex.at]; exact ⟨a, c, h, ha⟩
theorem Ex.fins_of : ∀ (l : List Ex), (∀ x ∈ l, x.fin) → Ex.fins l
  | [], _ => by rw [Ex.fins]; trivial
  | e :: l, h => by rw [Ex.fins]; exact ⟨h e (by simp), Ex.fins_of l fun x hx => h x (by simp [hx])⟩
theorem weights_all {H : Type} {P : Program} {e : TypeId} : ∀ {l : List (DataW H)} {d : DataW H}, d ∈ l → ∀ n ∈ d.weights P e, n ∈ DataW.weightsAll P e l
  | x :: l, d, h, n, hn => by
    rw [DataW.weightsAll, List.mem_append]
    rcases List.mem_cons.1 h with rfl | h
    · exact .inl hn
    · exact .inr (weights_all h n hn)
section
variable {H : Type} {enc : TypeId × Value → H} {w : World} {base : Nat} {spare : Nat → Bool} {held : Bool}
set_option maxRecDepth 100000 in
theorem open_ex : ∀ (k : Nat) (d : DataW H), SizeOf.sizeOf d ≤ k → (∀ n ∈ d.weights Try.prog (26), n ≤ reachBytes) → ∀ {n : Nat} {cs : List Value} {ps : List MemPlace}, DataW.trod enc Try.prog w base spare held n 26 cs = some (d, ps) →
    ∃ (e : Ex) (a : Option Addr) (c : Nat), cs = [.int .i64 e.op, .int .i64 e.n, .int .i64 e.v.k, .int .i64 e.v.n, .string e.v.s, .slice a e.args.length c] ∧ Ex.all w a e.args ∧ e.fin
  | 0, d, hs, _, _, _, _, _ => by cases d <;> simp at hs
  | k + 1, d, hs, hw, n, cs, ps, h => by
    obtain ⟨y0, y1, y2, y3, n', hx, hl, h0, h1, h2, h3⟩ := trod_struct4 Try.underlying26 h
    simp only [Prod.mk.injEq] at hx
    obtain ⟨rfl, _⟩ := hx
    rw [cells26] at hl
    match cs, hl with
    | [c0, c1, c2, c3, c4, c5], _ =>
      simp only [cells3, cells23, cells24, List.drop_zero, List.take_succ_cons, List.take_zero, List.drop_succ_cons] at h0 h1 h2 h3
      obtain ⟨op, e0, q0, w0⟩ := DataW.trod_int Try.underlying3 h0
      obtain ⟨m, e1, q1, w1⟩ := DataW.trod_int Try.underlying3 h1
      obtain ⟨z0, z1, z2, n2, hz, hzl, g0, g1, g2⟩ := trod_struct3 Try.underlying23 h2
      simp only [cells3, cells2, cells9, List.drop_zero, List.take_succ_cons, List.take_zero, List.drop_succ_cons] at g0 g1 g2
      obtain ⟨vk, e2, r0, wk⟩ := DataW.trod_int Try.underlying3 g0
      obtain ⟨vn, e3, r1, wn⟩ := DataW.trod_int Try.underlying2 g1
      obtain ⟨vs, e4, r2, ws⟩ := DataW.trod_string Try.underlying9 g2
      simp only [List.cons.injEq, and_true] at e0 e1 e2 e3 e4
      subst e0 e1 e2 e3 e4
      have hw2 : ∀ n ∈ y2.1.weights Try.prog (23), n ≤ reachBytes := fun n hn => hw n (by simp [DataW.weights, DataW.weightsEach, Try.underlying26, hn])
      have hw3 : ∀ n ∈ y3.1.weights Try.prog (24), n ≤ reachBytes := fun n hn => hw n (by simp [DataW.weights, DataW.weightsEach, Try.underlying26, hn])
      have hvs : vs.size ≤ 140737488355328 := by
        have := hw2 vs.data.toList.length (by rw [hz]; simp [DataW.weights, DataW.weightsEach, Try.underlying23, r2])
        have h2 := reachBytes_lt
        rw [Array.length_toList] at this
        have e : vs.data.size = vs.size := rfl
        omega
      rcases open_slice Try.underlying24 h3 with ⟨hcs, hx⟩ | ⟨a, len, cap, mm, n3, D, Pl, hcs, hb, hl3, hm, hmm, hx, hel⟩
      · simp only [List.cons.injEq, and_true] at hcs
        subst hcs
        refine ⟨.mk op m ⟨vk, vn, vs⟩ [], none, 0, rfl, by rw [Ex.args, Ex.all]; trivial, ?_⟩
        rw [Ex.fin]
        exact ⟨⟨Nat.zero_le _, hvs, in64_of wn, in64_of w1⟩, by rw [Ex.fins]; trivial⟩
      · simp only [List.cons.injEq, and_true] at hcs
        subst hcs
        have hlm : len ≤ mm := by rw [hmm]; split <;> omega
        have hy3 : y3.1 = .slice ((List.range len).map D) ((List.range (mm - len)).map fun j => D (len + j)) := by rw [hx]
        have hbyt : len ≤ 140737488355328 := by
          have := hw3 ((((List.range len).map D).length + ((List.range (mm - len)).map fun j => D (len + j)).length) * Try.prog.bytesOf 26) (by rw [hy3]; simp [DataW.weights, Try.underlying24])
          rw [bytes26] at this
          have h2 := reachBytes_lt
          simp only [List.length_map, List.length_range] at this
          omega
        have hel2 : ∀ i, i < len → ∃ (q : Ex × Option Addr × Nat), w.cells? base (a.add (i * 6)) 6 = some [.int .i64 q.1.op, .int .i64 q.1.n, .int .i64 q.1.v.k, .int .i64 q.1.v.n, .string q.1.v.s, .slice q.2.1 q.1.args.length q.2.2] ∧ Ex.all w q.2.1 q.1.args ∧ q.1.fin := by
          intro i hi
          obtain ⟨cs', g1, g2⟩ := hel i (by omega)
          rw [cells26] at g1
          have hmem : D i ∈ (List.range len).map D := List.mem_map.2 ⟨i, List.mem_range.2 hi, rfl⟩
          have hsz : SizeOf.sizeOf (D i) ≤ k := by
            have s1 := List.sizeOf_lt_of_mem hmem
            rw [hy3] at hs
            simp only [DataW.agg.sizeOf_spec, DataW.slice.sizeOf_spec, List.cons.sizeOf_spec, List.nil.sizeOf_spec] at hs
            omega
          obtain ⟨e', a', c', r1, r2, r3⟩ := open_ex k (D i) hsz (fun n hn => hw3 n (by
            rw [hy3]
            simp only [DataW.weights, Try.underlying24, List.mem_cons, List.mem_append]
            exact .inr (.inl (weights_all hmem n hn)))) g2
          exact ⟨(e', a', c'), by rw [g1, r1], r2, r3⟩
        have inst : Inhabited (Ex × Option Addr × Nat) := ⟨(.mk 0 0 .null [], none, 0)⟩
        obtain ⟨f, hfx⟩ := choose_lt (α := Ex × Option Addr × Nat) (n := len) hel2
        have hlen : ((List.range len).map fun i => (f i).1).length = len := by simp
        refine ⟨.mk op m ⟨vk, vn, vs⟩ ((List.range len).map fun i => (f i).1), some a, cap, ?_, ?_, ?_⟩
        · show _ = [_, _, _, _, _, Value.slice (some a) ((List.range len).map fun i => (f i).1).length cap]
          rw [hlen]; rfl
        · show Ex.all w (some a) ((List.range len).map fun i => (f i).1)
          by_cases hl0 : len = 0
          · subst hl0; show Ex.all w (some a) []; rw [Ex.all]; trivial
          · obtain ⟨b, off, spot⟩ := a
            have hc0 := (World.cells?_some (hfx 0 (by omega)).1).2.2 0 (by omega)
            have hspot : spot = none := by simpa [Addr.add] using World.cell?_spot hc0
            subst hspot
            refine Ex.all_of _ off fun i e' he => ?_
            obtain ⟨hi, rfl⟩ := List.getElem?_eq_some_iff.1 he
            have hi' : i < len := by simpa using hi
            have hc := (World.cells?_some (hfx i hi').1).2.2
            have d0 := hc 0 (by omega)
            have d1 := hc 1 (by omega)
            have d2 := hc 2 (by omega)
            have d3 := hc 3 (by omega)
            have d4 := hc 4 (by omega)
            have d5 := hc 5 (by omega)
            have ea : ∀ (o n : Nat), (⟨b, o, none⟩ : Addr).add n = ⟨b, o + n, none⟩ := by
              intro o n
              by_cases h : n = 0 <;> simp [Addr.add, h]
            rw [ea, ea] at d0 d1 d2 d3 d4 d5
            simp only [List.getElem_map, List.getElem_range]
            exact Ex.at_mk ⟨by simpa using d0, by simpa using d1, by simpa using d2, by simpa using d3, by simpa using d4, by simpa using d5⟩ (hfx i hi').2.1
        · rw [Ex.fin]
          refine ⟨⟨by rw [hlen]; exact hbyt, hvs, in64_of wn, in64_of w1⟩, Ex.fins_of _ fun x hx => ?_⟩
          obtain ⟨i, hi, rfl⟩ := List.mem_map.1 hx
          exact (hfx i (by simpa using hi)).2.2
set_option maxRecDepth 100000 in
/-- An expression that came in, laid open. -/
theorem open_expr {r : Reach} {b0 : Nat} {v : Value} {d : DataW H} {p : List MemPlace} (hv : Value.okWide Try.prog w r b0 26 v) (h : DataW.Trod enc Try.prog w base spare held 26 v d p) (hw : ∀ n ∈ d.weights Try.prog (26), n ≤ reachBytes) :
    ∃ (e : Ex) (a : Option Addr) (c : Nat), v = e.val a c ∧ Ex.all w a e.args ∧ e.fin := by
  obtain ⟨cs, rfl, hsz⟩ := okWide_struct Try.underlying26 hv
  obtain ⟨fuel, hf⟩ := h
  obtain ⟨e, a, c, h1, h2, h3⟩ := open_ex (SizeOf.sizeOf d) d (Nat.le_refl _) hw hf
  refine ⟨e, a, c, ?_, h2, h3⟩
  rw [Ex.val_open]
  congr 1
  have h4 : cs.toList = [.int .i64 e.op, .int .i64 e.n, .int .i64 e.v.k, .int .i64 e.v.n, .string e.v.s, .slice a e.args.length c] := h1
  rw [← Array.toArray_toList (xs := cs), h4]
end
end Go.Proofs.Ytfnacpkodfhfoad
set_option linter.unusedSimpArgs false
set_option linter.unusedVariables false
namespace Go.Proofs.Ytfnacpkodfhfoad
open Go.RowKit Go.Sort
/-- What Strict says. -/
def strictE (cols : List Int) (e : Ex) : Bool := builtE e && ntE cols e
/-- Strict (6): built, and never true where the columns are null. -/
theorem strict_any (cols : List Int) (e : Ex) (hf : e.fin) (hl : cols.length ≤ 140737488355328) (aC : Option Addr) (cC : Nat) (a : Option Addr) (c : Nat) (w : World) (hC : IntsAt w aC cols) (ha : Ex.all w a e.args) :
    Calls Try.prog 6 #[e.val a c, .slice aC cols.length cC] w fun r w' => r = .returned (.bool (strictE cols e)) ∧ Below w.heap.size w w' := by
  have HB := hide (fun o => built_any e hf a c (w.alloc o) (Ex.all_later _ ha (below_alloc (Below.refl _ _) o)))
  have HN := hide (fun (hg : goodE e) (W : World) (hW : Below w.heap.size w W) => never_all cols aC cC hl e.size e (Nat.le_refl _) hf hg a c W (hC.later hW) (Ex.all_later _ ha hW))
  have H6 : Hid (Six (w.alloc (.cells #[.int .i64 e.op, .int .i64 e.n, .int .i64 e.v.k, .int .i64 e.v.n, .string e.v.s, .slice a e.args.length c] 26)) w.heap.size e a c) := Six.new w e a c
  have HG := hide (built_good (e := e))
  have HR : Hid (strictE cols e = (builtE e && ntE cols e)) := hide rfl
  generalize strictE cols e = res at *
  clear hC ha
  rw [Ex.val_open] at HB HN ⊢
  rcases Bool.eq_false_or_eq_true (builtE e) with hb | hb
  · have HN := hide (unhide HN (unhide HG hb))
    rw [hb] at HB HR
    generalize ntE cols e = nt at *
    go_enter Try.func6, Try.ntmps6
    go_wp2_with (first
      | (go_at_call 14; refine (unhide HN _ hB1).mono ?_; rintro r w2 ⟨rfl, hb2⟩)
      | (go_at_call 13; refine (unhide HB _).mono ?_; rintro r w1 ⟨rfl, hb1⟩; have hB1 := below_one hb1; obtain ⟨b0, b1, b2, b3, b4, b5⟩ := (unhide H6).later hb1))
    go_ret
    exact ⟨by rw [unhide HR]; simp, below_step hB1 hb2⟩
  · rw [hb] at HB HR
    go_enter Try.func6, Try.ntmps6
    go_wp2_with (go_at_call 13; refine (unhide HB _).mono ?_; rintro r w1 ⟨rfl, hb1⟩)
    go_ret
    exact ⟨by rw [unhide HR]; simp, below_one hb1⟩
end Go.Proofs.Ytfnacpkodfhfoad
set_option linter.unusedSimpArgs false
set_option linter.unusedVariables false
namespace Go.Proofs.Ytfnacpkodfhfoad
open Go.RowKit Go.Sort

/-! What a function value needs: the blocks from lo on, but those of N. -/
structure Kept (lo : Nat) (N : List Nat) (w w' : World) : Prop where
  size : w.heap.size ≤ w'.heap.size
  block : ∀ b, lo ≤ b → b < w.heap.size → b ∉ N → w'.heap[b]? = w.heap[b]?
theorem Kept.refl (lo : Nat) (N : List Nat) (w : World) : Kept lo N w w := ⟨Nat.le_refl _, fun _ _ _ _ => rfl⟩
theorem Kept.trans {lo : Nat} {N : List Nat} {w w' w'' : World} (h : Kept lo N w w') (h' : Kept lo N w' w'') : Kept lo N w w'' :=
  ⟨Nat.le_trans h.size h'.size, fun b h1 h2 h3 => (h'.block b h1 (Nat.lt_of_lt_of_le h2 h.size) h3).trans (h.block b h1 h2 h3)⟩
theorem Kept.of_below {w w' : World} (lo : Nat) (N : List Nat) (h : Below w.heap.size w w') : Kept lo N w w' := ⟨h.size, fun b _ h2 _ => h.block b h2⟩
theorem Kept.of_store (w : World) (lo : Nat) {N : List Nat} {B : Nat} (o : Nat) (v : Value) (h : B ∈ N) : Kept lo N w (w.setCell ⟨B, o, none⟩ v) :=
  ⟨by simp [World.setCell], fun b _ _ h3 => Below.heap_setCell _ _ _ _ (fun e => h3 (by rw [e]; exact h))⟩
theorem Kept.more {lo lo' : Nat} {N N' : List Nat} {w w' : World} (h : Kept lo' N' w w') (hl : lo' ≤ lo) (hN : ∀ b ∈ N', b ∈ N ∨ b < lo ∨ w.heap.size ≤ b) : Kept lo N w w' :=
  ⟨h.size, fun b h1 h2 h3 => h.block b (Nat.le_trans hl h1) h2 fun hb => by
    rcases hN b hb with h | h | h
    · exact h3 h
    · omega
    · omega⟩
theorem Kept.cell {lo : Nat} {N : List Nat} {w w' : World} {b o : Nat} {v : Value} (h : w.cell? ⟨b, o, none⟩ = some v) (hk : Kept lo N w w') (h1 : lo ≤ b) (h3 : b ∉ N) : w'.cell? ⟨b, o, none⟩ = some v := by
  have hl := World.block_lt_of_cell? _ _ h
  rw [← h]
  unfold World.cell?
  rw [hk.block b h1 hl h3]
end Go.Proofs.Ytfnacpkodfhfoad

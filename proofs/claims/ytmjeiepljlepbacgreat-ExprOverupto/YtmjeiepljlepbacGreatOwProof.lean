import Derived.Test.YtmjeiepljlepbacGreatOvH
import Derived.Test.YtmjeiepljlepbacGreatShelf
import Derived.Test.YtmjeiepljlepbacGreatRows
set_option linter.unusedSimpArgs false
set_option linter.unusedVariables false
set_option maxRecDepth 100000
namespace Go.Proofs.YtmjeiepljlepbacGreat
open Go.ChangeShapes Go.WideShapes Go.ChangeAt Go.RowKit Go.Joins Go.Deep

theorem cells2O : Tryz.prog.cellsOf 2 = 1 := by kernel_rfl
theorem cells3O : Tryz.prog.cellsOf 3 = 1 := by kernel_rfl
theorem cells4O : Tryz.prog.cellsOf 4 = 1 := by kernel_rfl
theorem cells9O : Tryz.prog.cellsOf 9 = 1 := by kernel_rfl
theorem cells25O : Tryz.prog.cellsOf 25 = 1 := by kernel_rfl
theorem cells26O : Tryz.prog.cellsOf 26 = 1 := by kernel_rfl
theorem cells27O : Tryz.prog.cellsOf 27 = 1 := by kernel_rfl
theorem cells29 : Tryz.prog.cellsOf 29 = 4 := by kernel_rfl
theorem one_leB {H : Type} (d : DataW H) : 1 ≤ Rows.uptoBulk d := by
  cases d with
  | lit l => cases l <;> simp [Rows.uptoBulk]
  | nil => simp [Rows.uptoBulk]
  | ptr d => simp [Rows.uptoBulk]
  | slice elems spare => simp [Rows.uptoBulk]
  | agg parts => simp [Rows.uptoBulk]
  | iface t d => simp [Rows.uptoBulk]
  | map entries => simp [Rows.uptoBulk]
  | held h => simp [Rows.uptoBulk]
theorem length_leB {H : Type} : ∀ l : List (DataW H), l.length ≤ Rows.uptoBulkAll l
  | [] => Nat.zero_le _
  | d :: l => by
    have := length_leB l
    have := one_leB d
    rw [Rows.uptoBulkAll, List.length_cons]
    omega
theorem part_leB {H : Type} : ∀ {l : List (DataW H)} {d : DataW H}, d ∈ l → Rows.uptoBulk d ≤ Rows.uptoBulkAll l
  | x :: l, d, h => by
    rw [Rows.uptoBulkAll]
    rcases List.mem_cons.1 h with rfl | h
    · omega
    · have := part_leB h
      omega
theorem sizes_bulk {H : Type} {D : Nat → DataW H} (g : Nat → Ex) : ∀ is : List Nat, (∀ i ∈ is, 8 * (g i).size ≤ Rows.uptoBulk (D i)) → 8 * Ex.sizes (is.map g) ≤ Rows.uptoBulkAll (is.map D)
  | [], _ => by rw [List.map_nil, Ex.sizes]; omega
  | i :: is, h => by
    have h1 := h i (by simp)
    have h2 := sizes_bulk g is fun j hj => h j (by simp [hj])
    rw [List.map_cons, List.map_cons, Ex.sizes, Rows.uptoBulkAll]
    omega
theorem sizes_length : ∀ l : List Ex, l.length ≤ Ex.sizes l
  | [] => Nat.zero_le _
  | e :: l => by
    have := sizes_length l
    rw [Ex.sizes, List.length_cons, Ex.size_mk]
    omega
mutual
theorem high_size : ∀ e : Ex, e.high ≤ e.size
  | .mk op n v l => by
    have := highs_sizes l
    rw [Ex.high, Ex.size]
    omega
theorem highs_sizes : ∀ l : List Ex, Ex.highs l ≤ Ex.sizes l
  | [] => Nat.le_refl _
  | e :: l => by
    have := high_size e
    have := highs_sizes l
    rw [Ex.highs, Ex.sizes]
    omega
end
mutual
theorem meas_ends : ∀ (e : Ex) (N H : Int), (e.size : Int) ≤ N → (e.high : Int) ≤ H → measE allE e N H = ((e.size : Int), (e.high : Int), true)
  | .mk op n v l, N, H, h1, h2 => by
    rw [Ex.size] at h1
    rw [Ex.high] at h2
    rw [measE, if_neg (by simp only [Bool.or_eq_true, decide_eq_true_eq, not_or, Bool.not_eq_true']; exact ⟨⟨by omega, by omega⟩, by simp [allE]⟩)]
    rw [measL_ends l N H 1 0 (by omega) (by omega) (by omega) (by omega), Ex.size, Ex.high]
    simp only [Prod.mk.injEq, and_true]
    constructor <;> omega
theorem measL_ends : ∀ (l : List Ex) (N H c h : Int), 0 ≤ c → 0 ≤ h → c + (Ex.sizes l : Int) ≤ N → (Ex.highs l : Int) ≤ H - 1 → measL allE l N H c h = some (c + (Ex.sizes l : Int), max h (Ex.highs l : Int))
  | [], N, H, c, h, h1, h2, h3, h4 => by
    rw [measL, Ex.sizes, Ex.highs]
    simp only [Option.some.injEq, Prod.mk.injEq]
    constructor <;> omega
  | e :: l, N, H, c, h, h1, h2, h3, h4 => by
    rw [Ex.sizes] at h3
    rw [Ex.highs] at h4
    rw [measL, meas_ends e (N - c) (H - 1) (by omega) (by omega)]
    simp only [if_true]
    rw [measL_ends l N H _ _ (by omega) (by omega) (by omega) (by omega), Ex.sizes, Ex.highs]
    simp only [Option.some.injEq, Prod.mk.injEq]
    constructor <;> omega
end
theorem ends_of {e : Ex} (h : e.size ≤ 131072) : (measE allE e 33554432 131072).2.2 = true := by
  have := high_size e
  rw [meas_ends e 33554432 131072 (by omega) (by omega)]
section
variable {H : Type} {enc : TypeId × Value → H} {w : World} {base : Nat} {spare : Nat → Bool} {held : Bool}
set_option maxRecDepth 100000 in
theorem open_exB : ∀ (k : Nat) (d : DataW H), SizeOf.sizeOf d ≤ k → Rows.uptoBulk d ≤ 1048576 → ∀ {n : Nat} {cs : List Value} {ps : List MemPlace}, DataW.trod enc Tryz.prog w base spare held n 59 cs = some (d, ps) →
    ∃ (e : Ex) (a : Option Addr) (c : Nat), cs = [.int .i64 e.op, .int .i64 e.n, .int .i64 e.v.k, .int .i64 e.v.n, .string e.v.s, .slice a e.args.length c] ∧ Ex.all w a e.args ∧ e.fin ∧ 8 * e.size ≤ Rows.uptoBulk d
  | 0, d, hs, _, _, _, _, _ => by cases d <;> simp at hs
  | k + 1, d, hs, hw, n, cs, ps, h => by
    obtain ⟨y0, y1, y2, y3, n', hx, hl, h0, h1, h2, h3⟩ := trod_struct4 Tryz.underlying59 h
    simp only [Prod.mk.injEq] at hx
    obtain ⟨rfl, _⟩ := hx
    rw [cells26] at hl
    match cs, hl with
    | [c0, c1, c2, c3, c4, c5], _ =>
      simp only [cells3, cells23, cells24, List.drop_zero, List.take_succ_cons, List.take_zero, List.drop_succ_cons] at h0 h1 h2 h3
      obtain ⟨op, e0, q0, w0⟩ := DataW.trod_int Tryz.underlying3 h0
      obtain ⟨m, e1, q1, w1⟩ := DataW.trod_int Tryz.underlying3 h1
      obtain ⟨z0, z1, z2, n2, hz, hzl, g0, g1, g2⟩ := trod_struct3 Tryz.underlying38 h2
      simp only [cells3, cells2, cells9, List.drop_zero, List.take_succ_cons, List.take_zero, List.drop_succ_cons] at g0 g1 g2
      obtain ⟨vk, e2, r0, wk⟩ := DataW.trod_int Tryz.underlying3 g0
      obtain ⟨vn, e3, r1, wn⟩ := DataW.trod_int Tryz.underlying2 g1
      obtain ⟨vs, e4, r2, ws⟩ := DataW.trod_string Tryz.underlying9 g2
      simp only [List.cons.injEq, and_true] at e0 e1 e2 e3 e4
      subst e0 e1 e2 e3 e4
      have hb2 : Rows.uptoBulk y2.1 = vs.size + 4 := by
        have hz2 : y2.1 = .agg [z0.1, z1.1, z2.1] := by rw [hz]
        rw [hz2, r0, r1, r2]
        simp only [Rows.uptoBulk, Rows.uptoBulkAll]
        have e : vs.data.toList.length = vs.size := by rw [Array.length_toList]; rfl
        omega
      have hbd : Rows.uptoBulk (.agg [y0.1, y1.1, y2.1, y3.1]) = vs.size + 7 + Rows.uptoBulk y3.1 := by
        rw [q0, q1]
        simp only [Rows.uptoBulk, Rows.uptoBulkAll]
        omega
      rw [hbd] at hw ⊢
      have hvs : vs.size ≤ 140737488355328 := by omega
      rcases open_slice Tryz.underlying57 h3 with ⟨hcs, hx⟩ | ⟨a, len, cap, mm, n3, D, Pl, hcs, hb, hl3, hm, hmm, hx, hel⟩
      · simp only [List.cons.injEq, and_true] at hcs
        subst hcs
        refine ⟨.mk op m ⟨vk, vn, vs⟩ [], none, 0, rfl, by rw [Ex.args, Ex.all]; trivial, ?_, ?_⟩
        · rw [Ex.fin]
          exact ⟨⟨Nat.zero_le _, hvs, in64_of wn, in64_of w1⟩, by rw [Ex.fins]; trivial⟩
        · have := one_leB y3.1
          rw [Ex.size, Ex.sizes]
          omega
      · simp only [List.cons.injEq, and_true] at hcs
        subst hcs
        have hlm : len ≤ mm := by rw [hmm]; split <;> omega
        have hy3 : y3.1 = .slice ((List.range len).map D) ((List.range (mm - len)).map fun j => D (len + j)) := by rw [hx]
        have hb3 : Rows.uptoBulk y3.1 = Rows.uptoBulkAll ((List.range len).map D) + Rows.uptoBulkAll ((List.range (mm - len)).map fun j => D (len + j)) + 1 := by rw [hy3, Rows.uptoBulk]
        have hbyt : len ≤ 140737488355328 := by
          have := length_leB ((List.range len).map D)
          rw [List.length_map, List.length_range] at this
          omega
        have hel2 : ∀ i, i < len → ∃ (q : Ex × Option Addr × Nat), w.cells? base (a.add (i * 6)) 6 = some [.int .i64 q.1.op, .int .i64 q.1.n, .int .i64 q.1.v.k, .int .i64 q.1.v.n, .string q.1.v.s, .slice q.2.1 q.1.args.length q.2.2] ∧ Ex.all w q.2.1 q.1.args ∧ q.1.fin ∧ 8 * q.1.size ≤ Rows.uptoBulk (D i) := by
          intro i hi
          obtain ⟨cs', g1, g2⟩ := hel i (by omega)
          rw [cells26] at g1
          have hmem : D i ∈ (List.range len).map D := List.mem_map.2 ⟨i, List.mem_range.2 hi, rfl⟩
          have hsz : SizeOf.sizeOf (D i) ≤ k := by
            have s1 := List.sizeOf_lt_of_mem hmem
            rw [hy3] at hs
            simp only [DataW.agg.sizeOf_spec, DataW.slice.sizeOf_spec, List.cons.sizeOf_spec, List.nil.sizeOf_spec] at hs
            omega
          obtain ⟨e', a', c', r1, r2, r3, r4⟩ := open_exB k (D i) hsz (by have := part_leB hmem; omega) g2
          exact ⟨(e', a', c'), by rw [g1, r1], r2, r3, r4⟩
        have inst : Inhabited (Ex × Option Addr × Nat) := ⟨(.mk 0 0 .null [], none, 0)⟩
        obtain ⟨f, hfx⟩ := choose_lt (α := Ex × Option Addr × Nat) (n := len) hel2
        have hlen : ((List.range len).map fun i => (f i).1).length = len := by simp
        refine ⟨.mk op m ⟨vk, vn, vs⟩ ((List.range len).map fun i => (f i).1), some a, cap, ?_, ?_, ?_, ?_⟩
        · show _ = [_, _, _, _, _, Value.slice (some a) ((List.range len).map fun i => (f i).1).length cap]
          rw [hlen]; rfl
        · show Ex.all w (some a) ((List.range len).map fun i => (f i).1)
          by_cases hl0 : len = 0
          · subst hl0; show Ex.all w (some a) []; rw [Ex.all]; trivial
          · obtain ⟨b, off, spot⟩ := a
            have hc0 := (World.cells?_some (hfx 0 (by omega)).1).2.2 0 (by omega)
            have hspot : spot = none := by simpa [Addr.add] using World.cell?_spot hc0
            subst hspot
            refine Ex.all_of _ off fun i e' he => ?_
            obtain ⟨hi, rfl⟩ := List.getElem?_eq_some_iff.1 he
            have hi' : i < len := by simpa using hi
            have hc := (World.cells?_some (hfx i hi').1).2.2
            have d0 := hc 0 (by omega)
            have d1 := hc 1 (by omega)
            have d2 := hc 2 (by omega)
            have d3 := hc 3 (by omega)
            have d4 := hc 4 (by omega)
            have d5 := hc 5 (by omega)
            have ea : ∀ (o n : Nat), (⟨b, o, none⟩ : Addr).add n = ⟨b, o + n, none⟩ := by
              intro o n
              by_cases h : n = 0 <;> simp [Addr.add, h]
            rw [ea, ea] at d0 d1 d2 d3 d4 d5
            simp only [List.getElem_map, List.getElem_range]
            exact Ex.at_mk ⟨by simpa using d0, by simpa using d1, by simpa using d2, by simpa using d3, by simpa using d4, by simpa using d5⟩ (hfx i hi').2.1
        · rw [Ex.fin]
          refine ⟨⟨by rw [hlen]; exact hbyt, hvs, in64_of wn, in64_of w1⟩, Ex.fins_of _ fun x hx => ?_⟩
          obtain ⟨i, hi, rfl⟩ := List.mem_map.1 hx
          exact (hfx i (by simpa using hi)).2.2.1
        · have := sizes_bulk (D := D) (fun i => (f i).1) (List.range len) fun i hi => (hfx i (List.mem_range.1 hi)).2.2.2
          rw [Ex.size]
          omega
/-- A slice of one-cell elements that came in, laid open. -/
theorem open_lis {α : Type} [Inhabited α] {t e fuel : Nat} {v : Value} {y : DataW H × List MemPlace} (mk : α → Value) (ht : Tryz.prog.underlying t = some (.slice e)) (hc : Tryz.prog.cellsOf e = 1)
    (hE : ∀ n v y, DataW.trod enc Tryz.prog w base spare held n e [v] = some y → ∃ b, v = mk b) (h : DataW.trod enc Tryz.prog w base spare held fuel t [v] = some y) :
    ∃ (a : Option Addr) (cap : Nat) (xs : List α), v = .slice a xs.length cap ∧ Vv.LisAt w a (xs.map mk) ∧ xs.length ≤ Rows.uptoBulk y.1 := by
  rcases open_slice1 ht hc h with ⟨hcs, hx⟩ | ⟨a, len, cap, m, n, V, D, Pl, hcs, hb, hl, hm, hmm, hx, hel⟩
  · simp only [List.cons.injEq, and_true] at hcs
    subst hcs
    exact ⟨none, 0, [], rfl, .inl rfl, Nat.zero_le _⟩
  · simp only [List.cons.injEq, and_true] at hcs
    subst hcs
    have hlm : len ≤ m := by rw [hmm]; split <;> omega
    obtain ⟨f, hf⟩ := choose_lt (α := α) (n := len) (p := fun i x => V i = mk x) (fun i hi => hE _ _ _ (hel i (by omega)).2)
    have hlen : ((List.range len).map f).length = len := by simp
    refine ⟨some a, cap, (List.range len).map f, by rw [hlen], ?_, ?_⟩
    · by_cases h0 : len = 0
      · left; subst h0; rfl
      · right
        obtain ⟨b, off, spot⟩ := a
        have hc0 := (hel 0 (by omega)).1
        have hspot : spot = none := by simpa [Addr.add] using World.cell?_spot hc0
        subst hspot
        refine ⟨b, off, rfl, fun i x hx => ?_⟩
        obtain ⟨hi, rfl⟩ := List.getElem?_eq_some_iff.1 hx
        have hi' : i < len := by simpa using hi
        have hci := (hel i (by omega)).1
        have ea : ∀ (o n : Nat), (⟨b, o, none⟩ : Addr).add n = ⟨b, o + n, none⟩ := by
          intro o n
          by_cases h : n = 0 <;> simp [Addr.add, h]
        rw [ea] at hci
        rw [hci, hf i hi']
        simp
    · rw [hlen, hx]
      have := length_leB ((List.range len).map D)
      simp only [Rows.uptoBulk]
      simp at this
      omega

theorem open_colO {n : Nat} {cs : List Value} {y : DataW H × List MemPlace} (h : DataW.trod enc Tryz.prog w base spare held n 29 cs = some y) :
    ∃ (c : Col), cs = [.int .i64 c.1.k, .slice c.2.a1 c.1.nl.length c.2.c1, .slice c.2.a2 c.1.ns.length c.2.c2, .slice c.2.a3 c.1.ss.length c.2.c3] ∧ Vv.VecAt w c.1 c.2 ∧ c.1.nl.length ≤ Rows.uptoBulk y.1 ∧ c.1.ns.length ≤ Rows.uptoBulk y.1 ∧ c.1.ss.length ≤ Rows.uptoBulk y.1 ∧ ∀ x ∈ c.1.ns, In64 x := by
  obtain ⟨y0, y1, y2, y3, m, hx, hl, h0, h1, h2, h3⟩ := trod_struct4 Tryz.underlying29 h
  rw [cells29] at hl
  match cs, hl with
  | [c0, c1, c2, c3], _ =>
    simp only [cells3O, cells25O, cells26O, cells27O, List.drop_zero, List.take_succ_cons, List.take_zero, List.drop_succ_cons] at h0 h1 h2 h3
    obtain ⟨k, e0, rfl, wk⟩ := DataW.trod_int Tryz.underlying3 h0
    simp only [List.cons.injEq, and_true] at e0
    subst e0
    obtain ⟨a1, d1, nl, rfl, l1, b1⟩ := open_lis (α := Bool) (.bool) Tryz.underlying25 cells4O (fun n v y h => by obtain ⟨b, e, _⟩ := DataW.trod_bool Tryz.underlying4 h; exact ⟨b, by simpa using e⟩) h1
    have inst2 : Inhabited {z : Int // In64 z} := ⟨⟨0, by unfold In64; omega⟩⟩
    obtain ⟨a2, d2, ns, rfl, l2, b2⟩ := open_lis (α := {z : Int // In64 z}) (fun z => .int .i64 z.1) Tryz.underlying26 cells2O (fun n v y h => by obtain ⟨b, e, _, wf⟩ := DataW.trod_int Tryz.underlying2 h; exact ⟨⟨b, in64_of wf⟩, by simpa using e⟩) h2
    have inst : Inhabited ByteArray := ⟨⟨#[]⟩⟩
    obtain ⟨a3, d3, ss, rfl, l3, b3⟩ := open_lis (α := ByteArray) (.string) Tryz.underlying27 cells9O (fun n v y h => by obtain ⟨b, e, _⟩ := DataW.trod_string Tryz.underlying9 h; exact ⟨b, by simpa using e⟩) h3
    have hl2 : (ns.map (·.1)).length = ns.length := by simp
    refine ⟨(⟨k, nl, ns.map (·.1), ss⟩, ⟨a1, d1, a2, d2, a3, d3⟩), ?_, ⟨l1, ?_, l3⟩, ?_, ?_, ?_, ?_⟩
    · show _ = [_, _, Value.slice a2 (ns.map (·.1)).length d2, _]
      rw [hl2]
    · show Vv.LisAt w a2 ((ns.map (·.1)).map (.int .i64))
      rw [List.map_map]
      exact l2
    · rw [hx]
      simp only [Rows.uptoBulk, Rows.uptoBulkAll]
      omega
    · rw [hx]
      simp only [Rows.uptoBulk, Rows.uptoBulkAll, hl2]
      omega
    · rw [hx]
      simp only [Rows.uptoBulk, Rows.uptoBulkAll]
      omega
    · intro x hx
      obtain ⟨z, _, rfl⟩ := List.mem_map.1 hx
      exact z.2
theorem open_colsO {r : Reach} {b0 : Nat} {v : Value} {d : DataW H} {p : List MemPlace}
    (hv : Value.okWide Tryz.prog w r b0 49 v) (h : DataW.Trod enc Tryz.prog w base spare held 49 v d p) (hd : Rows.uptoBulk d ≤ 1048576) :
    ∃ (a : Option Addr) (cap : Nat) (Cs : List Col), v = .slice a Cs.length cap ∧ Cs.length ≤ 1048576 ∧ (∀ c ∈ Cs, Vv.small c.1 ∧ ∀ x ∈ c.1.ns, In64 x) ∧ Vv.ColsAt w a Cs := by
  obtain ⟨a0, len, cap, rfl⟩ := okWide_slice Tryz.underlying49 hv
  obtain ⟨fuel, hf⟩ := h
  rcases open_slice Tryz.underlying49 hf with ⟨hcs, hx⟩ | ⟨a, len', cap', m, n, D, Pl, hcs, hb, hl, hm, hmm, hx, hel⟩
  · simp [Value.cells] at hcs
    obtain ⟨rfl, rfl, rfl⟩ := hcs
    exact ⟨none, 0, [], rfl, Nat.zero_le _, by simp, .inl rfl, by simp⟩
  · simp [Value.cells] at hcs
    obtain ⟨rfl, rfl, rfl⟩ := hcs
    simp only [Prod.mk.injEq] at hx
    have hlm : len ≤ m := by rw [hmm]; split <;> omega
    rw [hx.1] at hd
    simp only [Rows.uptoBulk] at hd
    have hlen1 := length_leB ((List.range len).map D)
    simp only [List.length_map, List.length_range] at hlen1
    have hel2 : ∀ i, i < len → ∃ c : Col, w.cells? base (a.add (i * 4)) 4 = some [.int .i64 c.1.k, .slice c.2.a1 c.1.nl.length c.2.c1, .slice c.2.a2 c.1.ns.length c.2.c2, .slice c.2.a3 c.1.ss.length c.2.c3] ∧ Vv.VecAt w c.1 c.2 ∧ Vv.small c.1 ∧ ∀ x ∈ c.1.ns, In64 x := by
      intro i hi
      obtain ⟨cs', h1, h2⟩ := hel i (by omega)
      rw [cells29] at h1
      obtain ⟨c, rfl, g1, g2, g3, g4, g5⟩ := open_colO h2
      have := part_leB (d := D i) (l := (List.range len).map D) (List.mem_map.2 ⟨i, List.mem_range.2 hi, rfl⟩)
      simp only at g2 g3 g4
      exact ⟨c, h1, g1, ⟨by omega, by omega, by omega⟩, g5⟩
    have inst : Inhabited Col := ⟨(Vv.Vc.zero, ⟨none, 0, none, 0, none, 0⟩)⟩
    obtain ⟨f, hfx⟩ := choose_lt (α := Col) (n := len) hel2
    have hlen : ((List.range len).map f).length = len := by simp
    refine ⟨some a, cap, (List.range len).map f, by rw [hlen], by rw [hlen]; omega, ?_, ?_, ?_⟩
    · intro c hc
      obtain ⟨i, hi, rfl⟩ := List.mem_map.1 hc
      exact (hfx i (by simpa using hi)).2.2
    · by_cases h0 : len = 0
      · left; subst h0; rfl
      · right
        obtain ⟨b, off, spot⟩ := a
        have hc0 := (World.cells?_some (hfx 0 (by omega)).1).2.2 0 (by omega)
        have hspot : spot = none := by simpa [Addr.add] using World.cell?_spot hc0
        subst hspot
        refine ⟨b, off, rfl, fun i x hx => ?_⟩
        obtain ⟨hi, rfl⟩ := List.getElem?_eq_some_iff.1 hx
        have hi' : i < len := by simpa using hi
        have hc := (World.cells?_some (hfx i hi').1).2.2
        have e0 := hc 0 (by omega)
        have e1 := hc 1 (by omega)
        have e2 := hc 2 (by omega)
        have e3 := hc 3 (by omega)
        simp only [List.getElem_map, List.getElem_range]
        have ea : ∀ (o n : Nat), (⟨b, o, none⟩ : Addr).add n = ⟨b, o + n, none⟩ := by
          intro o n
          by_cases h : n = 0 <;> simp [Addr.add, h]
        rw [ea, ea] at e0 e1 e2 e3
        exact ⟨by simpa using e0, by simpa using e1, by simpa using e2, by simpa using e3⟩
    · intro c hc
      obtain ⟨i, hi, rfl⟩ := List.mem_map.1 hc
      exact (hfx i (by simpa using hi)).2.1
set_option maxRecDepth 100000 in
theorem open_exprB {r : Reach} {b0 : Nat} {v : Value} {d : DataW H} {p : List MemPlace} (hv : Value.okWide Tryz.prog w r b0 59 v) (h : DataW.Trod enc Tryz.prog w base spare held 59 v d p) (hw : Rows.uptoBulk d ≤ 1048576) :
    ∃ (e : Ex) (a : Option Addr) (c : Nat), v = e.val a c ∧ Ex.all w a e.args ∧ e.fin ∧ 8 * e.size ≤ Rows.uptoBulk d := by
  obtain ⟨cs, rfl, hsz⟩ := okWide_struct Tryz.underlying59 hv
  obtain ⟨fuel, hf⟩ := h
  obtain ⟨e, a, c, h1, h2, h3, h5⟩ := open_exB (SizeOf.sizeOf d) d (Nat.le_refl _) hw hf
  refine ⟨e, a, c, ?_, h2, h3, h5⟩
  rw [Ex.val_open]
  congr 1
  have h4 : cs.toList = [.int .i64 e.op, .int .i64 e.n, .int .i64 e.v.k, .int .i64 e.v.n, .string e.v.s, .slice a e.args.length c] := h1
  rw [← Array.toArray_toList (xs := cs), h4]
theorem open_intO {r : Reach} {b0 : Nat} {v : Value} (hv : Value.okWide Tryz.prog w r b0 3 v) : ∃ n, v = .int .i64 n := by
  exact okWide_int Tryz.underlying3 hv
end

set_option maxRecDepth 100000 in
theorem eo_contract (H : Type) (enc : TypeId × Value → H) (W : World) (base : Nat) (args : Array Value) (ds gs : List (DataW H)) (before : List MemPlace)
    (hval : ∀ (j : Nat) t v, Tryz.f5.params[j]? = some t → args[j]? = some v → Value.okWide Tryz.prog W .any base t v)
    (hW : DataW.Whole enc Tryz.prog Tryz.f5.params.toList Rows.exprOverSpec.vars false W args.toList ds gs before) (hk : Rows.uptoSmall H (ds ++ gs) = true) :
    Calls Tryz.prog 5 args W fun e W' => ∃ v, e = .returned v ∧ Rows.exprOverSpec.post enc Tryz.prog Tryz.f5 false true false false W args v W' := by
  have hW' := hW
  obtain ⟨p, q, hA0, hV, rfl, hfz, hnd⟩ := hW
  have hA : DataW.TrodAll enc Tryz.prog W 0 (fun _ => true) true Tryz.f5.params.toList args.toList ds p := hA0
  rw [Tryz.params5] at hA hval
  obtain ⟨v0, vs0, d0, ds0, p0, q0, hargs, rfl, rfl, h0, r0⟩ := trodAll_cons hA
  obtain ⟨v1, vs1, d1, ds1, p1, q1, rfl, rfl, rfl, h1, r1⟩ := trodAll_cons r0
  obtain ⟨v2, vs2, d2, ds2, p2, q2, rfl, rfl, rfl, h2, r2⟩ := trodAll_cons r1
  obtain ⟨rfl, rfl, rfl⟩ := trodAll_nil r2
  obtain rfl : args = #[v0, v1, v2] := by cases args; simp_all
  obtain ⟨rfl, rfl⟩ := trodVars_none hV
  have k0 := h0
  have lt0 : ∀ x ∈ p0, x.block < W.heap.size := by obtain ⟨m, hm⟩ := k0; exact DataW.trod_lt m _ _ _ hm
  have k1 := h1
  have lt1 : ∀ x ∈ p1, x.block < W.heap.size := by obtain ⟨m, hm⟩ := k1; exact DataW.trod_lt m _ _ _ hm
  have k2 := h2
  have lt2 : ∀ x ∈ p2, x.block < W.heap.size := by obtain ⟨m, hm⟩ := k2; exact DataW.trod_lt m _ _ _ hm
  have hb : Rows.uptoBulk d0 + (Rows.uptoBulk d1 + Rows.uptoBulk d2) ≤ 1048576 := by
    have h : Rows.uptoBulkAll ([d0, d1, d2] ++ []) ≤ 1048576 := of_decide_eq_true hk
    simp only [List.append_nil, Rows.uptoBulkAll] at h
    omega
  have g0 := one_leB d0
  have g1 := one_leB d1
  have g2 := one_leB d2
  obtain ⟨e, a, c, rfl, hea, hef, hes⟩ := open_exprB (hval 0 59 v0 rfl rfl) h0 (by omega)
  obtain ⟨aC, cC, Cs, rfl, hCl, hCs, hC⟩ := open_colsO (hval 1 49 v1 rfl rfl) h1 (by omega)
  obtain ⟨n, rfl⟩ := open_intO (hval 2 3 v2 rfl rfl)
  clear hA0
  refine (law_eo Cs n e hef (by omega) (fun x hx => (hCs x hx).1) (fun x hx => (hCs x hx).2) aC cC a c W hea hC).mono fun r W' ⟨he, bel⟩ => ?_
  subst he
  exact ⟨_, rfl, _, _, _, [], _, [], hW', trodAll_mk1 (shut_bool Tryz.underlying4 _), (trodAll_cons_mk (Below.trod laidT (by kernel_rfl) (of_decide_eq_true (by kernel_rfl)) k0 bel lt0) (trodAll_cons_mk (Below.trod laidT (by kernel_rfl) (of_decide_eq_true (by kernel_rfl)) k1 bel lt1) (trodAll_cons_mk (Below.trod laidT (by kernel_rfl) (of_decide_eq_true (by kernel_rfl)) k2 bel lt2) trodAll_mk0))), rfl, bel.frame _, fun h => by cases h⟩

set_option maxRecDepth 100000 in
theorem eo_lifted (os : Os) (started : os.Started) (H : Type) (enc : TypeId × Value → H) (F : Stop.Interp) :
    ReturnsInHanded {} Tryz.checked os 5 .any ((Rows.OpenSpec.upto Rows.exprOverSpec).pre6 enc Tryz.prog Tryz.f5 Rows.exprOverUptoRow.domain false) (((Rows.OpenSpec.upto Rows.exprOverSpec).at F).post enc Tryz.prog Tryz.f5 false true false false) := by
  refine returnsInHanded_of_cond (C := Tryz.checked) (s := Rows.OpenSpec.upto Rows.exprOverSpec) (k := Rows.uptoSmall) rfl ownT started (by kernel_rfl) Tryz.func5
    (OpenSpec.witness (enc := enc) (C := Tryz.checked) (s := Rows.OpenSpec.upto Rows.exprOverSpec) (k := Rows.uptoSmall) rfl false ⟨#[], #[.agg #[.int .i64 0, .int .i64 0, .int .i64 0, .int .i64 0, .string ⟨#[]⟩, .slice none 0 0], .slice none 0 0, .int .i64 0], []⟩ 8 (by kernel_rfl) (by kernel_rfl) (by kernel_rfl)
      (x := ([.agg [.lit (.int .i64 0), .lit (.int .i64 0), .agg [.lit (.int .i64 0), .lit (.int .i64 0), .lit (.string [])], .nil], .nil, .lit (.int .i64 0)], [], [])) (by kernel_rfl) rfl (by kernel_rfl)) ?_
  intro W base args ds gs before hval hW _ hk _
  exact eo_contract H enc W base args ds gs before hval hW hk

set_option maxRecDepth 100000 in
theorem eo_holds : Rows.ExprOverUptoSaid :=
  OpenClaim.holds_of_cond 5 Tryz.f5 rfl rfl rfl rfl rfl rfl rfl ⟨rfl, rfl, rfl, rfl, rfl⟩ rfl rfl rfl rfl rfl (by kernel_rfl) Tryz.func5 (by kernel_rfl)
    (of_decide_eq_true (by kernel_rfl)) (by unfold Func.isWrapper; first | (rw [if_pos (by decide +kernel)]; kernel_rfl) | (rw [if_neg (by decide +kernel)]; exact ⟨rfl, rfl⟩))
    (fun os started H enc _ F => eo_lifted os started H enc F)
#print axioms eo_holds
end Go.Proofs.YtmjeiepljlepbacGreat

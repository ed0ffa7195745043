import Derived.Test.YtmjeiepljlepbacGreatOvH
import Derived.Test.YtmjeiepljlepbacGreatShelf
import Derived.Test.YtmjeiepljlepbacGreatRows
set_option linter.unusedSimpArgs false
set_option linter.unusedVariables false
set_option maxRecDepth 100000
namespace Go.Proofs.YtmjeiepljlepbacGreat
open Go.ChangeShapes Go.WideShapes Go.ChangeAt Go.RowKit Go.Joins Go.Deep

theorem cells2O : Tryz.prog.cellsOf 2 = 1 := by kernel_rfl
theorem cells3O : Tryz.prog.cellsOf 3 = 1 := by kernel_rfl
theorem cells4O : Tryz.prog.cellsOf 4 = 1 := by kernel_rfl
theorem cells9O : Tryz.prog.cellsOf 9 = 1 := by kernel_rfl
theorem cells25O : Tryz.prog.cellsOf 25 = 1 := by kernel_rfl
theorem cells26O : Tryz.prog.cellsOf 26 = 1 := by kernel_rfl
theorem cells27O : Tryz.prog.cellsOf 27 = 1 := by kernel_rfl
theorem cells29 : Tryz.prog.cellsOf 29 = 4 := by kernel_rfl
theorem bytes2O : Tryz.prog.bytesOf 2 = 8 := by kernel_rfl
theorem bytes4O : Tryz.prog.bytesOf 4 = 1 := by kernel_rfl
theorem bytes9O : Tryz.prog.bytesOf 9 = 16 := by kernel_rfl
theorem bytes29O : Tryz.prog.bytesOf 29 = 80 := by kernel_rfl
section
variable {H : Type} {enc : TypeId × Value → H} {w : World} {base : Nat} {spare : Nat → Bool} {held : Bool}
/-- A slice of one-cell elements that came in, laid open. -/
theorem open_lisW {α : Type} [Inhabited α] {t e fuel B : Nat} {v : Value} {y : DataW H × List MemPlace} (mk : α → Value) (ht : Tryz.prog.underlying t = some (.slice e)) (hc : Tryz.prog.cellsOf e = 1) (hB : Tryz.prog.bytesOf e = B)
    (hE : ∀ n v y, DataW.trod enc Tryz.prog w base spare held n e [v] = some y → ∃ b, v = mk b) (h : DataW.trod enc Tryz.prog w base spare held fuel t [v] = some y) (hw : ∀ n ∈ y.1.weights Tryz.prog t, n ≤ reachBytes) :
    ∃ (a : Option Addr) (cap : Nat) (xs : List α), v = .slice a xs.length cap ∧ Vv.LisAt w a (xs.map mk) ∧ xs.length * B ≤ reachBytes := by
  rcases open_slice1 ht hc h with ⟨hcs, hx⟩ | ⟨a, len, cap, m, n, V, D, Pl, hcs, hb, hl, hm, hmm, hx, hel⟩
  · simp only [List.cons.injEq, and_true] at hcs
    subst hcs
    exact ⟨none, 0, [], rfl, .inl rfl, by simp⟩
  · simp only [List.cons.injEq, and_true] at hcs
    subst hcs
    have hlm : len ≤ m := by rw [hmm]; split <;> omega
    obtain ⟨f, hf⟩ := choose_lt (α := α) (n := len) (p := fun i x => V i = mk x) (fun i hi => hE _ _ _ (hel i (by omega)).2)
    have hlen : ((List.range len).map f).length = len := by simp
    refine ⟨some a, cap, (List.range len).map f, by rw [hlen], ?_, ?_⟩
    · by_cases h0 : len = 0
      · left; subst h0; rfl
      · right
        obtain ⟨b, off, spot⟩ := a
        have hc0 := (hel 0 (by omega)).1
        have hspot : spot = none := by simpa [Addr.add] using World.cell?_spot hc0
        subst hspot
        refine ⟨b, off, rfl, fun i x hx => ?_⟩
        obtain ⟨hi, rfl⟩ := List.getElem?_eq_some_iff.1 hx
        have hi' : i < len := by simpa using hi
        have hci := (hel i (by omega)).1
        have ea : ∀ (o n : Nat), (⟨b, o, none⟩ : Addr).add n = ⟨b, o + n, none⟩ := by
          intro o n
          by_cases h : n = 0 <;> simp [Addr.add, h]
        rw [ea] at hci
        rw [hci, hf i hi']
        simp
    · rw [hlen]
      have := hw ((((List.range len).map D).length + ((List.range (m - len)).map fun j => D (len + j)).length) * Tryz.prog.bytesOf e) (by rw [hx]; simp [DataW.weights, ht])
      rw [hB] at this
      refine Nat.le_trans (Nat.mul_le_mul_right B ?_) this
      simp
theorem open_colW {n : Nat} {cs : List Value} {y : DataW H × List MemPlace} (h : DataW.trod enc Tryz.prog w base spare held n 29 cs = some y) (hw : ∀ n ∈ y.1.weights Tryz.prog (29), n ≤ reachBytes) :
    ∃ (c : Col), cs = [.int .i64 c.1.k, .slice c.2.a1 c.1.nl.length c.2.c1, .slice c.2.a2 c.1.ns.length c.2.c2, .slice c.2.a3 c.1.ss.length c.2.c3] ∧ Vv.VecAt w c.1 c.2 ∧ Vv.small c.1 ∧ ∀ x ∈ c.1.ns, In64 x := by
  obtain ⟨y0, y1, y2, y3, m, hx, hl, h0, h1, h2, h3⟩ := trod_struct4 Tryz.underlying29 h
  rw [cells29] at hl
  have hr := reachBytes_lt
  have hD : y.1 = .agg [y0.1, y1.1, y2.1, y3.1] := by rw [hx]
  have w1 : ∀ n ∈ y1.1.weights Tryz.prog (25), n ≤ reachBytes := fun n hn => hw n (by rw [hD]; simp [DataW.weights, DataW.weightsEach, Tryz.underlying29, hn])
  have w2 : ∀ n ∈ y2.1.weights Tryz.prog (26), n ≤ reachBytes := fun n hn => hw n (by rw [hD]; simp [DataW.weights, DataW.weightsEach, Tryz.underlying29, hn])
  have w3 : ∀ n ∈ y3.1.weights Tryz.prog (27), n ≤ reachBytes := fun n hn => hw n (by rw [hD]; simp [DataW.weights, DataW.weightsEach, Tryz.underlying29, hn])
  match cs, hl with
  | [c0, c1, c2, c3], _ =>
    simp only [cells3O, cells25O, cells26O, cells27O, List.drop_zero, List.take_succ_cons, List.take_zero, List.drop_succ_cons] at h0 h1 h2 h3
    obtain ⟨k, e0, _, wk⟩ := DataW.trod_int Tryz.underlying3 h0
    simp only [List.cons.injEq, and_true] at e0
    subst e0
    obtain ⟨a1, d1, nl, rfl, l1, b1⟩ := open_lisW (α := Bool) (.bool) Tryz.underlying25 cells4O bytes4O (fun n v y h => by obtain ⟨b, e, _⟩ := DataW.trod_bool Tryz.underlying4 h; exact ⟨b, by simpa using e⟩) h1 w1
    have inst2 : Inhabited {z : Int // In64 z} := ⟨⟨0, by unfold In64; omega⟩⟩
    obtain ⟨a2, d2, ns, rfl, l2, b2⟩ := open_lisW (α := {z : Int // In64 z}) (fun z => .int .i64 z.1) Tryz.underlying26 cells2O bytes2O (fun n v y h => by obtain ⟨b, e, _, wf⟩ := DataW.trod_int Tryz.underlying2 h; exact ⟨⟨b, in64_of wf⟩, by simpa using e⟩) h2 w2
    have inst : Inhabited ByteArray := ⟨⟨#[]⟩⟩
    obtain ⟨a3, d3, ss, rfl, l3, b3⟩ := open_lisW (α := ByteArray) (.string) Tryz.underlying27 cells9O bytes9O (fun n v y h => by obtain ⟨b, e, _⟩ := DataW.trod_string Tryz.underlying9 h; exact ⟨b, by simpa using e⟩) h3 w3
    have hl2 : (ns.map (·.1)).length = ns.length := by simp
    refine ⟨(⟨k, nl, ns.map (·.1), ss⟩, ⟨a1, d1, a2, d2, a3, d3⟩), ?_, ⟨l1, ?_, l3⟩, ⟨?_, ?_, ?_⟩, ?_⟩
    · show _ = [_, _, Value.slice a2 (ns.map (·.1)).length d2, _]
      rw [hl2]
    · show Vv.LisAt w a2 ((ns.map (·.1)).map (.int .i64))
      rw [List.map_map]
      exact l2
    · show nl.length ≤ _
      omega
    · show (ns.map (·.1)).length ≤ _
      rw [hl2]
      omega
    · show ss.length ≤ _
      omega
    · intro x hx
      obtain ⟨z, _, rfl⟩ := List.mem_map.1 hx
      exact z.2
theorem open_colsW {r : Reach} {b0 : Nat} {v : Value} {d : DataW H} {p : List MemPlace}
    (hv : Value.okWide Tryz.prog w r b0 49 v) (h : DataW.Trod enc Tryz.prog w base spare held 49 v d p) (hw : ∀ n ∈ d.weights Tryz.prog (49), n ≤ reachBytes) :
    ∃ (a : Option Addr) (cap : Nat) (Cs : List Col), v = .slice a Cs.length cap ∧ Cs.length ≤ 2199023255552 ∧ (∀ c ∈ Cs, Vv.small c.1 ∧ ∀ x ∈ c.1.ns, In64 x) ∧ Vv.ColsAt w a Cs := by
  obtain ⟨a0, len, cap, rfl⟩ := okWide_slice Tryz.underlying49 hv
  obtain ⟨fuel, hf⟩ := h
  rcases open_slice Tryz.underlying49 hf with ⟨hcs, hx⟩ | ⟨a, len', cap', m, n, D, Pl, hcs, hb, hl, hm, hmm, hx, hel⟩
  · simp [Value.cells] at hcs
    obtain ⟨rfl, rfl, rfl⟩ := hcs
    exact ⟨none, 0, [], rfl, Nat.zero_le _, by simp, .inl rfl, by simp⟩
  · simp [Value.cells] at hcs
    obtain ⟨rfl, rfl, rfl⟩ := hcs
    simp only [Prod.mk.injEq] at hx
    have hlm : len ≤ m := by rw [hmm]; split <;> omega
    have hr := reachBytes_lt
    have hlen1 : len ≤ 2199023255552 := by
      have := hw ((((List.range len).map D).length + ((List.range (m - len)).map fun j => D (len + j)).length) * Tryz.prog.bytesOf 29) (by rw [hx.1]; simp [DataW.weights, Tryz.underlying49])
      rw [bytes29O] at this
      simp only [List.length_map, List.length_range] at this
      omega
    have hel2 : ∀ i, i < len → ∃ c : Col, w.cells? base (a.add (i * 4)) 4 = some [.int .i64 c.1.k, .slice c.2.a1 c.1.nl.length c.2.c1, .slice c.2.a2 c.1.ns.length c.2.c2, .slice c.2.a3 c.1.ss.length c.2.c3] ∧ Vv.VecAt w c.1 c.2 ∧ Vv.small c.1 ∧ ∀ x ∈ c.1.ns, In64 x := by
      intro i hi
      obtain ⟨cs', h1, h2⟩ := hel i (by omega)
      rw [cells29] at h1
      obtain ⟨c, rfl, g1, g2, g3⟩ := open_colW h2 (fun n hn => hw n (by
        rw [hx.1]
        simp only [DataW.weights, Tryz.underlying49, List.mem_cons, List.mem_append]
        exact .inr (.inl (weights_all (List.mem_map.2 ⟨i, List.mem_range.2 hi, rfl⟩) n hn))))
      exact ⟨c, h1, g1, g2, g3⟩
    have inst : Inhabited Col := ⟨(Vv.Vc.zero, ⟨none, 0, none, 0, none, 0⟩)⟩
    obtain ⟨f, hfx⟩ := choose_lt (α := Col) (n := len) hel2
    have hlen : ((List.range len).map f).length = len := by simp
    refine ⟨some a, cap, (List.range len).map f, by rw [hlen], by rw [hlen]; omega, ?_, ?_, ?_⟩
    · intro c hc
      obtain ⟨i, hi, rfl⟩ := List.mem_map.1 hc
      exact (hfx i (by simpa using hi)).2.2
    · by_cases h0 : len = 0
      · left; subst h0; rfl
      · right
        obtain ⟨b, off, spot⟩ := a
        have hc0 := (World.cells?_some (hfx 0 (by omega)).1).2.2 0 (by omega)
        have hspot : spot = none := by simpa [Addr.add] using World.cell?_spot hc0
        subst hspot
        refine ⟨b, off, rfl, fun i x hx => ?_⟩
        obtain ⟨hi, rfl⟩ := List.getElem?_eq_some_iff.1 hx
        have hi' : i < len := by simpa using hi
        have hc := (World.cells?_some (hfx i hi').1).2.2
        have e0 := hc 0 (by omega)
        have e1 := hc 1 (by omega)
        have e2 := hc 2 (by omega)
        have e3 := hc 3 (by omega)
        simp only [List.getElem_map, List.getElem_range]
        have ea : ∀ (o n : Nat), (⟨b, o, none⟩ : Addr).add n = ⟨b, o + n, none⟩ := by
          intro o n
          by_cases h : n = 0 <;> simp [Addr.add, h]
        rw [ea, ea] at e0 e1 e2 e3
        exact ⟨by simpa using e0, by simpa using e1, by simpa using e2, by simpa using e3⟩
    · intro c hc
      obtain ⟨i, hi, rfl⟩ := List.mem_map.1 hc
      exact (hfx i (by simpa using hi)).2.1
theorem open_intO {r : Reach} {b0 : Nat} {v : Value} (hv : Value.okWide Tryz.prog w r b0 3 v) : ∃ n, v = .int .i64 n := by
  exact okWide_int Tryz.underlying3 hv
end

set_option maxRecDepth 100000 in
theorem eo_lifted (os : Os) (started : os.Started) (H : Type) (enc : TypeId × Value → H) :
    ReturnsInHanded {} Tryz.checked os 5 .any (Rows.exprOverSpec.pre6 enc Tryz.prog Tryz.f5 Rows.exprOverRow.domain false) (Rows.exprOverSpec.post enc Tryz.prog Tryz.f5 false true false false) := by
  refine returnsInHanded_of_change_sized (C := Tryz.checked) ownT started (by kernel_rfl) Tryz.func5
    (ChangeSpec.witness6 (enc := enc) (C := Tryz.checked) false ⟨#[], #[.agg #[.int .i64 0, .int .i64 0, .int .i64 0, .int .i64 0, .string ⟨#[]⟩, .slice none 0 0], .slice none 0 0, .int .i64 0], []⟩ 8 (by kernel_rfl) (by kernel_rfl) (by kernel_rfl) (by kernel_rfl)) ?_
  intro W base args ds gs before hval0 hW hcnd hsz0 _
  have hval : ∀ (j : Nat) t v, Tryz.f5.params[j]? = some t → args[j]? = some v → Value.okWide Tryz.prog W .any base t v := hval0
  have hsz : (DataW.weightsEach Tryz.prog (Tryz.f5.params.toList ++ Rows.exprOverSpec.plain.varTypes Tryz.prog) (ds ++ gs)).all (· ≤ reachBytes) = true := hsz0
  have hW' := hW
  obtain ⟨p, q, hA0, hV, rfl, hfz, hnd⟩ := hW
  have hA : DataW.TrodAll enc Tryz.prog W 0 (fun _ => true) true Tryz.f5.params.toList args.toList ds p := hA0
  rw [Tryz.params5] at hA hval hsz
  obtain ⟨v0, vs0, d0, ds0, p0, q0, hargs, rfl, rfl, h0, r0⟩ := trodAll_cons hA
  obtain ⟨v1, vs1, d1, ds1, p1, q1, rfl, rfl, rfl, h1, r1⟩ := trodAll_cons r0
  obtain ⟨v2, vs2, d2, ds2, p2, q2, rfl, rfl, rfl, h2, r2⟩ := trodAll_cons r1
  obtain ⟨rfl, rfl, rfl⟩ := trodAll_nil r2
  obtain rfl : args = #[v0, v1, v2] := by cases args; simp_all
  obtain ⟨rfl, rfl⟩ := trodVars_none hV
  have k0 := h0
  have lt0 : ∀ x ∈ p0, x.block < W.heap.size := by obtain ⟨m, hm⟩ := k0; exact DataW.trod_lt m _ _ _ hm
  have k1 := h1
  have lt1 : ∀ x ∈ p1, x.block < W.heap.size := by obtain ⟨m, hm⟩ := k1; exact DataW.trod_lt m _ _ _ hm
  have k2 := h2
  have lt2 : ∀ x ∈ p2, x.block < W.heap.size := by obtain ⟨m, hm⟩ := k2; exact DataW.trod_lt m _ _ _ hm
  have hall := List.all_eq_true.1 hsz
  have hw0 : ∀ n ∈ d0.weights Tryz.prog (59), n ≤ reachBytes := fun n hn => by have := hall n (DataW.weights_mem_each (j := 0) rfl rfl n hn); simpa using this
  have hw1 : ∀ n ∈ d1.weights Tryz.prog (49), n ≤ reachBytes := fun n hn => by have := hall n (DataW.weights_mem_each (j := 1) rfl rfl n hn); simpa using this
  obtain ⟨e, a, c, rfl, hea, hef⟩ := open_expr (hval 0 59 v0 rfl rfl) h0 hw0
  obtain ⟨aC, cC, Cs, rfl, hCl, hCs, hC⟩ := open_colsW (hval 1 49 v1 rfl rfl) h1 hw1
  obtain ⟨n, rfl⟩ := open_intO (hval 2 3 v2 rfl rfl)
  clear hA0 hval0 hsz hsz0
  refine (law_eo Cs n e hef hCl (fun x hx => (hCs x hx).1) (fun x hx => (hCs x hx).2) aC cC a c W hea hC).mono fun r W' ⟨he, bel⟩ => ?_
  subst he
  exact ⟨_, rfl, _, _, _, [], _, [], hW', trodAll_mk1 (shut_bool Tryz.underlying4 _), (trodAll_cons_mk (Below.trod laidT (by kernel_rfl) (of_decide_eq_true (by kernel_rfl)) k0 bel lt0) (trodAll_cons_mk (Below.trod laidT (by kernel_rfl) (of_decide_eq_true (by kernel_rfl)) k1 bel lt1) (trodAll_cons_mk (Below.trod laidT (by kernel_rfl) (of_decide_eq_true (by kernel_rfl)) k2 bel lt2) trodAll_mk0))), rfl, bel.frame _, fun h => by cases h⟩

theorem eo_holds : Rows.ExprOverSaid :=
  OpenClaim.holds_of_wide 5 Tryz.f5 rfl rfl rfl rfl rfl rfl rfl ⟨rfl, rfl, rfl, rfl, rfl⟩ rfl rfl rfl rfl rfl (by kernel_rfl) Tryz.func5 (by kernel_rfl)
    (of_decide_eq_true (by kernel_rfl)) (by unfold Func.isWrapper; first | (rw [if_pos (by decide +kernel)]; kernel_rfl) | (rw [if_neg (by decide +kernel)]; exact ⟨rfl, rfl⟩))
    (fun os started H enc _ => eo_lifted os started H enc)
#print axioms eo_holds
end Go.Proofs.YtmjeiepljlepbacGreat

import Derived.Test.YtifohbapfciniabTabLaw
import Derived.Test.YtifohbapfciniabSaysProof
set_option linter.unusedSimpArgs false
set_option linter.unusedVariables false
namespace Go.Proofs.Ytifohbapfciniab
open Go.ChangeShapes Go.WideShapes Go.ChangeAt Go.RowKit Go.Joins Go.Deep

theorem cells23' : Try.prog.cellsOf 23 = 1 := by kernel_rfl
theorem cells24' : Try.prog.cellsOf 24 = 1 := by kernel_rfl
theorem cells25' : Try.prog.cellsOf 25 = 1 := by kernel_rfl

section
variable {H : Type} {enc : TypeId × Value → H} {w : World} {base : Nat} {spare : Nat → Bool} {held : Bool}
theorem open_col {n : Nat} {cs : List Value} {y : DataW H × List MemPlace} (h : DataW.trod enc Try.prog w base spare held n 27 cs = some y) :
    ∃ (c : Vc × Sl), cs = [.int .i64 c.1.k, .slice c.2.a1 c.1.nl.length c.2.c1, .slice c.2.a2 c.1.ns.length c.2.c2, .slice c.2.a3 c.1.ss.length c.2.c3] ∧ VecAt w c.1 c.2 ∧ c.1.nl.length ≤ Rows.uptoBulk y.1 ∧ c.1.ns.length ≤ Rows.uptoBulk y.1 ∧ c.1.ss.length ≤ Rows.uptoBulk y.1 := by
  obtain ⟨y0, y1, y2, y3, m, hx, hl, h0, h1, h2, h3⟩ := trod_struct4 Try.underlying27 h
  rw [cells27] at hl
  match cs, hl with
  | [c0, c1, c2, c3], _ =>
    simp only [cells3, cells23', cells24', cells25', List.drop_zero, List.take_succ_cons, List.take_zero, List.drop_succ_cons] at h0 h1 h2 h3
    obtain ⟨k, e0, rfl, wk⟩ := DataW.trod_int Try.underlying3 h0
    simp only [List.cons.injEq, and_true] at e0
    subst e0
    obtain ⟨a1, d1, nl, rfl, l1, b1⟩ := open_lis (α := Bool) (.bool) Try.underlying23 cells4 (fun n v y h => by obtain ⟨b, e, _⟩ := DataW.trod_bool Try.underlying4 h; exact ⟨b, by simpa using e⟩) h1
    obtain ⟨a2, d2, ns, rfl, l2, b2⟩ := open_lis (α := Int) (.int .i64) Try.underlying24 cells2 (fun n v y h => by obtain ⟨b, e, _⟩ := DataW.trod_int Try.underlying2 h; exact ⟨b, by simpa using e⟩) h2
    have inst : Inhabited ByteArray := ⟨⟨#[]⟩⟩
    obtain ⟨a3, d3, ss, rfl, l3, b3⟩ := open_lis (α := ByteArray) (.string) Try.underlying25 cells9 (fun n v y h => by obtain ⟨b, e, _⟩ := DataW.trod_string Try.underlying9 h; exact ⟨b, by simpa using e⟩) h3
    refine ⟨(⟨k, nl, ns, ss⟩, ⟨a1, d1, a2, d2, a3, d3⟩), rfl, ⟨l1, l2, l3⟩, ?_, ?_, ?_⟩
    all_goals rw [hx]
    all_goals simp only [Rows.uptoBulk, Rows.uptoBulkAll]
    all_goals omega

theorem mem_le {d : DataW H} : ∀ {l : List (DataW H)}, d ∈ l → Rows.uptoBulk d ≤ Rows.uptoBulkAll l
  | [], h => by cases h
  | x :: l, h => by
    simp only [Rows.uptoBulkAll]
    rcases List.mem_cons.1 h with rfl | h
    · omega
    · have := mem_le h; omega

theorem open_cols {r : Reach} {b0 : Nat} {v : Value} {d : DataW H} {p : List MemPlace}
    (hv : Value.okWide Try.prog w r b0 52 v) (h : DataW.Trod enc Try.prog w base spare held 52 v d p) (hd : Rows.uptoBulk d ≤ 1048576) :
    ∃ (a : Option Addr) (cap : Nat) (Cs : List (Vc × Sl)), v = .slice a Cs.length cap ∧ Cs.length ≤ 1048576 ∧ (∀ c ∈ Cs, small c.1) ∧ ColsAt w a Cs := by
  obtain ⟨a0, len, cap, rfl⟩ := okWide_slice Try.underlying52 hv
  obtain ⟨fuel, hf⟩ := h
  rcases open_slice Try.underlying52 hf with ⟨hcs, hx⟩ | ⟨a, len', cap', m, n, D, Pl, hcs, hb, hl, hm, hmm, hx, hel⟩
  · simp [Value.cells] at hcs
    obtain ⟨rfl, rfl, rfl⟩ := hcs
    exact ⟨none, 0, [], rfl, Nat.zero_le _, by simp, .inl rfl, by simp⟩
  · simp [Value.cells] at hcs
    obtain ⟨rfl, rfl, rfl⟩ := hcs
    simp only [Prod.mk.injEq] at hx
    have hlm : len ≤ m := by rw [hmm]; split <;> omega
    rw [hx.1] at hd
    simp only [Rows.uptoBulk] at hd
    have hlen1 := all_le ((List.range len).map D)
    simp only [List.length_map, List.length_range] at hlen1
    have hel2 : ∀ i, i < len → ∃ c : Vc × Sl, w.cells? base (a.add (i * 4)) 4 = some [.int .i64 c.1.k, .slice c.2.a1 c.1.nl.length c.2.c1, .slice c.2.a2 c.1.ns.length c.2.c2, .slice c.2.a3 c.1.ss.length c.2.c3] ∧ VecAt w c.1 c.2 ∧ small c.1 := by
      intro i hi
      obtain ⟨cs', h1, h2⟩ := hel i (by omega)
      rw [cells27] at h1
      obtain ⟨c, rfl, g1, g2, g3, g4⟩ := open_col h2
      have := mem_le (H := H) (d := D i) (l := (List.range len).map D) (List.mem_map.2 ⟨i, List.mem_range.2 hi, rfl⟩)
      simp only at g2 g3 g4
      exact ⟨c, h1, g1, by omega, by omega, by omega⟩
    have inst : Inhabited (Vc × Sl) := ⟨(Vc.zero, ⟨none, 0, none, 0, none, 0⟩)⟩
    obtain ⟨f, hfx⟩ := choose_lt (α := Vc × Sl) (n := len) hel2
    have hlen : ((List.range len).map f).length = len := by simp
    refine ⟨some a, cap, (List.range len).map f, by rw [hlen], by rw [hlen]; omega, ?_, ?_, ?_⟩
    · intro c hc
      obtain ⟨i, hi, rfl⟩ := List.mem_map.1 hc
      exact (hfx i (by simpa using hi)).2.2
    · by_cases h0 : len = 0
      · left; subst h0; rfl
      · right
        obtain ⟨b, off, spot⟩ := a
        have hc0 := (World.cells?_some (hfx 0 (by omega)).1).2.2 0 (by omega)
        have hspot : spot = none := by simpa [Addr.add] using World.cell?_spot hc0
        subst hspot
        refine ⟨b, off, rfl, fun i x hx => ?_⟩
        obtain ⟨hi, rfl⟩ := List.getElem?_eq_some_iff.1 hx
        have hi' : i < len := by simpa using hi
        have hc := (World.cells?_some (hfx i hi').1).2.2
        have e0 := hc 0 (by omega)
        have e1 := hc 1 (by omega)
        have e2 := hc 2 (by omega)
        have e3 := hc 3 (by omega)
        simp only [List.getElem_map, List.getElem_range]
        have ea : ∀ (o n : Nat), (⟨b, o, none⟩ : Addr).add n = ⟨b, o + n, none⟩ := by
          intro o n
          by_cases h : n = 0 <;> simp [Addr.add, h]
        rw [ea, ea] at e0 e1 e2 e3
        exact ⟨by simpa using e0, by simpa using e1, by simpa using e2, by simpa using e3⟩
    · intro c hc
      obtain ⟨i, hi, rfl⟩ := List.mem_map.1 hc
      exact (hfx i (by simpa using hi)).2.1
end

theorem tables_contract (H : Type) (enc : TypeId × Value → H) (W : World) (base : Nat) (args : Array Value) (ds gs : List (DataW H)) (before : List MemPlace)
    (hval : ∀ (j : Nat) t v, Try.f5.params[j]? = some t → args[j]? = some v → Value.okWide Try.prog W .any base t v)
    (hW : DataW.Whole enc Try.prog Try.f5.params.toList Rows.vecTablesSpec.vars false W args.toList ds gs before) (hk : Rows.uptoSmall H (ds ++ gs) = true) :
    Calls Try.prog 5 args W fun e W' => ∃ v, e = .returned v ∧ Rows.vecTablesSpec.post enc Try.prog Try.f5 false true false false W args v W' := by
  have hW' := hW
  obtain ⟨p, q, hA0, hV, rfl, hfz, hnd⟩ := hW
  have hA : DataW.TrodAll enc Try.prog W 0 (fun _ => true) true Try.f5.params.toList args.toList ds p := hA0
  rw [Try.params5] at hA hval
  obtain ⟨v0, vs0, d0, ds0, p0, q0, hargs, rfl, rfl, h0, r0⟩ := trodAll_cons hA
  obtain ⟨rfl, rfl, rfl⟩ := trodAll_nil r0
  obtain rfl : args = #[v0] := by cases args; simp_all
  obtain ⟨rfl, rfl⟩ := trodVars_none hV
  have k0 := h0
  have lt0 : ∀ x ∈ p0, x.block < W.heap.size := by obtain ⟨m, hm⟩ := k0; exact DataW.trod_lt m _ _ _ hm
  have hsm : Rows.uptoBulk d0 ≤ 1048576 := by
    simp only [List.append_nil] at hk
    have h : Rows.uptoBulkAll [d0] ≤ 1048576 := of_decide_eq_true hk
    simp only [Rows.uptoBulkAll] at h
    omega
  obtain ⟨a, c, Cs, rfl, hl, hs, hC⟩ := open_cols (hval 0 52 v0 rfl rfl) h0 hsm
  clear hA0
  refine (law_tables a c Cs W hl hs hC).mono fun e W' ⟨he, bel⟩ => ?_
  subst he
  exact ⟨_, rfl, _, _, _, [], _, [], hW', trodAll_mk1 (shut_bool Try.underlying4 _), (trodAll_cons_mk (Below.trod laidT (by kernel_rfl) (of_decide_eq_true (by kernel_rfl)) k0 bel lt0) trodAll_mk0), rfl, bel.frame _, fun h => by cases h⟩

set_option maxRecDepth 100000 in
theorem tables_lifted (os : Os) (started : os.Started) (H : Type) (enc : TypeId × Value → H) (F : Stop.Interp) :
    ReturnsInHanded {} Try.checked os 5 .any ((Rows.OpenSpec.upto Rows.vecTablesSpec).pre6 enc Try.prog Try.f5 Rows.vecTablesUptoRow.domain false) (((Rows.OpenSpec.upto Rows.vecTablesSpec).at F).post enc Try.prog Try.f5 false true false false) := by
  refine returnsInHanded_of_cond (C := Try.checked) (s := Rows.OpenSpec.upto Rows.vecTablesSpec) (k := Rows.uptoSmall) rfl ownT started (by kernel_rfl) Try.func5
    (OpenSpec.witness (enc := enc) (C := Try.checked) (s := Rows.OpenSpec.upto Rows.vecTablesSpec) (k := Rows.uptoSmall) rfl false ⟨#[], #[.slice none 0 0], []⟩ 8 (by kernel_rfl) (by kernel_rfl) (by kernel_rfl)
      (x := ([.nil], [], [])) (by kernel_rfl) rfl (by kernel_rfl)) ?_
  intro W base args ds gs before hval hW _ hk _
  exact tables_contract H enc W base args ds gs before hval hW hk

theorem tables_holds : Rows.VecTablesUptoSaid :=
  OpenClaim.holds_of_cond 5 Try.f5 rfl rfl rfl rfl rfl rfl rfl ⟨rfl, rfl, rfl, rfl, rfl⟩ rfl rfl rfl rfl rfl (by kernel_rfl) Try.func5 (by kernel_rfl)
    (of_decide_eq_true (by kernel_rfl)) (by unfold Func.isWrapper; first | (rw [if_pos (by decide +kernel)]; kernel_rfl) | (rw [if_neg (by decide +kernel)]; exact ⟨rfl, rfl⟩))
    (fun os started H enc _ F => tables_lifted os started H enc F)
#print axioms tables_holds
end Go.Proofs.Ytifohbapfciniab

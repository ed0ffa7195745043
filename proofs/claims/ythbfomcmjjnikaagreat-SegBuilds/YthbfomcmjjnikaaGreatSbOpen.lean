import Derived.Test.YthbfomcmjjnikaaGreatSgH
import Derived.ProofKit
import Derived.OpenShut
import Derived.Lib.SmallJoins
import Derived.ChangeOld
import Derived.Deep.Slices
import Derived.Deep.Strs
import Derived.JoinedCond
import Derived.SizedLaws
import Derived.Test.YthbfomcmjjnikaaGreatSgR
import Derived.Test.YthbfomcmjjnikaaGreatRows
set_option linter.unusedSimpArgs false
set_option linter.unusedVariables false
set_option maxRecDepth 100000
namespace Go.Proofs.YthbfomcmjjnikaaGreat
open Go.ChangeShapes Go.WideShapes Go.ChangeAt Go.RowKit Go.Joins Go.Deep

theorem ownT : ownKnob Tryz.prog.godebug = none := by kernel_rfl
theorem laidT : laidOutB Tryz.prog = true := by kernel_rfl
theorem bytes3 : Tryz.prog.bytesOf 3 = 8 := by kernel_rfl
theorem bytesV : Tryz.prog.bytesOf 59 = 32 := by kernel_rfl
theorem bytes37 : Tryz.prog.bytesOf 37 = 24 := by kernel_rfl
theorem cellsV : Tryz.prog.cellsOf 59 = 3 := by kernel_rfl
theorem cells37 : Tryz.prog.cellsOf 37 = 1 := by kernel_rfl
theorem cells3 : Tryz.prog.cellsOf 3 = 1 := by kernel_rfl
theorem cells2 : Tryz.prog.cellsOf 2 = 1 := by kernel_rfl
theorem cells9 : Tryz.prog.cellsOf 9 = 1 := by kernel_rfl
def In64 (n : Int) : Prop := -9223372036854775808 ≤ n ∧ n ≤ 9223372036854775807
def VOk (x : Val) : Prop := In64 x.n ∧ x.s.size ≤ 140737488355328
theorem in64_of {x : Int} (h : (Lit.int .i64 x).wf = true) : In64 x := by
  simp [Lit.wf, IntKind.min, IntKind.max, IntKind.signed, IntKind.bits] at h
  exact ⟨by omega, by omega⟩
theorem weights_all {H : Type} {P : Program} {e : TypeId} : ∀ {l : List (DataW H)} {d : DataW H}, d ∈ l → ∀ n ∈ d.weights P e, n ∈ DataW.weightsAll P e l
  | x :: l, d, h, n, hn => by
    rw [DataW.weightsAll, List.mem_append]
    rcases List.mem_cons.1 h with rfl | h
    · exact .inl hn
    · exact .inr (weights_all h n hn)
section
variable {H : Type} {enc : TypeId × Value → H} {w : World} {base : Nat} {spare : Nat → Bool} {held : Bool}
theorem addr_lit (b o n : Nat) : (⟨b, o, none⟩ : Addr).add n = ⟨b, o + n, none⟩ := by
  by_cases h : n = 0 <;> simp [Addr.add, h]
set_option maxRecDepth 100000 in
theorem open_rowT {fu : Nat} {cv : Value} {y : DataW H × List MemPlace} (hf : DataW.trod enc Tryz.prog w base spare held fu 37 [cv] = some y) (hw : ∀ n ∈ y.1.weights Tryz.prog (37), n ≤ reachBytes) :
    ∃ (a : Option Addr) (c : Nat) (xs : List Val), cv = .slice a xs.length c ∧ RowAt w a xs ∧ (∀ x ∈ xs, VOk x) ∧ xs.length ≤ 4398046511104 ∧ (a = none → xs = [] ∧ c = 0) := by
  rcases open_slice Tryz.underlying37 hf with ⟨hcs, hx⟩ | ⟨a, len, cap, m, n, D, Pl, hcs, hb, hl, hm, hmm, hx, hel⟩
  · simp only [List.cons.injEq, and_true] at hcs
    subst hcs
    exact ⟨none, 0, [], rfl, .inl rfl, by simp, Nat.zero_le _, fun _ => ⟨rfl, rfl⟩⟩
  · simp only [List.cons.injEq, and_true] at hcs
    subst hcs
    have hx := (show y.1 = _ ∧ y.2 = _ by rw [hx]; exact ⟨rfl, rfl⟩)
    have hlm : len ≤ m := by rw [hmm]; split <;> omega
    have hbyt : len ≤ 4398046511104 := by
      have := hw ((((List.range len).map D).length + ((List.range (m - len)).map fun j => D (len + j)).length) * Tryz.prog.bytesOf 59) (by rw [hx.1]; simp [DataW.weights, Tryz.underlying37])
      rw [bytesV] at this
      have h2 := reachBytes_lt
      simp only [List.length_map, List.length_range] at this
      omega
    have hel2 : ∀ i, i < len → ∃ x : Val, w.cells? base (a.add (i * 3)) 3 = some [.int .i64 x.k, .int .i64 x.n, .string x.s] ∧ VOk x := by
      intro i hi
      obtain ⟨cs, g1, g2⟩ := hel i (by omega)
      rw [cellsV] at g1
      have hwi : ∀ n ∈ (D i).weights Tryz.prog (59), n ≤ reachBytes := fun n hn => hw n (by
        rw [hx.1]
        simp only [DataW.weights, Tryz.underlying37, List.mem_cons, List.mem_append]
        exact .inr (.inl (weights_all (List.mem_map.2 ⟨i, List.mem_range.2 hi, rfl⟩) n hn)))
      obtain ⟨z0, z1, z2, n2, hz, hzl, h0, h1, h2⟩ := trod_struct3 Tryz.underlying59 g2
      rw [cellsV] at hzl
      match cs, hzl with
      | [c0, c1, c2], _ =>
        simp only [cells3, cells2, cells9, List.drop_zero, List.take_succ_cons, List.take_zero, List.drop_succ_cons] at h0 h1 h2
        obtain ⟨vk, e2, r0, wk⟩ := DataW.trod_int Tryz.underlying3 h0
        obtain ⟨vn, e3, r1, wn⟩ := DataW.trod_int Tryz.underlying2 h1
        obtain ⟨vs, e4, r2, ws⟩ := DataW.trod_string Tryz.underlying9 h2
        simp only [List.cons.injEq, and_true] at e2 e3 e4
        subst e2 e3 e4
        have hD : D i = .agg [z0.1, z1.1, z2.1] := by simp only [Prod.mk.injEq] at hz; exact hz.1
        refine ⟨⟨vk, vn, vs⟩, g1, in64_of wn, ?_⟩
        have := hwi vs.data.toList.length (by rw [hD]; simp [DataW.weights, DataW.weightsEach, Tryz.underlying59, r2])
        have h2 := reachBytes_lt
        rw [Array.length_toList] at this
        have e : vs.data.size = vs.size := rfl
        show vs.size ≤ _
        omega
    have inst : Inhabited Val := ⟨Val.null⟩
    obtain ⟨f, hfx⟩ := choose_lt (α := Val) (n := len) hel2
    have hlen : ((List.range len).map f).length = len := by simp
    refine ⟨some a, cap, (List.range len).map f, by rw [hlen], ?_, ?_, by rw [hlen]; exact hbyt, fun h => by cases h⟩
    · by_cases h0 : len = 0
      · left; subst h0; rfl
      · right
        obtain ⟨b, off, spot⟩ := a
        have hc0 := (World.cells?_some (hfx 0 (by omega)).1).2.2 0 (by omega)
        have hspot : spot = none := by simpa [Addr.add] using World.cell?_spot hc0
        subst hspot
        refine ⟨b, off, rfl, fun i x hx => ?_⟩
        obtain ⟨hi, rfl⟩ := List.getElem?_eq_some_iff.1 hx
        have hi' : i < len := by simpa using hi
        have hc := (World.cells?_some (hfx i hi').1).2.2
        have e0 := hc 0 (by omega)
        have e1 := hc 1 (by omega)
        have e2 := hc 2 (by omega)
        rw [addr_lit, addr_lit] at e0 e1 e2
        simp only [List.getElem_map, List.getElem_range]
        exact ⟨by simpa using e0, by simpa using e1, by simpa using e2⟩
    · intro x hx
      obtain ⟨i, hi, rfl⟩ := List.mem_map.1 hx
      exact (hfx i (by simpa using hi)).2
set_option maxRecDepth 100000 in
theorem open_intsT {fu : Nat} {cv : Value} {y : DataW H × List MemPlace} (hf : DataW.trod enc Tryz.prog w base spare held fu 22 [cv] = some y) (hw : ∀ n ∈ y.1.weights Tryz.prog (22), n ≤ reachBytes) :
    ∃ (a : Option Addr) (c : Nat) (xs : List Int), cv = .slice a xs.length c ∧ LisAt w a (xs.map (Value.int .i64)) ∧ xs.length ≤ 140737488355328 := by
  rcases open_slice Tryz.underlying22 hf with ⟨hcs, hx⟩ | ⟨a, len, cap, m, n, D, Pl, hcs, hb, hl, hm, hmm, hx, hel⟩
  · simp only [List.cons.injEq, and_true] at hcs
    subst hcs
    exact ⟨none, 0, [], rfl, .inl rfl, Nat.zero_le _⟩
  · simp only [List.cons.injEq, and_true] at hcs
    subst hcs
    have hx := (show y.1 = _ ∧ y.2 = _ by rw [hx]; exact ⟨rfl, rfl⟩)
    have hlm : len ≤ m := by rw [hmm]; split <;> omega
    have hbyt : len ≤ 140737488355328 := by
      have := hw ((((List.range len).map D).length + ((List.range (m - len)).map fun j => D (len + j)).length) * Tryz.prog.bytesOf 3) (by rw [hx.1]; simp [DataW.weights, Tryz.underlying22])
      rw [bytes3] at this
      have h2 := reachBytes_lt
      simp only [List.length_map, List.length_range] at this
      omega
    have hel2 : ∀ i, i < len → ∃ x : Int, w.cells? base (a.add (i * 1)) 1 = some [.int .i64 x] := by
      intro i hi
      obtain ⟨cs', h1, h2⟩ := hel i (by omega)
      rw [cells3] at h1
      obtain ⟨x, rfl, _⟩ := DataW.trod_int Tryz.underlying3 h2
      exact ⟨x, h1⟩
    obtain ⟨f, hfx⟩ := choose_lt (α := Int) (n := len) hel2
    have hlen : ((List.range len).map f).length = len := by simp
    refine ⟨some a, cap, (List.range len).map f, by rw [hlen], ?_, by rw [hlen]; exact hbyt⟩
    by_cases h0 : len = 0
    · left; subst h0; rfl
    · right
      obtain ⟨b, off, spot⟩ := a
      have hc0 := (World.cells?_some (hfx 0 (by omega))).2.2 0 (by omega)
      have hspot : spot = none := by simpa [Addr.add] using World.cell?_spot hc0
      subst hspot
      refine ⟨b, off, rfl, fun i x hx => ?_⟩
      rw [List.getElem?_map] at hx
      obtain ⟨x, hx1, rfl⟩ := Option.map_eq_some_iff.1 hx
      obtain ⟨hi, rfl⟩ := List.getElem?_eq_some_iff.1 hx1
      have hi' : i < len := by simpa using hi
      have e0 := (World.cells?_some (hfx i hi')).2.2 0 (by omega)
      rw [addr_lit, addr_lit] at e0
      simp only [List.getElem_map, List.getElem_range]
      simpa using e0
set_option maxRecDepth 100000 in
/-- Kinds that came in, laid open. -/
theorem open_ints {r : Reach} {b0 : Nat} {v : Value} {d : DataW H} {p : List MemPlace} (hv : Value.okWide Tryz.prog w r b0 22 v) (h : DataW.Trod enc Tryz.prog w base spare held 22 v d p) (hw : ∀ n ∈ d.weights Tryz.prog (22), n ≤ reachBytes) :
    ∃ (a : Option Addr) (c : Nat) (xs : List Int), v = .slice a xs.length c ∧ LisAt w a (xs.map (Value.int .i64)) ∧ xs.length ≤ 140737488355328 := by
  obtain ⟨a0, len, cap, rfl⟩ := okWide_slice Tryz.underlying22 hv
  obtain ⟨fuel, hf⟩ := h
  exact open_intsT (y := (d, p)) hf hw
set_option maxRecDepth 100000 in
/-- Rows that came in, laid open. -/
theorem open_rows {r : Reach} {b0 : Nat} {v : Value} {d : DataW H} {p : List MemPlace} (hv : Value.okWide Tryz.prog w r b0 23 v) (h : DataW.Trod enc Tryz.prog w base spare held 23 v d p) (hw : ∀ n ∈ d.weights Tryz.prog (23), n ≤ reachBytes) :
    ∃ (a : Option Addr) (c : Nat) (rs : List (List Val)), v = .slice a rs.length c ∧ RowsAt w a rs ∧ rs.length ≤ 140737488355328 ∧ ∀ x ∈ rs, x.length ≤ 140737488355328 ∧ ∀ y ∈ x, VOk y := by
  obtain ⟨a0, len, cap, rfl⟩ := okWide_slice Tryz.underlying23 hv
  obtain ⟨fuel, hf⟩ := h
  rcases open_slice Tryz.underlying23 hf with ⟨hcs, hx⟩ | ⟨a, len', cap', m, n, D, Pl, hcs, hb, hl, hm, hmm, hx, hel⟩
  · simp [Value.cells] at hcs
    obtain ⟨rfl, rfl, rfl⟩ := hcs
    exact ⟨none, 0, [], rfl, .inl rfl, Nat.zero_le _, by simp⟩
  · simp [Value.cells] at hcs
    obtain ⟨rfl, rfl, rfl⟩ := hcs
    simp only [Prod.mk.injEq] at hx
    have hlm : len ≤ m := by rw [hmm]; split <;> omega
    have hbyt : len ≤ 140737488355328 := by
      have := hw ((((List.range len).map D).length + ((List.range (m - len)).map fun j => D (len + j)).length) * Tryz.prog.bytesOf 37) (by rw [hx.1]; simp [DataW.weights, Tryz.underlying23])
      rw [bytes37] at this
      have h2 := reachBytes_lt
      simp only [List.length_map, List.length_range] at this
      omega
    have hel2 : ∀ i, i < len → ∃ x : List Val, ∃ ra rc, w.cells? base (a.add (i * 1)) 1 = some [.slice ra x.length rc] ∧ RowAt w ra x ∧ (∀ y ∈ x, VOk y) ∧ x.length ≤ 140737488355328 := by
      intro i hi
      obtain ⟨cs', g1, g2⟩ := hel i (by omega)
      rw [cells37] at g1
      have hwi : ∀ n ∈ (D i).weights Tryz.prog (37), n ≤ reachBytes := fun n hn => hw n (by
        rw [hx.1]
        simp only [DataW.weights, Tryz.underlying23, List.mem_cons, List.mem_append]
        exact .inr (.inl (weights_all (List.mem_map.2 ⟨i, List.mem_range.2 hi, rfl⟩) n hn)))
      have hl1 : cs'.length = 1 := (World.cells?_some g1).2.1
      match cs', hl1 with
      | [c0], _ =>
        obtain ⟨ra, rc, x, rfl, q1, q2, q3, _⟩ := open_rowT g2 hwi
        exact ⟨x, ra, rc, g1, q1, q2, by omega⟩
    obtain ⟨f, hfx⟩ := choose_lt (α := List Val) (n := len) hel2
    have hlen : ((List.range len).map f).length = len := by simp
    refine ⟨some a, cap, (List.range len).map f, by rw [hlen], ?_, by rw [hlen]; exact hbyt, ?_⟩
    · by_cases h0 : len = 0
      · left; subst h0; rfl
      · right
        obtain ⟨b, off, spot⟩ := a
        obtain ⟨ra0, rc0, hz, _⟩ := hfx 0 (by omega)
        have hc0 := (World.cells?_some hz).2.2 0 (by omega)
        have hspot : spot = none := by simpa [Addr.add] using World.cell?_spot hc0
        subst hspot
        refine ⟨b, off, rfl, fun i x hx => ?_⟩
        obtain ⟨hi, rfl⟩ := List.getElem?_eq_some_iff.1 hx
        have hi' : i < len := by simpa using hi
        obtain ⟨ra, rc, hc, q1, _⟩ := hfx i hi'
        have e0 := (World.cells?_some hc).2.2 0 (by omega)
        rw [addr_lit, addr_lit] at e0
        simp only [List.getElem_map, List.getElem_range]
        exact ⟨ra, rc, by simpa using e0, q1⟩
    · intro x hx
      obtain ⟨i, hi, rfl⟩ := List.mem_map.1 hx
      obtain ⟨ra, rc, _, _, q2, q3⟩ := hfx i (by simpa using hi)
      exact ⟨q3, q2⟩
end
end Go.Proofs.YthbfomcmjjnikaaGreat
set_option linter.unusedSimpArgs false
set_option linter.unusedVariables false
namespace Go.Proofs.YthbfomcmjjnikaaGreat
open Go.ChangeShapes Go.WideShapes Go.ChangeAt Go.RowKit Go.Joins Go.Deep

set_option maxRecDepth 100000 in
theorem sb_lifted (os : Os) (started : os.Started) (H : Type) (enc : TypeId × Value → H) :
    ReturnsInHanded {} Tryz.checked os 3 .any (Rows.segBuildsSpec.pre6 enc Tryz.prog Tryz.f3 Rows.segBuildsRow.domain false) (Rows.segBuildsSpec.post enc Tryz.prog Tryz.f3 false true false false) := by
  refine returnsInHanded_of_change_sized (C := Tryz.checked) ownT started (by kernel_rfl) Tryz.func3
    (ChangeSpec.witness6 (enc := enc) (C := Tryz.checked) false ⟨#[], #[.slice none 0 0, .slice none 0 0], []⟩ 8 (by kernel_rfl) (by kernel_rfl) (by kernel_rfl) (by kernel_rfl)) ?_
  intro W base args ds gs before hval0 hW hcnd hsz0 _
  have hval : ∀ (j : Nat) t v, Tryz.f3.params[j]? = some t → args[j]? = some v → Value.okWide Tryz.prog W .any base t v := hval0
  have hsz : (DataW.weightsEach Tryz.prog (Tryz.f3.params.toList ++ Rows.segBuildsSpec.plain.varTypes Tryz.prog) (ds ++ gs)).all (· ≤ reachBytes) = true := hsz0
  have hW' := hW
  obtain ⟨p, q, hA0, hV, rfl, hfz, hnd⟩ := hW
  have hA : DataW.TrodAll enc Tryz.prog W 0 (fun _ => true) true Tryz.f3.params.toList args.toList ds p := hA0
  rw [Tryz.params3] at hA hval hsz
  obtain ⟨v0, vs0, d0, ds0, p0, q0, hargs, rfl, rfl, h0, r0⟩ := trodAll_cons hA
  obtain ⟨v1, vs1, d1, ds1, p1, q1, rfl, rfl, rfl, h1, r1⟩ := trodAll_cons r0
  obtain ⟨rfl, rfl, rfl⟩ := trodAll_nil r1
  obtain rfl : args = #[v0, v1] := by cases args; simp_all
  obtain ⟨rfl, rfl⟩ := trodVars_none hV
  have k0 := h0
  have lt0 : ∀ x ∈ p0, x.block < W.heap.size := by obtain ⟨m, hm⟩ := k0; exact DataW.trod_lt m _ _ _ hm
  have k1 := h1
  have lt1 : ∀ x ∈ p1, x.block < W.heap.size := by obtain ⟨m, hm⟩ := k1; exact DataW.trod_lt m _ _ _ hm
  have hall := List.all_eq_true.1 hsz
  have hw0 : ∀ n ∈ d0.weights Tryz.prog (22), n ≤ reachBytes := fun n hn => by have := hall n (DataW.weights_mem_each (j := 0) rfl rfl n hn); simpa using this
  have hw1 : ∀ n ∈ d1.weights Tryz.prog (23), n ≤ reachBytes := fun n hn => by have := hall n (DataW.weights_mem_each (j := 1) rfl rfl n hn); simpa using this
  obtain ⟨aK, cK, ks, rfl, hK, hkl⟩ := open_ints (hval 0 22 v0 rfl rfl) h0 hw0
  obtain ⟨aR, cR, rs, rfl, hR, hrl, hrx⟩ := open_rows (hval 1 23 v1 rfl rfl) h1 hw1
  clear hA0 hval0 hsz hsz0
  refine (law_sb ks aK cK rs aR cR W hkl hrl (fun r hr => (hrx r hr).1) hK hR (fun r hr x hx => ((hrx r hr).2 x hx).1)).mono fun r W' ⟨he, bel⟩ => ?_
  subst he
  exact ⟨_, rfl, _, _, _, [], _, [], hW', trodAll_mk1 (shut_bool Tryz.underlying4 _), (trodAll_cons_mk (Below.trod laidT (by kernel_rfl) (of_decide_eq_true (by kernel_rfl)) k0 bel lt0) (trodAll_cons_mk (Below.trod laidT (by kernel_rfl) (of_decide_eq_true (by kernel_rfl)) k1 bel lt1) trodAll_mk0)), rfl, bel.frame _, fun h => by cases h⟩

theorem sb_holds : Rows.SegBuildsSaid :=
  OpenClaim.holds_of_wide 3 Tryz.f3 rfl rfl rfl rfl rfl rfl rfl ⟨rfl, rfl, rfl, rfl, rfl⟩ rfl rfl rfl rfl rfl (by kernel_rfl) Tryz.func3 (by kernel_rfl)
    (of_decide_eq_true (by kernel_rfl)) (by unfold Func.isWrapper; first | (rw [if_pos (by decide +kernel)]; kernel_rfl) | (rw [if_neg (by decide +kernel)]; exact ⟨rfl, rfl⟩))
    (fun os started H enc _ => sb_lifted os started H enc)
#print axioms sb_holds
end Go.Proofs.YthbfomcmjjnikaaGreat

import Derived.Test.YtbdkpkpncmagoaaGreatVecC
set_option linter.unusedSimpArgs false
set_option linter.unusedVariables false
namespace Go.Proofs.YtbdkpkpncmagoaaGreat
open Go.RowKit Go.Sort

theorem wpList_make_rows {P : Program} (w : World) {ops : Array Oper} {rest : List Oper} {o : Oper} {a : Act} {Q : Exit → Act → World → Prop}
    (hg : o.guard = none) (l c : Operand) (t : TypeId) (hop : o.op = Op.makeSlice t l c)
    (e : TypeId) (i : TypeInfo) (z : Value) (ht : P.underlying t = some (.slice e)) (hi : P.info? e = some i) (hz : i.zero = some z) (size : Nat) (hsize : i.size = size)
    (kl kc : IntKind) (n : Nat) (hl : a.eval l = .int kl (n : Int)) (hc : a.eval c = .int kc (n : Int)) (hbytes : i.bytes * n ≤ 281474976710656) (h63 : n ≤ 9223372036854775807)
    (hK : wpList P ops Q rest (a.put o.dst (.slice (some ⟨w.heap.size, 0, none⟩) n n)) (w.alloc (.cells (madeCells z.cells (n * size)) e))) :
    wpList P ops Q (o :: rest) a w := by
  refine wpList_plain hg fun K hK' => ?_
  have hb' : (i.bytes : Int) * (n : Int) ≤ 281474976710656 := by
    have h : ((i.bytes * n : Nat) : Int) ≤ 281474976710656 := by omega
    rwa [Int.natCast_mul] at h
  have hrun := run_make (P := P) w t e i z ht hi hz kl kc n n (by omega) (Int.le_refl _) hb' (by omega)
  simp only [Int.toNat_natCast, hsize] at hrun
  unfold Oper.wp
  simp [execOp, hop, hl, hc, hrun, Result.andThen]
  exact hK' _ _ hK
theorem rowIs_any (w : World) (c : Array Value) (t : TypeId) : ∃ F, (w.alloc (.cells c t)).rowIs w.heap.size t c.size F :=
  ⟨fun i => (c[i]?).getD noS, World.rowIs_alloc w c t _ (fun i hi => by simp [hi])⟩

/-- What a row of values of the call's own holds up to k. -/
def Holds3 (F : Nat → Value) (k : Nat) (ys : List Val) : Prop := ∀ i x, i < k → ys[i]? = some x → F (i * 3) = .int .i64 x.k ∧ F (i * 3 + 1) = .int .i64 x.n ∧ F (i * 3 + 2) = .string x.s
theorem Holds3.zero (F : Nat → Value) (ys : List Val) : Holds3 F 0 ys := fun i x h => by omega
theorem Holds3.step {F : Nat → Value} {k : Nat} {ys : List Val} {y : Val} (h : Holds3 F k ys) (hv : ys[k]? = some y) :
    Holds3 (fun j => if j = k * 3 + 2 then .string y.s else if j = k * 3 + 1 then .int .i64 y.n else if j = k * 3 then .int .i64 y.k else F j) (k + 1) ys := by
  intro i x hi hx
  by_cases e : i = k
  · subst e; rw [hv] at hx; cases hx
    refine ⟨?_, ?_, ?_⟩ <;> simp
  · obtain ⟨h0, h1, h2⟩ := h i x (by omega) hx
    refine ⟨?_, ?_, ?_⟩
    · show (if i * 3 = k * 3 + 2 then _ else if i * 3 = k * 3 + 1 then _ else if i * 3 = k * 3 then _ else _) = _
      rw [if_neg (by omega), if_neg (by omega), if_neg (by omega), h0]
    · show (if i * 3 + 1 = k * 3 + 2 then _ else if i * 3 + 1 = k * 3 + 1 then _ else if i * 3 + 1 = k * 3 then _ else _) = _
      rw [if_neg (by omega), if_neg (by omega), if_neg (by omega), h1]
    · show (if i * 3 + 2 = k * 3 + 2 then _ else if i * 3 + 2 = k * 3 + 1 then _ else if i * 3 + 2 = k * 3 then _ else _) = _
      rw [if_neg (by omega), if_neg (by omega), if_neg (by omega), h2]
theorem row_of_row {w : World} {g t n : Nat} {F : Nat → Value} {ys : List Val} (h : w.rowIs g t (n * 3) F) (hl : ys.length = n) (hh : Holds3 F n ys) : RowAt w (some ⟨g, 0, none⟩) ys := by
  refine .inr ⟨g, 0, rfl, fun i x hx => ?_⟩
  have hi : i < n := by have := (List.getElem?_eq_some_iff.1 hx).1; omega
  obtain ⟨h0, h1, h2⟩ := hh i x hi hx
  simp only [Nat.zero_add]
  refine ⟨?_, ?_, ?_⟩
  · rw [h.cell (by omega), h0]
  · rw [h.cell (by omega), h1]
  · rw [h.cell (by omega), h2]

def badK (kind : Int) (y : Val) : Bool := y.k != 0 && y.k != kind
def fromV (kind : Int) (xs : List Val) : Vc × Int :=
  if kindB kind = false then (.zero, 1) else if (xs.map cleanV).any (badK kind) then (.zero, 4) else if (xs.map cleanV).any (fun y => largeB y.s) then (.zero, 3) else (laidV kind (xs.map cleanV), 0)

/-- What 'From' has cleaned in the first k places. -/
def FInv (w0 w : World) (n k : Nat) (ys : List Val) : Prop :=
  Below w0.heap.size w0 w ∧ w.rowIs w0.heap.size 49 4 (box4 (.int .i64 0) noS noS noS) ∧ (∃ F, w.rowIs (w0.heap.size + 1) 42 (n * 3) F ∧ Holds3 F k ys)
theorem FInv.start (w : World) (n : Nat) (ys : List Val) (z : Array Value) :
    FInv w ((w.alloc (.cells #[.int .i64 0, .slice none 0 0, .slice none 0 0, .slice none 0 0] 49)).alloc (.cells (madeCells z (n * 3)) 42)) n 0 ys := by
  refine ⟨by repeat (first | exact Below.refl _ _ | refine Below.alloc ?_ (by simp <;> omega) _), (World.rowIs_alloc w _ 49 _ (box4_arr _ _ _ _)).alloc _, ?_⟩
  obtain ⟨F, hF⟩ := rowIs_any (w.alloc (.cells #[.int .i64 0, .slice none 0 0, .slice none 0 0, .slice none 0 0] 49)) (madeCells z (n * 3)) 42
  rw [size_madeCells] at hF
  exact ⟨F, by simpa using hF, Holds3.zero _ _⟩
theorem FInv.step {w0 w : World} {n k : Nat} {ys : List Val} {y : Val} (h : FInv w0 w n k ys) (hy : ys[k]? = some y) :
    FInv w0 (((w.setCell ⟨w0.heap.size + 1, k * 3, none⟩ (.int .i64 y.k)).setCell ⟨w0.heap.size + 1, k * 3 + 1, none⟩ (.int .i64 y.n)).setCell ⟨w0.heap.size + 1, k * 3 + 2, none⟩ (.string y.s)) n (k + 1) ys := by
  obtain ⟨hb, hr, ⟨F, hF, hF'⟩⟩ := h
  refine ⟨((hb.setCell (by simp <;> omega) _).setCell (by simp <;> omega) _).setCell (by simp <;> omega) _, ?_, ⟨_, ?_, hF'.step hy⟩⟩
  · exact ((hr.setOther (by simp) _).setOther (by simp) _).setOther (by simp) _
  · exact ((hF.set _ _).set _ _).set _ _
theorem FInv.later {w0 w w' : World} {n k : Nat} {ys : List Val} (h : FInv w0 w n k ys) (hb' : Below w.heap.size w w') : FInv w0 w' n k ys := by
  obtain ⟨hb, hr, ⟨F, hF, hF'⟩⟩ := h
  exact ⟨below_step hb hb', hr.of_block (hb'.block _ hr.lt), F, hF.of_block (hb'.block _ hF.lt), hF'⟩
end Go.Proofs.YtbdkpkpncmagoaaGreat

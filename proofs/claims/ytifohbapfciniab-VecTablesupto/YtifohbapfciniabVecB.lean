import Derived.Test.YtifohbapfciniabVecA
set_option linter.unusedSimpArgs false
set_option linter.unusedVariables false
namespace Go.Proofs.Ytifohbapfciniab
open Go.RowKit Go.Sort

/-- A slice of values, as it lies in memory: the elements. -/
def RowAt (w : World) (a : Option Addr) (xs : List Val) : Prop :=
  xs = [] ∨ ∃ b off, a = some ⟨b, off, none⟩ ∧ ∀ i x, xs[i]? = some x → w.cell? ⟨b, off + i * 3, none⟩ = some (.int .i64 x.k) ∧ w.cell? ⟨b, off + i * 3 + 1, none⟩ = some (.int .i64 x.n) ∧ w.cell? ⟨b, off + i * 3 + 2, none⟩ = some (.string x.s)
theorem RowAt.later {w w' : World} {a : Option Addr} {xs : List Val} (h : RowAt w a xs) (hb : Below w.heap.size w w') : RowAt w' a xs := by
  rcases h with h | ⟨b, off, ha, h⟩
  · exact .inl h
  · exact .inr ⟨b, off, ha, fun i x hx => ⟨cell_later hb (h i x hx).1, cell_later hb (h i x hx).2.1, cell_later hb (h i x hx).2.2⟩⟩
/-- A slice of one-cell elements, as it lies in memory. -/
def LisAt (w : World) (a : Option Addr) (cs : List Value) : Prop :=
  cs = [] ∨ ∃ b off, a = some ⟨b, off, none⟩ ∧ ∀ i x, cs[i]? = some x → w.cell? ⟨b, off + i, none⟩ = some x
theorem LisAt.later {w w' : World} {a : Option Addr} {cs : List Value} (h : LisAt w a cs) (hb : Below w.heap.size w w') : LisAt w' a cs := by
  rcases h with h | ⟨b, off, ha, h⟩
  · exact .inl h
  · exact .inr ⟨b, off, ha, fun i x hx => cell_later hb (h i x hx)⟩

/-- A column: its kind, where there is no value, its numbers, its texts. -/
structure Vc where
  k : Int
  nl : List Bool
  ns : List Int
  ss : List ByteArray
def Vc.zero : Vc := ⟨0, [], [], []⟩
/-- A column's slices. -/
structure Sl where
  a1 : Option Addr
  c1 : Nat
  a2 : Option Addr
  c2 : Nat
  a3 : Option Addr
  c3 : Nat
def vecV (X : Vc) (p : Sl) : Value := .agg #[.int .i64 X.k, .slice p.a1 X.nl.length p.c1, .slice p.a2 X.ns.length p.c2, .slice p.a3 X.ss.length p.c3]
theorem vecV_open (X : Vc) (p : Sl) : vecV X p = .agg #[.int .i64 X.k, .slice p.a1 X.nl.length p.c1, .slice p.a2 X.ns.length p.c2, .slice p.a3 X.ss.length p.c3] := rfl
def VecAt (w : World) (X : Vc) (p : Sl) : Prop := LisAt w p.a1 (X.nl.map .bool) ∧ LisAt w p.a2 (X.ns.map (.int .i64)) ∧ LisAt w p.a3 (X.ss.map .string)
theorem VecAt.later {w w' : World} {X : Vc} {p : Sl} (h : VecAt w X p) (hb : Below w.heap.size w w') : VecAt w' X p := ⟨h.1.later hb, h.2.1.later hb, h.2.2.later hb⟩
theorem VecAt.zero (w : World) : VecAt w Vc.zero ⟨none, 0, none, 0, none, 0⟩ := ⟨.inl rfl, .inl rfl, .inl rfl⟩

/-- The slices lie in blocks from base on. -/
def Fresh (base : Nat) (p : Sl) : Prop := (∀ ad, p.a1 = some ad → base ≤ ad.block) ∧ (∀ ad, p.a2 = some ad → base ≤ ad.block) ∧ (∀ ad, p.a3 = some ad → base ≤ ad.block)
theorem Fresh.less {b c : Nat} {p : Sl} (h : Fresh c p) (hb : b ≤ c) : Fresh b p := ⟨fun ad e => Nat.le_trans hb (h.1 ad e), fun ad e => Nat.le_trans hb (h.2.1 ad e), fun ad e => Nat.le_trans hb (h.2.2 ad e)⟩
theorem LisAt.setO {w : World} {a : Option Addr} {base : Nat} {cs : List Value} (h : LisAt w a cs) (hf : ∀ ad, a = some ad → base ≤ ad.block) (x : Addr) (hx : x.block < base) (v : Value) : LisAt (w.setCell x v) a cs := by
  rcases h with h | ⟨b, off, e, h⟩
  · exact .inl h
  · subst e
    have := hf _ rfl
    exact .inr ⟨b, off, rfl, fun i y hy => (World.cell?_of_block (w := w) (Go.Deep.blk_setCell_other _ _ _ _ (by simp at this ⊢; omega))).trans (h i y hy)⟩
theorem VecAt.setO {w : World} {X : Vc} {p : Sl} {base : Nat} (h : VecAt w X p) (hf : Fresh base p) (x : Addr) (hx : x.block < base) (v : Value) : VecAt (w.setCell x v) X p :=
  ⟨h.1.setO hf.1 x hx v, h.2.1.setO hf.2.1 x hx v, h.2.2.setO hf.2.2 x hx v⟩
theorem VecAt.setO4 {w : World} {X : Vc} {p : Sl} {base B : Nat} (h : VecAt w X p) (hf : Fresh base p) (hx : B < base) (v0 v1 v2 v3 : Value) : VecAt ((((w.setCell ⟨B, 0, none⟩ v0).setCell ⟨B, 1, none⟩ v1).setCell ⟨B, 2, none⟩ v2).setCell ⟨B, 3, none⟩ v3) X p :=
  (((h.setO hf _ hx _).setO hf _ hx _).setO hf _ hx _).setO hf _ hx _

def nlOf (xs : List Val) : List Bool := xs.map (fun x => x.k == 0)
def laidV (kind : Int) (xs : List Val) : Vc := ⟨kind, nlOf xs, if kind = 1 then xs.map (·.n) else [], if kind = 1 then [] else xs.map (·.s)⟩

theorem Try.info4 : (Try.prog.info? 4).map (fun i => (i.zero, i.size, i.bytes)) = some (some (.bool false), 1, 1) := by kernel_rfl
theorem Try.info2 : (Try.prog.info? 2).map (fun i => (i.zero, i.size, i.bytes)) = some (some (.int .i64 0), 1, 8) := by kernel_rfl
theorem Try.info9 : (Try.prog.info? 9).map (fun i => (i.zero, i.size, i.bytes)) = some (some (.string ⟨#[]⟩), 1, 16) := by kernel_rfl
theorem Try.info40 : (Try.prog.info? 40).map (fun i => (i.zero, i.size, i.bytes)) = some (some (.agg #[.int .i64 0, .int .i64 0, .string ⟨#[]⟩]), 3, 32) := by kernel_rfl

/-- What a row of the call's own holds up to k. -/
def Holds (F : Nat → Value) (k : Nat) (cs : List Value) : Prop := ∀ i x, i < k → cs[i]? = some x → F i = x
theorem Holds.zero (F : Nat → Value) (cs : List Value) : Holds F 0 cs := fun i x h => by omega
theorem Holds.step {F : Nat → Value} {k : Nat} {cs : List Value} {v : Value} (h : Holds F k cs) (hv : cs[k]? = some v) : Holds (fun j => if j = k then v else F j) (k + 1) cs := by
  intro i x hi hx
  by_cases e : i = k
  · subst e; rw [hv] at hx; simpa using hx
  · show (if i = k then v else F i) = x
    rw [if_neg e]; exact h i x (by omega) hx
theorem lis_of_row {w : World} {g t n : Nat} {F : Nat → Value} {cs : List Value} (h : w.rowIs g t n F) (hl : cs.length = n) (hh : Holds F n cs) : LisAt w (some ⟨g, 0, none⟩) cs := by
  refine .inr ⟨g, 0, rfl, fun i x hx => ?_⟩
  have hi : i < n := by have := (List.getElem?_eq_some_iff.1 hx).1; omega
  rw [Nat.zero_add, h.cell hi, hh i x hi hx]

def box4 (a b c d : Value) : Nat → Value
  | 0 => a
  | 1 => b
  | 2 => c
  | _ => d
end Go.Proofs.Ytifohbapfciniab

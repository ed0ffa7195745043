import Derived.Test.YtmjeiepljlepbacGreatCellR
import Derived.Test.YtmjeiepljlepbacGreatCellB
set_option linter.unusedSimpArgs false
set_option linter.unusedVariables false
namespace Go.Proofs.YtmjeiepljlepbacGreat
open Go.RowKit Go.Sort

/-- An expression. -/
inductive Ex where
  | mk (op n : Int) (v : Val) (args : List Ex)
def Ex.op : Ex → Int | .mk o _ _ _ => o
def Ex.n : Ex → Int | .mk _ n _ _ => n
def Ex.v : Ex → Val | .mk _ _ v _ => v
def Ex.args : Ex → List Ex | .mk _ _ _ l => l
mutual
/-- How many nodes. -/
def Ex.size : Ex → Nat
  | .mk _ _ _ l => Ex.sizes l + 1
def Ex.sizes : List Ex → Nat
  | [] => 0
  | e :: l => e.size + Ex.sizes l
end
theorem Ex.size_mk (e : Ex) : e.size = Ex.sizes e.args + 1 := by cases e; rw [Ex.size]; rfl
theorem Ex.size_mem : ∀ {l : List Ex} {e : Ex}, e ∈ l → e.size ≤ Ex.sizes l
  | [], _, h => by cases h
  | x :: l, e, h => by
    rw [Ex.sizes]
    rcases List.mem_cons.1 h with rfl | h
    · omega
    · have := Ex.size_mem h; omega
theorem Ex.size_arg {e x : Ex} {i : Nat} (h : e.args[i]? = some x) : x.size < e.size := by
  have := Ex.size_mem (List.mem_of_getElem? h)
  rw [Ex.size_mk e]; omega
/-- As a value: its parts lie from a on. -/
def Ex.val (e : Ex) (a : Option Addr) (c : Nat) : Value := .agg #[.int .i64 e.op, .int .i64 e.n, .int .i64 e.v.k, .int .i64 e.v.n, .string e.v.s, .slice a e.args.length c]
theorem Ex.val_open (e : Ex) (a : Option Addr) (c : Nat) : e.val a c = .agg #[.int .i64 e.op, .int .i64 e.n, .int .i64 e.v.k, .int .i64 e.v.n, .string e.v.s, .slice a e.args.length c] := rfl
mutual
/-- A node lies in the cells from off on of block b. -/
def Ex.at (w : World) (b off : Nat) : Ex → Prop
  | .mk op n v l => ∃ a c, (w.cell? ⟨b, off, none⟩ = some (.int .i64 op) ∧ w.cell? ⟨b, off + 1, none⟩ = some (.int .i64 n) ∧ w.cell? ⟨b, off + 2, none⟩ = some (.int .i64 v.k) ∧ w.cell? ⟨b, off + 3, none⟩ = some (.int .i64 v.n) ∧ w.cell? ⟨b, off + 4, none⟩ = some (.string v.s) ∧ w.cell? ⟨b, off + 5, none⟩ = some (.slice a l.length c)) ∧ Ex.all w a l
def Ex.all (w : World) (a : Option Addr) : List Ex → Prop
  | [] => True
  | e :: l => ∃ b off, a = some ⟨b, off, none⟩ ∧ Ex.at w b off e ∧ (Ex.all w (some ⟨b, off + 6, none⟩) l)
end
theorem clater {w w' : World} {b o : Nat} {v : Value} (h : w.cell? ⟨b, o, none⟩ = some v) (hb : Below w.heap.size w w') : w'.cell? ⟨b, o, none⟩ = some v := by
  rw [(bcell hb).1 b o (World.block_lt_of_cell? _ _ h)]; exact h
mutual
theorem Ex.at_later : ∀ (e : Ex) {w w' : World} {b off : Nat}, Ex.at w b off e → Below w.heap.size w w' → Ex.at w' b off e
  | .mk op n v l, w, w', b, off, h, hb => by
    rw [Ex.at] at h ⊢
    obtain ⟨a, c, ⟨h0, h1, h2, h3, h4, h5⟩, h6⟩ := h
    exact ⟨a, c, ⟨clater h0 hb, clater h1 hb, clater h2 hb, clater h3 hb, clater h4 hb, clater h5 hb⟩, Ex.all_later l h6 hb⟩
theorem Ex.all_later : ∀ (l : List Ex) {w w' : World} {a : Option Addr}, Ex.all w a l → Below w.heap.size w w' → Ex.all w' a l
  | [], w, w', a, h, hb => by rw [Ex.all]; trivial
  | e :: l, w, w', a, h, hb => by
    rw [Ex.all] at h ⊢
    obtain ⟨b, off, h1, h2, h3⟩ := h
    exact ⟨b, off, h1, Ex.at_later e h2 hb, Ex.all_later l h3 hb⟩
end
theorem Ex.all_get {w : World} : ∀ {l : List Ex} {a : Option Addr} {i : Nat} {e : Ex}, Ex.all w a l → l[i]? = some e → ∃ b off, a = some ⟨b, off, none⟩ ∧ Ex.at w b (off + i * 6) e
  | [], _, _, _, _, hi => by simp at hi
  | x :: l, a, 0, e, h, hi => by
    rw [Ex.all] at h
    obtain ⟨b, off, h1, h2, _⟩ := h
    simp at hi
    subst hi
    exact ⟨b, off, h1, by simpa using h2⟩
  | x :: l, a, i + 1, e, h, hi => by
    rw [Ex.all] at h
    obtain ⟨b, off, h1, _, h3⟩ := h
    obtain ⟨b', off', e1, e2⟩ := Ex.all_get h3 (by simpa using hi : l[i]? = some e)
    injection e1 with e1
    injection e1 with e1 e3
    subst e1 e3
    refine ⟨b, off, h1, ?_⟩
    rw [show off + (i + 1) * 6 = off + 6 + i * 6 by omega]
    exact e2
theorem Ex.at_open {w : World} {b off : Nat} {e : Ex} (h : e.at w b off) : ∃ a c, (w.cell? ⟨b, off, none⟩ = some (.int .i64 e.op) ∧ w.cell? ⟨b, off + 1, none⟩ = some (.int .i64 e.n) ∧ w.cell? ⟨b, off + 2, none⟩ = some (.int .i64 e.v.k) ∧ w.cell? ⟨b, off + 3, none⟩ = some (.int .i64 e.v.n) ∧ w.cell? ⟨b, off + 4, none⟩ = some (.string e.v.s) ∧ w.cell? ⟨b, off + 5, none⟩ = some (.slice a e.args.length c)) ∧ Ex.all w a e.args := by
  cases e with
  | mk op n v l => rw [Ex.at] at h; exact h
/-- A node's box. -/
abbrev Ex.box (e : Ex) (a : Option Addr) (c : Nat) : Obj := .cells #[.int .i64 e.op, .int .i64 e.n, .int .i64 e.v.k, .int .i64 e.v.n, .string e.v.s, .slice a e.args.length c] 59
def Six (w : World) (b : Nat) (e : Ex) (a : Option Addr) (c : Nat) : Prop := w.cell? ⟨b, 0, none⟩ = some (.int .i64 e.op) ∧ w.cell? ⟨b, 1, none⟩ = some (.int .i64 e.n) ∧ w.cell? ⟨b, 2, none⟩ = some (.int .i64 e.v.k) ∧ w.cell? ⟨b, 3, none⟩ = some (.int .i64 e.v.n) ∧ w.cell? ⟨b, 4, none⟩ = some (.string e.v.s) ∧ w.cell? ⟨b, 5, none⟩ = some (.slice a e.args.length c)
theorem Six.later {w w' : World} {b : Nat} {e : Ex} {a : Option Addr} {c : Nat} (h : Six w b e a c) (hb : Below w.heap.size w w') : Six w' b e a c :=
  ⟨clater h.1 hb, clater h.2.1 hb, clater h.2.2.1 hb, clater h.2.2.2.1 hb, clater h.2.2.2.2.1 hb, clater h.2.2.2.2.2 hb⟩
theorem Six.new (w : World) (e : Ex) (a : Option Addr) (c : Nat) : Six (w.alloc (e.box a c)) w.heap.size e a c := ⟨by simp [go_sem], by simp [go_sem], by simp [go_sem], by simp [go_sem], by simp [go_sem], by simp [go_sem]⟩
/-- How many parts an operator has. -/
def arI (op : Int) : Int := if op == 1 then 0 else if op == 2 then 0 else if decide (3 ≤ op) && decide (op ≤ 6) then 1 else if decide (7 ≤ op) && decide (op ≤ 20) then 2 else if op == 21 then 3 else -1
def soundE (e : Ex) : Bool := ((e.args.length : Int) == arI e.op) && (if e.op == 1 then decide (0 ≤ e.n) else if e.op == 2 then decide ((cleanV e.v).s.size ≤ 1000) else true)
end Go.Proofs.YtmjeiepljlepbacGreat

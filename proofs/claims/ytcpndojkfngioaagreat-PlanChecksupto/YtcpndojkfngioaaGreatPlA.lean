import Derived.Test.YtcpndojkfngioaaGreatExE
import Derived.Test.YtcpndojkfngioaaGreatKeptA
set_option linter.unusedSimpArgs false
set_option linter.unusedVariables false
namespace Go.Proofs.YtcpndojkfngioaaGreat
open Go.RowKit Go.Sort

/-- Keys: a column, and whether it falls. -/
def KeysAt (w : World) (a : Option Addr) (l : List (Int × Bool)) : Prop := l = [] ∨ ∃ b off, a = some ⟨b, off, none⟩ ∧ ∀ i x, l[i]? = some x → w.cell? ⟨b, off + i * 2, none⟩ = some (.int .i64 x.1) ∧ w.cell? ⟨b, off + i * 2 + 1, none⟩ = some (.bool x.2)
theorem KeysAt.later {w w' : World} {a : Option Addr} {l : List (Int × Bool)} (h : KeysAt w a l) (hb : Below w.heap.size w w') : KeysAt w' a l := by
  rcases h with h | ⟨b, off, ha, h⟩
  · exact .inl h
  · exact .inr ⟨b, off, ha, fun i x hx => ⟨clater (h i x hx).1 hb, clater (h i x hx).2 hb⟩⟩
theorem KeysAt.get {w : World} {a : Option Addr} {l : List (Int × Bool)} {i : Nat} {x : Int × Bool} (h : KeysAt w a l) (hx : l[i]? = some x) : ∃ b off, a = some ⟨b, off, none⟩ ∧ w.cell? ⟨b, off + i * 2, none⟩ = some (.int .i64 x.1) ∧ w.cell? ⟨b, off + i * 2 + 1, none⟩ = some (.bool x.2) := by
  rcases h with h | ⟨b, off, ha, h⟩
  · rw [h] at hx; simp at hx
  · exact ⟨b, off, ha, h i x hx⟩
/-- Aggregates: a function, and its column. -/
def AggsAt (w : World) (a : Option Addr) (l : List (Int × Int)) : Prop := l = [] ∨ ∃ b off, a = some ⟨b, off, none⟩ ∧ ∀ i x, l[i]? = some x → w.cell? ⟨b, off + i * 2, none⟩ = some (.int .i64 x.1) ∧ w.cell? ⟨b, off + i * 2 + 1, none⟩ = some (.int .i64 x.2)
theorem AggsAt.later {w w' : World} {a : Option Addr} {l : List (Int × Int)} (h : AggsAt w a l) (hb : Below w.heap.size w w') : AggsAt w' a l := by
  rcases h with h | ⟨b, off, ha, h⟩
  · exact .inl h
  · exact .inr ⟨b, off, ha, fun i x hx => ⟨clater (h i x hx).1 hb, clater (h i x hx).2 hb⟩⟩
theorem AggsAt.get {w : World} {a : Option Addr} {l : List (Int × Int)} {i : Nat} {x : Int × Int} (h : AggsAt w a l) (hx : l[i]? = some x) : ∃ b off, a = some ⟨b, off, none⟩ ∧ w.cell? ⟨b, off + i * 2, none⟩ = some (.int .i64 x.1) ∧ w.cell? ⟨b, off + i * 2 + 1, none⟩ = some (.int .i64 x.2) := by
  rcases h with h | ⟨b, off, ha, h⟩
  · rw [h] at hx; simp at hx
  · exact ⟨b, off, ha, h i x hx⟩
/-- A plan. -/
inductive Pl where
  | mk (op : Int) (tab : ByteArray) (ex : List Ex) (cols : List Int) (keys : List (Int × Bool)) (aggs : List (Int × Int)) (fn col n off : Int) (args : List Pl)
def Pl.op : Pl → Int | .mk x _ _ _ _ _ _ _ _ _ _ => x
def Pl.tab : Pl → ByteArray | .mk _ x _ _ _ _ _ _ _ _ _ => x
def Pl.ex : Pl → List Ex | .mk _ _ x _ _ _ _ _ _ _ _ => x
def Pl.cols : Pl → List Int | .mk _ _ _ x _ _ _ _ _ _ _ => x
def Pl.keys : Pl → List (Int × Bool) | .mk _ _ _ _ x _ _ _ _ _ _ => x
def Pl.aggs : Pl → List (Int × Int) | .mk _ _ _ _ _ x _ _ _ _ _ => x
def Pl.fn : Pl → Int | .mk _ _ _ _ _ _ x _ _ _ _ => x
def Pl.col : Pl → Int | .mk _ _ _ _ _ _ _ x _ _ _ => x
def Pl.n : Pl → Int | .mk _ _ _ _ _ _ _ _ x _ _ => x
def Pl.off : Pl → Int | .mk _ _ _ _ _ _ _ _ _ x _ => x
def Pl.args : Pl → List Pl | .mk _ _ _ _ _ _ _ _ _ _ x => x
mutual
/-- How many plans. -/
def Pl.size : Pl → Nat
  | .mk _ _ _ _ _ _ _ _ _ _ l => Pl.sizes l + 1
def Pl.sizes : List Pl → Nat
  | [] => 0
  | e :: l => e.size + Pl.sizes l
end
theorem Pl.size_mk (e : Pl) : e.size = Pl.sizes e.args + 1 := by cases e; rw [Pl.size]; rfl
theorem Pl.size_mem : ∀ {l : List Pl} {e : Pl}, e ∈ l → e.size ≤ Pl.sizes l
  | [], _, h => by cases h
  | x :: l, e, h => by
    rw [Pl.sizes]
    rcases List.mem_cons.1 h with rfl | h
    · omega
    · have := Pl.size_mem h; omega
theorem Pl.size_arg {e x : Pl} {i : Nat} (h : e.args[i]? = some x) : x.size < e.size := by
  have := Pl.size_mem (List.mem_of_getElem? h)
  rw [Pl.size_mk e]; omega
/-- Where a plan's lists lie. -/
structure Pm where
  aE : Option Addr
  cE : Nat
  aC : Option Addr
  cC : Nat
  aK : Option Addr
  cK : Nat
  aA : Option Addr
  cA : Nat
  aP : Option Addr
  cP : Nat
/-- As a value. -/
def Pl.val (p : Pl) (m : Pm) : Value := .agg #[.int .i64 p.op, .string p.tab, .slice m.aE p.ex.length m.cE, .slice m.aC p.cols.length m.cC, .slice m.aK p.keys.length m.cK, .slice m.aA p.aggs.length m.cA, .int .i64 p.fn, .int .i64 p.col, .int .i64 p.n, .int .i64 p.off, .slice m.aP p.args.length m.cP]
theorem Pl.val_open (p : Pl) (m : Pm) : p.val m = .agg #[.int .i64 p.op, .string p.tab, .slice m.aE p.ex.length m.cE, .slice m.aC p.cols.length m.cC, .slice m.aK p.keys.length m.cK, .slice m.aA p.aggs.length m.cA, .int .i64 p.fn, .int .i64 p.col, .int .i64 p.n, .int .i64 p.off, .slice m.aP p.args.length m.cP] := rfl
/-- The eleven cells of a plan, from off on of block b. -/
structure Elv (w : World) (b off : Nat) (p : Pl) (m : Pm) : Prop where
  c0 : w.cell? ⟨b, off, none⟩ = some (.int .i64 p.op)
  c1 : w.cell? ⟨b, off + 1, none⟩ = some (.string p.tab)
  c2 : w.cell? ⟨b, off + 2, none⟩ = some (.slice m.aE p.ex.length m.cE)
  c3 : w.cell? ⟨b, off + 3, none⟩ = some (.slice m.aC p.cols.length m.cC)
  c4 : w.cell? ⟨b, off + 4, none⟩ = some (.slice m.aK p.keys.length m.cK)
  c5 : w.cell? ⟨b, off + 5, none⟩ = some (.slice m.aA p.aggs.length m.cA)
  c6 : w.cell? ⟨b, off + 6, none⟩ = some (.int .i64 p.fn)
  c7 : w.cell? ⟨b, off + 7, none⟩ = some (.int .i64 p.col)
  c8 : w.cell? ⟨b, off + 8, none⟩ = some (.int .i64 p.n)
  c9 : w.cell? ⟨b, off + 9, none⟩ = some (.int .i64 p.off)
  c10 : w.cell? ⟨b, off + 10, none⟩ = some (.slice m.aP p.args.length m.cP)
theorem Elv.later {w w' : World} {b off : Nat} {p : Pl} {m : Pm} (h : Elv w b off p m) (hb : Below w.heap.size w w') : Elv w' b off p m :=
  ⟨clater h.c0 hb, clater h.c1 hb, clater h.c2 hb, clater h.c3 hb, clater h.c4 hb, clater h.c5 hb, clater h.c6 hb, clater h.c7 hb, clater h.c8 hb, clater h.c9 hb, clater h.c10 hb⟩
/-- A plan's own lists, but its Args. -/
structure Own4 (w : World) (p : Pl) (m : Pm) : Prop where
  e : Ex.all w m.aE p.ex
  c : IntsAt w m.aC p.cols
  k : KeysAt w m.aK p.keys
  a : AggsAt w m.aA p.aggs
  n : p.cols.length ≤ m.cC
theorem Own4.later {w w' : World} {p : Pl} {m : Pm} (h : Own4 w p m) (hb : Below w.heap.size w w') : Own4 w' p m := ⟨Ex.all_later _ h.e hb, h.c.later hb, h.k.later hb, h.a.later hb, h.n⟩
mutual
/-- A plan lies in the cells from off on of block b. -/
def Pl.at (w : World) (b off : Nat) : Pl → Prop
  | .mk op tab ex cols keys aggs fn col n o l => ∃ m, Elv w b off (.mk op tab ex cols keys aggs fn col n o l) m ∧ Own4 w (.mk op tab ex cols keys aggs fn col n o l) m ∧ Pl.all w m.aP l
def Pl.all (w : World) (a : Option Addr) : List Pl → Prop
  | [] => True
  | e :: l => ∃ b off, a = some ⟨b, off, none⟩ ∧ Pl.at w b off e ∧ (Pl.all w (some ⟨b, off + 11, none⟩) l)
end
mutual
theorem Pl.at_later : ∀ (e : Pl) {w w' : World} {b off : Nat}, Pl.at w b off e → Below w.heap.size w w' → Pl.at w' b off e
  | .mk op tab ex cols keys aggs fn col n o l, w, w', b, off, h, hb => by
    rw [Pl.at] at h ⊢
    obtain ⟨m, h1, h2, h3⟩ := h
    exact ⟨m, h1.later hb, h2.later hb, Pl.all_later l h3 hb⟩
theorem Pl.all_later : ∀ (l : List Pl) {w w' : World} {a : Option Addr}, Pl.all w a l → Below w.heap.size w w' → Pl.all w' a l
  | [], w, w', a, h, hb => by rw [Pl.all]; trivial
  | e :: l, w, w', a, h, hb => by
    rw [Pl.all] at h ⊢
    obtain ⟨b, off, h1, h2, h3⟩ := h
    exact ⟨b, off, h1, Pl.at_later e h2 hb, Pl.all_later l h3 hb⟩
end
theorem Pl.all_get {w : World} : ∀ {l : List Pl} {a : Option Addr} {i : Nat} {e : Pl}, Pl.all w a l → l[i]? = some e → ∃ b off, a = some ⟨b, off, none⟩ ∧ Pl.at w b (off + i * 11) e
  | [], _, _, _, _, hi => by simp at hi
  | x :: l, a, 0, e, h, hi => by
    rw [Pl.all] at h
    obtain ⟨b, off, h1, h2, _⟩ := h
    simp at hi
    subst hi
    exact ⟨b, off, h1, by simpa using h2⟩
  | x :: l, a, i + 1, e, h, hi => by
    rw [Pl.all] at h
    obtain ⟨b, off, h1, _, h3⟩ := h
    obtain ⟨b', off', e1, e2⟩ := Pl.all_get h3 (by simpa using hi : l[i]? = some e)
    injection e1 with e1
    injection e1 with e1 e3
    subst e1 e3
    refine ⟨b, off, h1, ?_⟩
    rw [show off + (i + 1) * 11 = off + 11 + i * 11 by omega]
    exact e2
theorem Pl.at_open {w : World} {b off : Nat} {e : Pl} (h : e.at w b off) : ∃ m, Elv w b off e m ∧ Own4 w e m ∧ Pl.all w m.aP e.args := by
  cases e with
  | mk op tab ex cols keys aggs fn col n o l => rw [Pl.at] at h; exact h
/-- All that a plan's value leads to. -/
structure PlM (w : World) (p : Pl) (m : Pm) : Prop where
  o : Own4 w p m
  p : Pl.all w m.aP p.args
theorem PlM.later {w w' : World} {p : Pl} {m : Pm} (h : PlM w p m) (hb : Below w.heap.size w w') : PlM w' p m := ⟨h.o.later hb, Pl.all_later _ h.p hb⟩
/-- A plan's box. -/
abbrev Pl.box (p : Pl) (m : Pm) : Obj := .cells #[.int .i64 p.op, .string p.tab, .slice m.aE p.ex.length m.cE, .slice m.aC p.cols.length m.cC, .slice m.aK p.keys.length m.cK, .slice m.aA p.aggs.length m.cA, .int .i64 p.fn, .int .i64 p.col, .int .i64 p.n, .int .i64 p.off, .slice m.aP p.args.length m.cP] 28
theorem Elv.new (w : World) (p : Pl) (m : Pm) : Elv (w.alloc (p.box m)) w.heap.size 0 p m := ⟨by simp [go_sem], by simp [go_sem], by simp [go_sem], by simp [go_sem], by simp [go_sem], by simp [go_sem], by simp [go_sem], by simp [go_sem], by simp [go_sem], by simp [go_sem], by simp [go_sem]⟩
mutual
/-- Its lengths and numbers are such as there are. -/
def Pl.fin : Pl → Prop
  | .mk op tab ex cols keys aggs fn col n o l => (tab.size ≤ 1048576 ∧ ex.length ≤ 1048576 ∧ cols.length ≤ 1048576 ∧ keys.length ≤ 1048576 ∧ aggs.length ≤ 1048576 ∧ l.length ≤ 1048576 ∧ In64 n ∧ (∀ x ∈ cols, In64 x) ∧ (∀ x ∈ keys, In64 x.1) ∧ ∀ x ∈ aggs, In64 x.2) ∧ Ex.fins ex ∧ Pl.fins l
def Pl.fins : List Pl → Prop
  | [] => True
  | e :: l => e.fin ∧ Pl.fins l
end
theorem Pl.fin_open {p : Pl} (h : p.fin) : (p.tab.size ≤ 1048576 ∧ p.ex.length ≤ 1048576 ∧ p.cols.length ≤ 1048576 ∧ p.keys.length ≤ 1048576 ∧ p.aggs.length ≤ 1048576 ∧ p.args.length ≤ 1048576 ∧ In64 p.n ∧ (∀ x ∈ p.cols, In64 x) ∧ (∀ x ∈ p.keys, In64 x.1) ∧ ∀ x ∈ p.aggs, In64 x.2) ∧ Ex.fins p.ex ∧ Pl.fins p.args := by
  cases p with
  | mk op tab ex cols keys aggs fn col n o l => rw [Pl.fin] at h; exact h
theorem Pl.fins_mem : ∀ {l : List Pl} {x : Pl}, Pl.fins l → x ∈ l → x.fin
  | [], _, _, h => by cases h
  | e :: l, x, hf, h => by
    rw [Pl.fins] at hf
    rcases List.mem_cons.1 h with rfl | h
    · exact hf.1
    · exact Pl.fins_mem hf.2 h
theorem Pl.fin_arg {e x : Pl} {i : Nat} (h : e.fin) (hx : e.args[i]? = some x) : x.fin := Pl.fins_mem (Pl.fin_open h).2.2 (List.mem_of_getElem? hx)
end Go.Proofs.YtcpndojkfngioaaGreat
set_option linter.unusedSimpArgs false
set_option linter.unusedVariables false
namespace Go.Proofs.YtcpndojkfngioaaGreat
open Go.RowKit Go.Sort

theorem wpList_load_w {P : Program} {ops : Array Oper} {rest : List Oper} {o : Oper} {a : Act} {w : World} {Q : Exit → Act → World → Prop} (hg : Region.wanted o (yielded ops a.tmps) = true) (t : TypeId) (p : Operand) (hop : o.op = Op.load t p) (ad : Value) (hp : a.eval p = ad) (v : Value) (hrun : (Instr.loadAt t ad).run P w = .ok v w)
    (hK : wpList P ops Q rest (a.put o.dst v) w) : wpList P ops Q (o :: rest) a w := by
  refine wpList_step fun K hK' => ?_
  rw [if_pos hg]
  unfold Oper.wp
  simp only [execOp, hop, hp, Sem.run_bind, hrun, Result.andThen]
  exact hK' _ _ hK
set_option maxRecDepth 100000 in
set_option maxHeartbeats 2000000 in
/-- A plan's load. -/
theorem Elv.load {w : World} {b off : Nat} {p : Pl} {m : Pm} (h : Elv w b off p m) : (Instr.loadAt 28 (.pointer (some ⟨b, off, none⟩))).run Tryz.prog w = .ok (p.val m) w := by
  obtain ⟨c0, c1, c2, c3, c4, c5, c6, c7, c8, c9, c10⟩ := h
  unfold Pl.val
  go_simp
end Go.Proofs.YtcpndojkfngioaaGreat
set_option linter.unusedSimpArgs false
set_option linter.unusedVariables false
namespace Go.Proofs.YtcpndojkfngioaaGreat
open Go.RowKit Go.Sort

/-- A node's box of its own: what is in it, and that it may be written. -/
def Box6 (w : World) (b : Nat) (e : Ex) (a : Option Addr) (c : Nat) : Prop := Six w b e a c ∧ (w.frozen? ⟨b, 0, none⟩ = false ∧ w.frozen? ⟨b, 1, none⟩ = false ∧ w.frozen? ⟨b, 2, none⟩ = false ∧ w.frozen? ⟨b, 3, none⟩ = false ∧ w.frozen? ⟨b, 4, none⟩ = false ∧ w.frozen? ⟨b, 5, none⟩ = false)
theorem Box6.later {w w1 : World} {b : Nat} {e : Ex} {a : Option Addr} {c : Nat} (h : Box6 w b e a c) (hb : Below w.heap.size w w1) : Box6 w1 b e a c := by
  obtain ⟨h0, f0, f1, f2, f3, f4, f5⟩ := h
  obtain ⟨hc, hf⟩ := bcell hb
  have hl : b < w.heap.size := World.block_lt_of_cell? w _ h0.1
  refine ⟨h0.later hb, ?_⟩
  rw [hf _ _ hl, hf _ _ hl, hf _ _ hl, hf _ _ hl, hf _ _ hl, hf _ _ hl]
  exact ⟨f0, f1, f2, f3, f4, f5⟩
theorem Box6.new (w : World) (e : Ex) (a : Option Addr) (c : Nat) : Box6 (w.alloc (e.box a c)) w.heap.size e a c := ⟨Six.new w e a c, by simp [go_sem], by simp [go_sem], by simp [go_sem], by simp [go_sem], by simp [go_sem], by simp [go_sem]⟩
/-- The expression that is none. -/
abbrev zeroE : Ex := .mk 0 0 .null []
theorem put6 {w W : World} {B : Nat} (hb : Below w.heap.size w W) (hB : w.heap.size ≤ B) (u0 u1 u2 u3 u4 u5 : Value) : Below w.heap.size w ((((((W.setCell ⟨B, 0, none⟩ u0).setCell ⟨B, 1, none⟩ u1).setCell ⟨B, 2, none⟩ u2).setCell ⟨B, 3, none⟩ u3).setCell ⟨B, 4, none⟩ u4).setCell ⟨B, 5, none⟩ u5) :=
  ((((((hb.setCell (by simpa using hB) _).setCell (by simpa using hB) _).setCell (by simpa using hB) _).setCell (by simpa using hB) _).setCell (by simpa using hB) _).setCell (by simpa using hB) _)
end Go.Proofs.YtcpndojkfngioaaGreat

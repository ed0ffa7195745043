import Derived.Test.YtbdkpkpncmagoaaGreatVecE
import Derived.Test.YtbdkpkpncmagoaaGreatVecL
set_option linter.unusedSimpArgs false
set_option linter.unusedVariables false
namespace Go.Proofs.YtbdkpkpncmagoaaGreat
open Go.RowKit Go.Sort

theorem rowIs_grown {w w' : World} {g t n : Nat} {F : Nat → Value} {row : Option Nat} (h : w.rowIs g t n F) (hg : w.grownBy w' row) (hne : some g ≠ row) : w'.rowIs g t n F := h.of_block (hg.block _ h.lt hne)
theorem own_block {w : World} {base e size : Nat} {v : Value} {m : Nat} {xs : List Value} (h : w.ownsRow base e size v m xs) {g : Nat} (hg : v.ownBlock = some g) : ∃ cur, w.heap[g]? = some (.cells cur e (0, 0)) := by
  rcases h.2 with ⟨rfl, _⟩ | ⟨g', cap, cur, rfl, _, hh, _⟩
  · simp [Value.ownBlock] at hg
  · simp [Value.ownBlock] at hg; subst hg; exact ⟨cur, hh⟩
theorem own_ne {w : World} {g t n : Nat} {F : Nat → Value} {base e size : Nat} {v : Value} {m : Nat} {xs : List Value} (h : w.rowIs g t n F) (ho : w.ownsRow base e size v m xs) (hte : t ≠ e) : some g ≠ v.ownBlock := by
  intro hg
  obtain ⟨cur, hc⟩ := own_block ho hg.symm
  obtain ⟨c, hb, _⟩ := h
  rw [hc] at hb
  simp at hb
  exact hte hb.2.symm
theorem own_own {w : World} {base e size base' e' size' : Nat} {v v' : Value} {m m' : Nat} {xs xs' : List Value} (h : w.ownsRow base e size v m xs) (h' : w.ownsRow base' e' size' v' m' xs') (hne : e ≠ e') : v.ownBlock = none ∨ v.ownBlock ≠ v'.ownBlock := by
  cases hv : v.ownBlock with
  | none => exact .inl rfl
  | some g =>
    right
    intro hg
    obtain ⟨c, hc⟩ := own_block h hv
    obtain ⟨c', hc'⟩ := own_block h' hg.symm
    rw [hc] at hc'
    simp at hc'
    exact hne hc'.2
theorem grown_set (w : World) (g j : Nat) (u : Value) : w.grownBy (w.setCell ⟨g, j, none⟩ u) (some g) := by
  have := (Below.refl g w).setCell (p := ⟨g, j, none⟩) (Nat.le_refl _) u
  exact ⟨this.os, this.tape, this.output, this.size, fun k _ hne => Below.heap_setCell w _ u k (fun e => hne (by rw [e]))⟩
theorem own_set {w : World} {g t n j : Nat} {F : Nat → Value} {u : Value} {base e size : Nat} {v : Value} {m : Nat} {xs : List Value} (ho : w.ownsRow base e size v m xs) (h : w.rowIs g t n F) (hte : t ≠ e) : (w.setCell ⟨g, j, none⟩ u).ownsRow base e size v m xs :=
  ho.kept (grown_set w g j u) (by have := own_ne h ho hte; cases hv : v.ownBlock with | none => exact .inl rfl | some k => exact .inr (by rw [hv] at this; exact fun e => this e.symm))
theorem own_later {w w1 : World} {base e size : Nat} {v : Value} {m : Nat} {xs : List Value} (h : w.ownsRow base e size v m xs) (hb : Below w.heap.size w w1) : w1.ownsRow base e size v m xs :=
  h.kept (row := none) ⟨hb.os, hb.tape, hb.output, hb.size, fun k hk _ => hb.block k hk⟩ (by cases v.ownBlock with | none => exact .inl rfl | some g => exact .inr (by simp))
theorem grown_below {w w' : World} {row : Option Nat} (hg : w.grownBy w' row) {B : Nat} (hB : B ≤ w.heap.size) (hr : ∀ g, row = some g → B ≤ g) : Below B w w' :=
  ⟨hg.os, hg.tape, hg.output, hg.size, fun k hk => hg.block k (by omega) (fun e => by have := hr k e.symm; omega)⟩
theorem lis_of_own {w : World} {base e : Nat} {v : Value} {m : Nat} {xs : List Value} (h : w.ownsRow base e 1 v m xs) : ∃ a c, v = .slice a m c ∧ LisAt w a xs ∧ ∀ ad, a = some ad → base ≤ ad.block := by
  have hcell := @World.ownsRow.cells w base e 1 v m xs h
  have hl := h.1
  rcases h.2 with ⟨rfl, h0⟩ | ⟨g, cap, cur, rfl, hb, _⟩
  · subst h0
    have : xs = [] := List.eq_nil_of_length_eq_zero (by omega)
    exact ⟨none, 0, rfl, .inl this, by simp⟩
  · refine ⟨some ⟨g, 0, none⟩, cap, rfl, .inr ⟨g, 0, rfl, fun i x hx => ?_⟩, by intro ad e; cases e; exact hb⟩
    have := hcell (g := g) rfl i x hx
    rw [Addr.add_lit, Nat.zero_add] at this
    rw [Nat.zero_add]; exact this

def box3 (y : Val) : Nat → Value
  | 0 => .int .i64 y.k
  | 1 => .int .i64 y.n
  | _ => .string y.s
theorem box3_arr (y : Val) : ∀ i, i < #[Value.int .i64 y.k, .int .i64 y.n, .string y.s].size → #[Value.int .i64 y.k, .int .i64 y.n, .string y.s][i]? = some (box3 y i) := by
  intro i hi
  match i, hi with
  | 0, _ => rfl
  | 1, _ => rfl
  | 2, _ => rfl
theorem box3_alloc (w : World) (y : Val) : (w.alloc (.cells #[.int .i64 y.k, .int .i64 y.n, .string y.s] 42)).rowIs w.heap.size 42 3 (box3 y) := World.rowIs_alloc w _ 42 _ (box3_arr y)
theorem box3_facts {w : World} {g : Nat} {y : Val} (h : w.rowIs g 42 3 (box3 y)) :
    w.cell? ⟨g, 0, none⟩ = some (.int .i64 y.k) ∧ w.cell? ⟨g, 1, none⟩ = some (.int .i64 y.n) ∧ w.cell? ⟨g, 2, none⟩ = some (.string y.s) ∧
    w.frozen? ⟨g, 0, none⟩ = false ∧ w.frozen? ⟨g, 1, none⟩ = false ∧ w.frozen? ⟨g, 2, none⟩ = false :=
  ⟨h.cell (by omega), h.cell (by omega), h.cell (by omega), h.frozen _, h.frozen _, h.frozen _⟩
theorem box3_set {w : World} {g : Nat} {x y : Val} (h : w.rowIs g 42 3 (box3 x)) : (((w.setCell ⟨g, 0, none⟩ (.int .i64 y.k)).setCell ⟨g, 1, none⟩ (.int .i64 y.n)).setCell ⟨g, 2, none⟩ (.string y.s)).rowIs g 42 3 (box3 y) := by
  refine (((h.set 0 _).set 1 _).set 2 _).congr fun i hi => ?_
  match i, hi with
  | 0, _ => rfl
  | 1, _ => rfl
  | 2, _ => rfl

/-- The world of tallyref.From: its result's box, its column's box, the column's own lists (of the type t the second one). -/
structure TI (w0 w : World) (kind : Int) (s1 s2 s3 so : Value) (t : Nat) (c1 co : List Value) : Prop where
  below : Below w0.heap.size w0 w
  res : w.rowIs w0.heap.size 49 4 (box4 (.int .i64 0) noS noS noS)
  box : w.rowIs (w0.heap.size + 1) 49 4 (box4 (.int .i64 kind) s1 s2 s3)
  own1 : w.ownsRow (w0.heap.size + 1 + 1) 4 1 s1 c1.length c1
  own2 : w.ownsRow (w0.heap.size + 1 + 1) t 1 so co.length co
theorem TI.later {w0 w w' : World} {kind : Int} {s1 s2 s3 so : Value} {t : Nat} {c1 co : List Value} (h : TI w0 w kind s1 s2 s3 so t c1 co) (hb : Below w.heap.size w w') : TI w0 w' kind s1 s2 s3 so t c1 co :=
  ⟨below_step h.below hb, rowIs_later h.res hb, rowIs_later h.box hb, own_later h.own1 hb, own_later h.own2 hb⟩
theorem TI.set3 {w0 w : World} {kind : Int} {s1 s2 s3 so : Value} {t : Nat} {c1 co : List Value} {vb : Nat} {x : Val} (h : TI w0 w kind s1 s2 s3 so t c1 co) (hv : w.rowIs vb 42 3 (box3 x)) (ht : 42 ≠ t) (hl : w0.heap.size + 1 + 1 ≤ vb) (y : Val) :
    TI w0 (((w.setCell ⟨vb, 0, none⟩ (.int .i64 y.k)).setCell ⟨vb, 1, none⟩ (.int .i64 y.n)).setCell ⟨vb, 2, none⟩ (.string y.s)) kind s1 s2 s3 so t c1 co := by
  refine ⟨((h.below.setCell (by simp <;> omega) _).setCell (by simp <;> omega) _).setCell (by simp <;> omega) _, ?_, ?_, ?_, ?_⟩
  · exact ((h.res.setOther (by simp <;> omega) _).setOther (by simp <;> omega) _).setOther (by simp <;> omega) _
  · exact ((h.box.setOther (by simp <;> omega) _).setOther (by simp <;> omega) _).setOther (by simp <;> omega) _
  · exact own_set (own_set (own_set h.own1 hv (by decide)) (hv.set _ _) (by decide)) ((hv.set _ _).set _ _) (by decide)
  · exact own_set (own_set (own_set h.own2 hv ht) (hv.set _ _) ht) ((hv.set _ _).set _ _) ht
/-- Behind an append to the first list. -/
theorem TI.app1 {w0 w w1 : World} {kind : Int} {s1 s2 s3 so : Value} {t : Nat} {c1 co : List Value} {o : Obj} {v' x : Value} {vb : Nat} {y : Val} (h : TI w0 w kind s1 s2 s3 so t c1 co) (hv : w.rowIs vb 42 3 (box3 y)) (ht : t ≠ 4) (ht' : 49 ≠ t)
    (ho : w1.ownsRow (w0.heap.size + 1 + 1) 4 1 v' (c1.length + 1) (c1 ++ [x])) (hg : (w.alloc o).grownBy w1 s1.ownBlock) :
    TI w0 (w1.setCell ⟨w0.heap.size + 1, 1, none⟩ v') kind v' s2 s3 so t (c1 ++ [x]) co ∧ (w1.setCell ⟨w0.heap.size + 1, 1, none⟩ v').rowIs vb 42 3 (box3 y) ∧ (vb ≠ w0.heap.size + 1) := by
  have h' := h.later (below_alloc (Below.refl _ w) o)
  have hv' := hv.alloc o
  have hvb : vb ≠ w0.heap.size + 1 := by
    intro e
    obtain ⟨c, hc, _⟩ := hv
    obtain ⟨c', hc', _⟩ := h.box
    rw [e, hc'] at hc
    simp at hc
  have hb1 : w1.rowIs (w0.heap.size + 1) 49 4 (box4 (.int .i64 kind) s1 s2 s3) := rowIs_grown h'.box hg (own_ne h'.box h'.own1 (by decide))
  refine ⟨⟨?_, ?_, ?_, ?_, ?_⟩, ?_, hvb⟩
  · refine Below.setCell (h'.below.trans (grown_below hg h'.below.size fun g e => ?_)) (by simp) _
    have := h'.own1.lt g e; omega
  · exact (rowIs_grown h'.res hg (own_ne h'.res h'.own1 (by decide))).setOther (by simp) _
  · refine (hb1.set 1 v').congr fun i hi => ?_
    match i, hi with
    | 0, _ => rfl
    | 1, _ => rfl
    | 2, _ => rfl
    | 3, _ => rfl
  · have := own_set (u := v') (j := 1) ho hb1 (by decide)
    simpa using this
  · exact own_set (h'.own2.kept hg (own_own h'.own2 h'.own1 ht)) hb1 ht'
  · exact (rowIs_grown hv' hg (own_ne hv' h'.own1 (by decide))).setOther hvb _
/-- Behind an append to the numbers. -/
theorem TI.app2 {w0 w w1 : World} {kind : Int} {s1 s2 s3 : Value} {c1 co : List Value} {o : Obj} {v' x : Value} (h : TI w0 w kind s1 s2 s3 s2 2 c1 co)
    (ho : w1.ownsRow (w0.heap.size + 1 + 1) 2 1 v' (co.length + 1) (co ++ [x])) (hg : (w.alloc o).grownBy w1 (s2).ownBlock) :
    TI w0 (w1.setCell ⟨w0.heap.size + 1, 2, none⟩ v') kind s1 v' s3 v' 2 c1 (co ++ [x]) := by
  have h' := h.later (below_alloc (Below.refl _ w) o)
  have hb1 : w1.rowIs (w0.heap.size + 1) 49 4 (box4 (.int .i64 kind) s1 s2 s3) := rowIs_grown h'.box hg (own_ne h'.box h'.own2 (by decide))
  refine ⟨?_, ?_, ?_, ?_, ?_⟩
  · refine Below.setCell (h'.below.trans (grown_below hg h'.below.size fun g e => ?_)) (by simp) _
    have := h'.own2.lt g e; omega
  · exact (rowIs_grown h'.res hg (own_ne h'.res h'.own2 (by decide))).setOther (by simp) _
  · refine (hb1.set 2 v').congr fun i hi => ?_
    match i, hi with
    | 0, _ => rfl
    | 1, _ => rfl
    | 2, _ => rfl
    | 3, _ => rfl
  · exact own_set (h'.own1.kept hg (own_own h'.own1 h'.own2 (by decide))) hb1 (by decide)
  · have := own_set (u := v') (j := 2) ho hb1 (by decide)
    simpa using this
/-- Behind an append to the texts. -/
theorem TI.app3 {w0 w w1 : World} {kind : Int} {s1 s2 s3 : Value} {c1 co : List Value} {o : Obj} {v' x : Value} (h : TI w0 w kind s1 s2 s3 s3 9 c1 co)
    (ho : w1.ownsRow (w0.heap.size + 1 + 1) 9 1 v' (co.length + 1) (co ++ [x])) (hg : (w.alloc o).grownBy w1 (s3).ownBlock) :
    TI w0 (w1.setCell ⟨w0.heap.size + 1, 3, none⟩ v') kind s1 s2 v' v' 9 c1 (co ++ [x]) := by
  have h' := h.later (below_alloc (Below.refl _ w) o)
  have hb1 : w1.rowIs (w0.heap.size + 1) 49 4 (box4 (.int .i64 kind) s1 s2 s3) := rowIs_grown h'.box hg (own_ne h'.box h'.own2 (by decide))
  refine ⟨?_, ?_, ?_, ?_, ?_⟩
  · refine Below.setCell (h'.below.trans (grown_below hg h'.below.size fun g e => ?_)) (by simp) _
    have := h'.own2.lt g e; omega
  · exact (rowIs_grown h'.res hg (own_ne h'.res h'.own2 (by decide))).setOther (by simp) _
  · refine (hb1.set 3 v').congr fun i hi => ?_
    match i, hi with
    | 0, _ => rfl
    | 1, _ => rfl
    | 2, _ => rfl
    | 3, _ => rfl
  · exact own_set (h'.own1.kept hg (own_own h'.own1 h'.own2 (by decide))) hb1 (by decide)
  · have := own_set (u := v') (j := 3) ho hb1 (by decide)
    simpa using this
end Go.Proofs.YtbdkpkpncmagoaaGreat
set_option linter.unusedSimpArgs false
set_option linter.unusedVariables false
namespace Go.Proofs.YtbdkpkpncmagoaaGreat
open Go.RowKit Go.Sort

def nlC (ys : List Val) (k : Nat) : List Value := (nlOf (ys.take k)).map .bool
def nC (ys : List Val) (k : Nat) : List Value := ((ys.take k).map (·.n)).map (.int .i64)
def sC (ys : List Val) (k : Nat) : List Value := ((ys.take k).map (·.s)).map .string
theorem take_one {ys : List Val} {k : Nat} {y : Val} (h : ys[k]? = some y) : ys.take (k + 1) = ys.take k ++ [y] := by
  rw [List.take_add_one, h]; rfl
theorem nlC_one {ys : List Val} {k : Nat} {y : Val} (h : ys[k]? = some y) : nlC ys (k + 1) = nlC ys k ++ [.bool (y.k == 0)] := by simp [nlC, nlOf, take_one h]
theorem nC_one {ys : List Val} {k : Nat} {y : Val} (h : ys[k]? = some y) : nC ys (k + 1) = nC ys k ++ [.int .i64 y.n] := by simp [nC, take_one h]
theorem sC_one {ys : List Val} {k : Nat} {y : Val} (h : ys[k]? = some y) : sC ys (k + 1) = sC ys k ++ [.string y.s] := by simp [sC, take_one h]
theorem nlC_len (ys : List Val) (k : Nat) : (nlC ys k).length ≤ ys.length := by simp [nlC, nlOf]; omega
theorem nC_len (ys : List Val) (k : Nat) : (nC ys k).length ≤ ys.length := by simp [nC]; omega
theorem sC_len (ys : List Val) (k : Nat) : (sC ys k).length ≤ ys.length := by simp [sC]; omega
theorem own_shape {w : World} {base e size : Nat} {v : Value} {m : Nat} {xs : List Value} (h : w.ownsRow base e size v m xs) : ∃ a c, v = .slice a m c := by
  rcases h.2 with ⟨rfl, rfl⟩ | ⟨g, cap, cur, rfl, _⟩
  · exact ⟨none, 0, rfl⟩
  · exact ⟨_, _, rfl⟩
theorem TI.boxg1 {w0 w w1 : World} {kind : Int} {s1 s2 s3 so : Value} {t : Nat} {c1 co : List Value} {o : Obj} (h : TI w0 w kind s1 s2 s3 so t c1 co) (hg : (w.alloc o).grownBy w1 s1.ownBlock) : w1.rowIs (w0.heap.size + 1) 49 4 (box4 (.int .i64 kind) s1 s2 s3) :=
  rowIs_grown (h.box.alloc o) hg (own_ne (h.box.alloc o) (h.own1.alloc o) (by decide))
theorem TI.boxg2 {w0 w w1 : World} {kind : Int} {s1 s2 s3 so : Value} {t : Nat} {c1 co : List Value} {o : Obj} (h : TI w0 w kind s1 s2 s3 so t c1 co) (ht : 49 ≠ t) (hg : (w.alloc o).grownBy w1 so.ownBlock) : w1.rowIs (w0.heap.size + 1) 49 4 (box4 (.int .i64 kind) s1 s2 s3) :=
  rowIs_grown (h.box.alloc o) hg (own_ne (h.box.alloc o) (h.own2.alloc o) ht)
theorem TI.start (w : World) (kind : Int) (t : Nat) :
    TI w ((w.alloc (.cells #[.int .i64 0, .slice none 0 0, .slice none 0 0, .slice none 0 0] 49)).alloc (.cells #[.int .i64 kind, .slice none 0 0, .slice none 0 0, .slice none 0 0] 49)) kind noS noS noS noS t [] [] := by
  refine ⟨by repeat (first | exact Below.refl _ _ | refine Below.alloc ?_ (by simp <;> omega) _), (World.rowIs_alloc w _ 49 _ (box4_arr _ _ _ _)).alloc _, ?_, World.ownsRow_nil _ _ _ _, World.ownsRow_nil _ _ _ _⟩
  have h := World.rowIs_alloc (w.alloc (.cells #[.int .i64 0, .slice none 0 0, .slice none 0 0, .slice none 0 0] 49)) _ 49 _ (box4_arr (.int .i64 kind) (.slice none 0 0) (.slice none 0 0) (.slice none 0 0))
  simpa [noS] using h

end Go.Proofs.YtbdkpkpncmagoaaGreat
set_option linter.unusedSimpArgs false
set_option linter.unusedVariables false
namespace Go.Proofs.YtbdkpkpncmagoaaGreat
open Go.RowKit Go.Sort

end Go.Proofs.YtbdkpkpncmagoaaGreat
set_option linter.unusedSimpArgs false
set_option linter.unusedVariables false
namespace Go.Proofs.YtbdkpkpncmagoaaGreat
open Go.RowKit Go.Sort
theorem box4_alloc (w : World) (a b c d : Value) : (w.alloc (.cells #[a, b, c, d] 49)).rowIs w.heap.size 49 4 (box4 a b c d) := World.rowIs_alloc w _ 49 _ (box4_arr _ _ _ _)

def boxV (w : World) (X : Vc) (p : Sl) : World := w.alloc (.cells #[.int .i64 X.k, .slice p.a1 X.nl.length p.c1, .slice p.a2 X.ns.length p.c2, .slice p.a3 X.ss.length p.c3] 49)
theorem boxV_facts {w w' : World} {X : Vc} {p : Sl} (h : Below (boxV w X p).heap.size (boxV w X p) w') :
    (w'.cell? ⟨w.heap.size, 0, none⟩ = some (.int .i64 X.k) ∧ w'.cell? ⟨w.heap.size, 1, none⟩ = some (.slice p.a1 X.nl.length p.c1) ∧ w'.cell? ⟨w.heap.size, 2, none⟩ = some (.slice p.a2 X.ns.length p.c2) ∧ w'.cell? ⟨w.heap.size, 3, none⟩ = some (.slice p.a3 X.ss.length p.c3)) ∧ Below w.heap.size w w' ∧ w.heap.size < w'.heap.size := by
  have hr := rowIs_later (box4_alloc w (.int .i64 X.k) (.slice p.a1 X.nl.length p.c1) (.slice p.a2 X.ns.length p.c2) (.slice p.a3 X.ss.length p.c3)) h
  obtain ⟨r0, r1, r2, r3, _⟩ := box_facts hr
  exact ⟨⟨r0, r1, r2, r3⟩, below_one h, hr.lt⟩

theorem goodN_of {X : Vc} (k1 : (X.k == 1) = true) (z : X.ss.length = 0) (e : X.ns.length = X.nl.length) : goodB X = !(X.nl.zip X.ns).any badN := by simp [goodB, k1, z, znN, e]
theorem goodN_no1 {X : Vc} (k1 : (X.k == 1) = true) (e : X.ns.length ≠ X.nl.length) : goodB X = false := by
  simp only [goodB, k1, if_true, znN]
  rw [beq_false_of_ne (fun h => e h.symm)]; simp
theorem goodN_no2 {X : Vc} (k1 : (X.k == 1) = true) (z : X.ss.length ≠ 0) : goodB X = false := by
  simp only [goodB, k1, if_true]
  rw [beq_false_of_ne z]; rfl

def badT (p : Bool × ByteArray) : Bool := badS p || largeB p.2
theorem badT_any {nl : List Bool} {ss : List ByteArray} (e : nl.length = ss.length) : (nl.zip ss).any badT = ((nl.zip ss).any badS || ss.any largeB) := by
  have h : ss.any largeB = (nl.zip ss).any (fun p => largeB p.2) := by
    have : (nl.zip ss).map Prod.snd = ss := List.map_snd_zip (by omega)
    conv => lhs; rw [← this, List.any_map]
    rfl
  rw [h]
  induction nl.zip ss with
  | nil => rfl
  | cons p l ih => simp only [List.any_cons, ih, badT]; cases badS p <;> cases largeB p.2 <;> simp
theorem goodT_of {X : Vc} (k1 : (X.k == 1) = false) (k2 : (X.k == 2) = true) (z : X.ns.length = 0) (e : X.ss.length = X.nl.length) : goodB X = !(X.nl.zip X.ss).any badT := by
  rw [badT_any e.symm]
  simp [goodB, k1, k2, z, znS, e]
theorem goodT_no1 {X : Vc} (k1 : (X.k == 1) = false) (k2 : (X.k == 2) = true) (e : X.ss.length ≠ X.nl.length) : goodB X = false := by
  simp only [goodB, k1, k2, if_true, znS]
  rw [beq_false_of_ne (fun h => e h.symm)]; simp
theorem goodT_no2 {X : Vc} (k1 : (X.k == 1) = false) (k2 : (X.k == 2) = true) (z : X.ns.length ≠ 0) : goodB X = false := by
  simp only [goodB, k1, k2, if_true]
  rw [beq_false_of_ne z]; simp

end Go.Proofs.YtbdkpkpncmagoaaGreat

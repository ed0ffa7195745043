import Derived.Test.YtmjeiepljlepbacGreatVecC
set_option linter.unusedSimpArgs false
set_option maxRecDepth 100000
set_option linter.unusedVariables false
namespace Go.Proofs.YtmjeiepljlepbacGreat.Vv
open Go.RowKit Go.Sort

theorem rowIs_grown {w w' : World} {g t n : Nat} {F : Nat → Value} {row : Option Nat} (h : w.rowIs g t n F) (hg : w.grownBy w' row) (hne : some g ≠ row) : w'.rowIs g t n F := h.of_block (hg.block _ h.lt hne)
theorem own_block {w : World} {base e size : Nat} {v : Value} {m : Nat} {xs : List Value} (h : w.ownsRow base e size v m xs) {g : Nat} (hg : v.ownBlock = some g) : ∃ cur, w.heap[g]? = some (.cells cur e (0, 0)) := by
  rcases h.2 with ⟨rfl, _⟩ | ⟨g', cap, cur, rfl, _, hh, _⟩
  · simp [Value.ownBlock] at hg
  · simp [Value.ownBlock] at hg; subst hg; exact ⟨cur, hh⟩
theorem own_ne {w : World} {g t n : Nat} {F : Nat → Value} {base e size : Nat} {v : Value} {m : Nat} {xs : List Value} (h : w.rowIs g t n F) (ho : w.ownsRow base e size v m xs) (hte : t ≠ e) : some g ≠ v.ownBlock := by
  intro hg
  obtain ⟨cur, hc⟩ := own_block ho hg.symm
  obtain ⟨c, hb, _⟩ := h
  rw [hc] at hb
  simp at hb
  exact hte hb.2.symm
theorem own_own {w : World} {base e size base' e' size' : Nat} {v v' : Value} {m m' : Nat} {xs xs' : List Value} (h : w.ownsRow base e size v m xs) (h' : w.ownsRow base' e' size' v' m' xs') (hne : e ≠ e') : v.ownBlock = none ∨ v.ownBlock ≠ v'.ownBlock := by
  cases hv : v.ownBlock with
  | none => exact .inl rfl
  | some g =>
    right
    intro hg
    obtain ⟨c, hc⟩ := own_block h hv
    obtain ⟨c', hc'⟩ := own_block h' hg.symm
    rw [hc] at hc'
    simp at hc'
    exact hne hc'.2
theorem grown_set (w : World) (g j : Nat) (u : Value) : w.grownBy (w.setCell ⟨g, j, none⟩ u) (some g) := by
  have := (Below.refl g w).setCell (p := ⟨g, j, none⟩) (Nat.le_refl _) u
  exact ⟨this.os, this.tape, this.output, this.size, fun k _ hne => Below.heap_setCell w _ u k (fun e => hne (by rw [e]))⟩
theorem own_set {w : World} {g t n j : Nat} {F : Nat → Value} {u : Value} {base e size : Nat} {v : Value} {m : Nat} {xs : List Value} (ho : w.ownsRow base e size v m xs) (h : w.rowIs g t n F) (hte : t ≠ e) : (w.setCell ⟨g, j, none⟩ u).ownsRow base e size v m xs :=
  ho.kept (grown_set w g j u) (by have := own_ne h ho hte; cases hv : v.ownBlock with | none => exact .inl rfl | some k => exact .inr (by rw [hv] at this; exact fun e => this e.symm))
theorem own_later {w w1 : World} {base e size : Nat} {v : Value} {m : Nat} {xs : List Value} (h : w.ownsRow base e size v m xs) (hb : Below w.heap.size w w1) : w1.ownsRow base e size v m xs :=
  h.kept (row := none) ⟨hb.os, hb.tape, hb.output, hb.size, fun k hk _ => hb.block k hk⟩ (by cases v.ownBlock with | none => exact .inl rfl | some g => exact .inr (by simp))
theorem grown_below {w w' : World} {row : Option Nat} (hg : w.grownBy w' row) {B : Nat} (hB : B ≤ w.heap.size) (hr : ∀ g, row = some g → B ≤ g) : Below B w w' :=
  ⟨hg.os, hg.tape, hg.output, hg.size, fun k hk => hg.block k (by omega) (fun e => by have := hr k e.symm; omega)⟩
theorem lis_of_own {w : World} {base e : Nat} {v : Value} {m : Nat} {xs : List Value} (h : w.ownsRow base e 1 v m xs) : ∃ a c, v = .slice a m c ∧ LisAt w a xs ∧ ∀ ad, a = some ad → base ≤ ad.block := by
  have hcell := @World.ownsRow.cells w base e 1 v m xs h
  have hl := h.1
  rcases h.2 with ⟨rfl, h0⟩ | ⟨g, cap, cur, rfl, hb, _⟩
  · subst h0
    have : xs = [] := List.eq_nil_of_length_eq_zero (by omega)
    exact ⟨none, 0, rfl, .inl this, by simp⟩
  · refine ⟨some ⟨g, 0, none⟩, cap, rfl, .inr ⟨g, 0, rfl, fun i x hx => ?_⟩, by intro ad e; cases e; exact hb⟩
    have := hcell (g := g) rfl i x hx
    rw [Addr.add_lit, Nat.zero_add] at this
    rw [Nat.zero_add]; exact this

def box3 (y : Val) : Nat → Value
  | 0 => .int .i64 y.k
  | 1 => .int .i64 y.n
  | _ => .string y.s
theorem box3_arr (y : Val) : ∀ i, i < #[Value.int .i64 y.k, .int .i64 y.n, .string y.s].size → #[Value.int .i64 y.k, .int .i64 y.n, .string y.s][i]? = some (box3 y i) := by
  intro i hi
  match i, hi with
  | 0, _ => rfl
  | 1, _ => rfl
  | 2, _ => rfl
theorem box3_alloc (w : World) (y : Val) : (w.alloc (.cells #[.int .i64 y.k, .int .i64 y.n, .string y.s] 38)).rowIs w.heap.size 38 3 (box3 y) := World.rowIs_alloc w _ 38 _ (box3_arr y)
theorem box3_facts {w : World} {g : Nat} {y : Val} (h : w.rowIs g 38 3 (box3 y)) :
    w.cell? ⟨g, 0, none⟩ = some (.int .i64 y.k) ∧ w.cell? ⟨g, 1, none⟩ = some (.int .i64 y.n) ∧ w.cell? ⟨g, 2, none⟩ = some (.string y.s) ∧
    w.frozen? ⟨g, 0, none⟩ = false ∧ w.frozen? ⟨g, 1, none⟩ = false ∧ w.frozen? ⟨g, 2, none⟩ = false :=
  ⟨h.cell (by omega), h.cell (by omega), h.cell (by omega), h.frozen _, h.frozen _, h.frozen _⟩
theorem box3_set {w : World} {g : Nat} {x y : Val} (h : w.rowIs g 38 3 (box3 x)) : (((w.setCell ⟨g, 0, none⟩ (.int .i64 y.k)).setCell ⟨g, 1, none⟩ (.int .i64 y.n)).setCell ⟨g, 2, none⟩ (.string y.s)).rowIs g 38 3 (box3 y) := by
  refine (((h.set 0 _).set 1 _).set 2 _).congr fun i hi => ?_
  match i, hi with
  | 0, _ => rfl
  | 1, _ => rfl
  | 2, _ => rfl

/-- The world of tallyref.From: its result's box, its column's box, the column's own lists (of the type t the second one). -/
structure TI (w0 w : World) (kind : Int) (s1 s2 s3 so : Value) (t : Nat) (c1 co : List Value) : Prop where
  below : Below w0.heap.size w0 w
  res : w.rowIs w0.heap.size 29 4 (box4 (.int .i64 0) noS noS noS)
  box : w.rowIs (w0.heap.size + 1) 29 4 (box4 (.int .i64 kind) s1 s2 s3)
  own1 : w.ownsRow (w0.heap.size + 1 + 1) 4 1 s1 c1.length c1
  own2 : w.ownsRow (w0.heap.size + 1 + 1) t 1 so co.length co
theorem TI.later {w0 w w' : World} {kind : Int} {s1 s2 s3 so : Value} {t : Nat} {c1 co : List Value} (h : TI w0 w kind s1 s2 s3 so t c1 co) (hb : Below w.heap.size w w') : TI w0 w' kind s1 s2 s3 so t c1 co :=
  ⟨below_step h.below hb, rowIs_later h.res hb, rowIs_later h.box hb, own_later h.own1 hb, own_later h.own2 hb⟩
theorem TI.set3 {w0 w : World} {kind : Int} {s1 s2 s3 so : Value} {t : Nat} {c1 co : List Value} {vb : Nat} {x : Val} (h : TI w0 w kind s1 s2 s3 so t c1 co) (hv : w.rowIs vb 38 3 (box3 x)) (ht : 38 ≠ t) (hl : w0.heap.size + 1 + 1 ≤ vb) (y : Val) :
    TI w0 (((w.setCell ⟨vb, 0, none⟩ (.int .i64 y.k)).setCell ⟨vb, 1, none⟩ (.int .i64 y.n)).setCell ⟨vb, 2, none⟩ (.string y.s)) kind s1 s2 s3 so t c1 co := by
  refine ⟨((h.below.setCell (by simp <;> omega) _).setCell (by simp <;> omega) _).setCell (by simp <;> omega) _, ?_, ?_, ?_, ?_⟩
  · exact ((h.res.setOther (by simp <;> omega) _).setOther (by simp <;> omega) _).setOther (by simp <;> omega) _
  · exact ((h.box.setOther (by simp <;> omega) _).setOther (by simp <;> omega) _).setOther (by simp <;> omega) _
  · exact own_set (own_set (own_set h.own1 hv (by decide)) (hv.set _ _) (by decide)) ((hv.set _ _).set _ _) (by decide)
  · exact own_set (own_set (own_set h.own2 hv ht) (hv.set _ _) ht) ((hv.set _ _).set _ _) ht
/-- Behind an append to the first list. -/
theorem TI.app1 {w0 w w1 : World} {kind : Int} {s1 s2 s3 so : Value} {t : Nat} {c1 co : List Value} {o : Obj} {v' x : Value} {vb : Nat} {y : Val} (h : TI w0 w kind s1 s2 s3 so t c1 co) (hv : w.rowIs vb 38 3 (box3 y)) (ht : t ≠ 4) (ht' : 29 ≠ t)
    (ho : w1.ownsRow (w0.heap.size + 1 + 1) 4 1 v' (c1.length + 1) (c1 ++ [x])) (hg : (w.alloc o).grownBy w1 s1.ownBlock) :
    TI w0 (w1.setCell ⟨w0.heap.size + 1, 1, none⟩ v') kind v' s2 s3 so t (c1 ++ [x]) co ∧ (w1.setCell ⟨w0.heap.size + 1, 1, none⟩ v').rowIs vb 38 3 (box3 y) ∧ (vb ≠ w0.heap.size + 1) := by
  have h' := h.later (below_alloc (Below.refl _ w) o)
  have hv' := hv.alloc o
  have hvb : vb ≠ w0.heap.size + 1 := by
    intro e
    obtain ⟨c, hc, _⟩ := hv
    obtain ⟨c', hc', _⟩ := h.box
    rw [e, hc'] at hc
    simp at hc
  have hb1 : w1.rowIs (w0.heap.size + 1) 29 4 (box4 (.int .i64 kind) s1 s2 s3) := rowIs_grown h'.box hg (own_ne h'.box h'.own1 (by decide))
  refine ⟨⟨?_, ?_, ?_, ?_, ?_⟩, ?_, hvb⟩
  · refine Below.setCell (h'.below.trans (grown_below hg h'.below.size fun g e => ?_)) (by simp) _
    have := h'.own1.lt g e; omega
  · exact (rowIs_grown h'.res hg (own_ne h'.res h'.own1 (by decide))).setOther (by simp) _
  · refine (hb1.set 1 v').congr fun i hi => ?_
    match i, hi with
    | 0, _ => rfl
    | 1, _ => rfl
    | 2, _ => rfl
    | 3, _ => rfl
  · have := own_set (u := v') (j := 1) ho hb1 (by decide)
    simpa using this
  · exact own_set (h'.own2.kept hg (own_own h'.own2 h'.own1 ht)) hb1 ht'
  · exact (rowIs_grown hv' hg (own_ne hv' h'.own1 (by decide))).setOther hvb _
/-- Behind an append to the numbers. -/
theorem TI.app2 {w0 w w1 : World} {kind : Int} {s1 s2 s3 : Value} {c1 co : List Value} {o : Obj} {v' x : Value} (h : TI w0 w kind s1 s2 s3 s2 2 c1 co)
    (ho : w1.ownsRow (w0.heap.size + 1 + 1) 2 1 v' (co.length + 1) (co ++ [x])) (hg : (w.alloc o).grownBy w1 (s2).ownBlock) :
    TI w0 (w1.setCell ⟨w0.heap.size + 1, 2, none⟩ v') kind s1 v' s3 v' 2 c1 (co ++ [x]) := by
  have h' := h.later (below_alloc (Below.refl _ w) o)
  have hb1 : w1.rowIs (w0.heap.size + 1) 29 4 (box4 (.int .i64 kind) s1 s2 s3) := rowIs_grown h'.box hg (own_ne h'.box h'.own2 (by decide))
  refine ⟨?_, ?_, ?_, ?_, ?_⟩
  · refine Below.setCell (h'.below.trans (grown_below hg h'.below.size fun g e => ?_)) (by simp) _
    have := h'.own2.lt g e; omega
  · exact (rowIs_grown h'.res hg (own_ne h'.res h'.own2 (by decide))).setOther (by simp) _
  · refine (hb1.set 2 v').congr fun i hi => ?_
    match i, hi with
    | 0, _ => rfl
    | 1, _ => rfl
    | 2, _ => rfl
    | 3, _ => rfl
  · exact own_set (h'.own1.kept hg (own_own h'.own1 h'.own2 (by decide))) hb1 (by decide)
  · have := own_set (u := v') (j := 2) ho hb1 (by decide)
    simpa using this
/-- Behind an append to the texts. -/
theorem TI.app3 {w0 w w1 : World} {kind : Int} {s1 s2 s3 : Value} {c1 co : List Value} {o : Obj} {v' x : Value} (h : TI w0 w kind s1 s2 s3 s3 9 c1 co)
    (ho : w1.ownsRow (w0.heap.size + 1 + 1) 9 1 v' (co.length + 1) (co ++ [x])) (hg : (w.alloc o).grownBy w1 (s3).ownBlock) :
    TI w0 (w1.setCell ⟨w0.heap.size + 1, 3, none⟩ v') kind s1 s2 v' v' 9 c1 (co ++ [x]) := by
  have h' := h.later (below_alloc (Below.refl _ w) o)
  have hb1 : w1.rowIs (w0.heap.size + 1) 29 4 (box4 (.int .i64 kind) s1 s2 s3) := rowIs_grown h'.box hg (own_ne h'.box h'.own2 (by decide))
  refine ⟨?_, ?_, ?_, ?_, ?_⟩
  · refine Below.setCell (h'.below.trans (grown_below hg h'.below.size fun g e => ?_)) (by simp) _
    have := h'.own2.lt g e; omega
  · exact (rowIs_grown h'.res hg (own_ne h'.res h'.own2 (by decide))).setOther (by simp) _
  · refine (hb1.set 3 v').congr fun i hi => ?_
    match i, hi with
    | 0, _ => rfl
    | 1, _ => rfl
    | 2, _ => rfl
    | 3, _ => rfl
  · exact own_set (h'.own1.kept hg (own_own h'.own1 h'.own2 (by decide))) hb1 (by decide)
  · have := own_set (u := v') (j := 3) ho hb1 (by decide)
    simpa using this
end Go.Proofs.YtmjeiepljlepbacGreat.Vv
set_option linter.unusedSimpArgs false
set_option maxRecDepth 100000
set_option linter.unusedVariables false
namespace Go.Proofs.YtmjeiepljlepbacGreat.Vv
open Go.RowKit Go.Sort

def nlC (ys : List Val) (k : Nat) : List Value := (nlOf (ys.take k)).map .bool
def nC (ys : List Val) (k : Nat) : List Value := ((ys.take k).map (·.n)).map (.int .i64)
def sC (ys : List Val) (k : Nat) : List Value := ((ys.take k).map (·.s)).map .string
theorem take_one {ys : List Val} {k : Nat} {y : Val} (h : ys[k]? = some y) : ys.take (k + 1) = ys.take k ++ [y] := by
  rw [List.take_add_one, h]; rfl
theorem nlC_one {ys : List Val} {k : Nat} {y : Val} (h : ys[k]? = some y) : nlC ys (k + 1) = nlC ys k ++ [.bool (y.k == 0)] := by simp [nlC, nlOf, take_one h]
theorem nC_one {ys : List Val} {k : Nat} {y : Val} (h : ys[k]? = some y) : nC ys (k + 1) = nC ys k ++ [.int .i64 y.n] := by simp [nC, take_one h]
theorem sC_one {ys : List Val} {k : Nat} {y : Val} (h : ys[k]? = some y) : sC ys (k + 1) = sC ys k ++ [.string y.s] := by simp [sC, take_one h]
theorem nlC_len (ys : List Val) (k : Nat) : (nlC ys k).length ≤ ys.length := by simp [nlC, nlOf]; omega
theorem nC_len (ys : List Val) (k : Nat) : (nC ys k).length ≤ ys.length := by simp [nC]; omega
theorem sC_len (ys : List Val) (k : Nat) : (sC ys k).length ≤ ys.length := by simp [sC]; omega
theorem own_shape {w : World} {base e size : Nat} {v : Value} {m : Nat} {xs : List Value} (h : w.ownsRow base e size v m xs) : ∃ a c, v = .slice a m c := by
  rcases h.2 with ⟨rfl, rfl⟩ | ⟨g, cap, cur, rfl, _⟩
  · exact ⟨none, 0, rfl⟩
  · exact ⟨_, _, rfl⟩
theorem TI.boxg1 {w0 w w1 : World} {kind : Int} {s1 s2 s3 so : Value} {t : Nat} {c1 co : List Value} {o : Obj} (h : TI w0 w kind s1 s2 s3 so t c1 co) (hg : (w.alloc o).grownBy w1 s1.ownBlock) : w1.rowIs (w0.heap.size + 1) 29 4 (box4 (.int .i64 kind) s1 s2 s3) :=
  rowIs_grown (h.box.alloc o) hg (own_ne (h.box.alloc o) (h.own1.alloc o) (by decide))
theorem TI.boxg2 {w0 w w1 : World} {kind : Int} {s1 s2 s3 so : Value} {t : Nat} {c1 co : List Value} {o : Obj} (h : TI w0 w kind s1 s2 s3 so t c1 co) (ht : 29 ≠ t) (hg : (w.alloc o).grownBy w1 so.ownBlock) : w1.rowIs (w0.heap.size + 1) 29 4 (box4 (.int .i64 kind) s1 s2 s3) :=
  rowIs_grown (h.box.alloc o) hg (own_ne (h.box.alloc o) (h.own2.alloc o) ht)
theorem TI.start (w : World) (kind : Int) (t : Nat) :
    TI w ((w.alloc (.cells #[.int .i64 0, .slice none 0 0, .slice none 0 0, .slice none 0 0] 29)).alloc (.cells #[.int .i64 kind, .slice none 0 0, .slice none 0 0, .slice none 0 0] 29)) kind noS noS noS noS t [] [] := by
  refine ⟨by repeat (first | exact Below.refl _ _ | refine Below.alloc ?_ (by simp <;> omega) _), (World.rowIs_alloc w _ 29 _ (box4_arr _ _ _ _)).alloc _, ?_, World.ownsRow_nil _ _ _ _, World.ownsRow_nil _ _ _ _⟩
  have h := World.rowIs_alloc (w.alloc (.cells #[.int .i64 0, .slice none 0 0, .slice none 0 0, .slice none 0 0] 29)) _ 29 _ (box4_arr (.int .i64 kind) (.slice none 0 0) (.slice none 0 0) (.slice none 0 0))
  simpa [noS] using h

set_option maxHeartbeats 4000000 in
theorem rfrom_int (a : Option Addr) (c : Nat) (xs : List Val) (w : World) (hl : xs.length * 32 ≤ 140737488351232) (ha : RowAt w a xs) :
    Calls Tryz.prog 88 #[.int .i64 1, .slice a xs.length c] w fun e w' => ∃ p, e = .returned (.tuple #[vecV (fromV 1 xs).1 p, .int .i64 (fromV 1 xs).2]) ∧ VecAt w' (fromV 1 xs).1 p ∧ Fresh w.heap.size p ∧ Below w.heap.size w w' := by
  obtain ⟨i4, hi4, z40, z41, z42⟩ := info_parts Tryz.info4
  obtain ⟨i2, hi2, z20, z21, z22⟩ := info_parts Tryz.info2
  generalize hX : fromV 1 xs = X
  have HX := hide hX
  clear hX
  have HA := hide ha
  clear ha
  obtain ⟨ys, hys⟩ : ∃ ys, ys = xs.map cleanV := ⟨_, rfl⟩
  have HY := hide hys
  have hyl : ys.length = xs.length := by rw [hys]; simp
  have HYL := hide hyl
  clear hys hyl
  go_enter Tryz.func88, Tryz.ntmps88
  go_wp2_with fail
  go_loopw [21, 7] (fun i l wr => ∃ (k : Nat) (L : Bool) (s1 s2 : Value), k ≤ xs.length ∧ i = .int .i64 k ∧ l = .bool L ∧ Hid (∀ i y, i < k → ys[i]? = some y → badK 1 y = false) ∧ Hid (L = (ys.take k).any (fun y => largeB y.s)) ∧ TI w wr 1 s1 s2 noS s2 2 (nlC ys k) (nC ys k)) (fun i _ _ => xs.length - (intOf i).toNat)
  case atStart => exact ⟨0, false, noS, noS, Nat.zero_le _, rfl, rfl, fun i y h => by omega, rfl, TI.start _ _ _⟩
  case round =>
    obtain ⟨k, L, s1, s2, hkl, rfl, rfl, HN, HL, hI⟩ := hrel
    by_cases h1 : k < xs.length
    · obtain ⟨x, hx'⟩ : ∃ x, xs[k]? = some x := ⟨_, List.getElem?_eq_getElem h1⟩
      rcases (unhide HA).later hI.below with e | ⟨ba, oa, rfl, hca⟩
      · subst e; simp at h1
      obtain ⟨c0, c1, c2⟩ := hca k x hx'
      obtain ⟨y, hy⟩ : ∃ y, y = cleanV x := ⟨_, rfl⟩
      have HC : Hid (∀ w, Calls Tryz.prog 97 #[x.v] w fun e w' => e = .returned y.v ∧ Below w.heap.size w w') := by rw [hy]; exact rclean_any x
      have HS : Hid (ys[k]? = some y) := by show _ = _; rw [unhide HY, hy]; simp [hx']
      have i1 : (k : Int) < (xs.length : Int) := by omega
      have hsz : w.heap.size + 1 < wr.heap.size := hI.box.lt
      have HI := hide hI
      clear hca hx' hI hy
      go_upto_region 8 with fail
      go_cut [] (fun wx => TI w wx 1 s1 s2 noS s2 2 (nlC ys k) (nC ys k) ∧ wx.rowIs wr.heap.size 38 3 (box3 y))
      case first =>
        have hI1 := (unhide HI).later (below_alloc (Below.refl _ wr) (.cells #[.int .i64 x.k, .int .i64 x.n, .string x.s] 38))
        have hv1 := box3_alloc wr x
        go_wp2_with (go_at_call 97; refine (unhide HC _).mono ?_; rintro e w1 ⟨rfl, hb1⟩; rw [Val.open_]; have hv2 := rowIs_later hv1 hb1; obtain ⟨p0, p1, p2, q0, q1, q2⟩ := box3_facts hv2)
        go_meet
        exact ⟨(hI1.later hb1).set3 hv2 (by decide) (by omega) y, box3_set hv2⟩
      case rest =>
        obtain ⟨hIx, hvx⟩ := hcut
        rename World => wx
        have HIx := hide hIx
        have HVx := hide hvx
        obtain ⟨p0, p1, p2, q0, q1, q2⟩ := box3_facts hvx
        obtain ⟨r0, r1, r2, r3, f0, f1, f2, f3⟩ := box_facts hIx.res
        clear hIx hvx HC HI c0 c1 c2
        go_upto_region 9 with fail
        go_cut [35] (fun s35 wy => (∃ bb, s35 = .bool bb ∧ Hid (bb = badK 1 y)) ∧ wy = wx)
        case first =>
          rcases Bool.eq_false_or_eq_true (y.k != 0) with e1 | e1
          · go_wp2
            go_meet
            exact ⟨⟨_, rfl, by show _ = _; simp [badK, e1]⟩, rfl⟩
          · go_wp2
            go_meet
            exact ⟨⟨_, rfl, by show _ = _; simp [badK, e1]⟩, rfl⟩
        case rest =>
          obtain ⟨⟨bb, rfl, HBB⟩, rfl⟩ := hcut
          cases bb
          rotate_left
          · have eb := (unhide HBB).symm
            have HE : Hid (X = (Vc.zero, 4)) := by
              show _ = _
              rw [← unhide HX, fromV, if_neg (by simp [kindB]), ← unhide HY, if_pos (any_hit (unhide HS) eb)]
            clear eb
            go_wp2
            refine bodyPost_ret (v := .tuple #[zeroVec, .int .i64 4]) (by simp [results, Tryz.results88, go_sem, zeroVec, *]) rfl ?_
            exact refused (unhide HE) (below_set4 (unhide HIx).below (Nat.le_refl _) _ _ _ _)
          · have HP := hide (none_step (unhide HN) (unhide HS) (unhide HBB).symm)
            clear HN r0 r1 r2 r3 f0 f1 f2 f3
            go_upto_region 11 with fail
            go_cut [7] (fun s7 wy => s7 = .bool (L || largeB y.s) ∧ wy = wc)
            case first =>
              cases L
              · go_wp2
                go_meet
                exact ⟨rfl, rfl⟩
              · go_wp2
                go_meet
                exact ⟨rfl, rfl⟩
            case rest =>
              obtain ⟨rfl, rfl⟩ := hcut
              have HQ : Hid ((L || largeB y.s) = (ys.take (k + 1)).any (fun y => largeB y.s)) := by
                show _ = _
                rw [take_one (unhide HS), List.any_append, ← unhide HL]; simp
              generalize hL' : (L || largeB y.s) = L' at HQ ⊢
              clear hL' HL
              obtain ⟨b0, b1, b2, b3, g0, g1, g2, g3⟩ := box_facts (unhide HIx).box
              have HL1 := hide (nlC_len ys k)
              have HL2 := hide (nC_len ys k)
              go_upto_region 12 with fail
              have hbz : w.heap.size + 1 < wc.heap.size := (unhide HIx).box.lt
              have HYL2 : Hid (ys.length * 32 ≤ 140737488351232) := by show _ ≤ _; rw [unhide HYL]; exact hl
              go_cut [] (fun wy => ∃ s1', TI w wy 1 s1' s2 noS s2 2 (nlC ys (k + 1)) (nC ys k) ∧ wy.rowIs wr.heap.size 38 3 (box3 y))
              case first =>
                go_wp2_with (at_builtin; refine wpList_append_own_at _ rfl (.tmp 45) (.tmp 49) 25 rfl (w.heap.size + 1 + 1) 4 i4 (.bool false) 1 1 Tryz.underlying25 hi4 z40 z41 z42 rfl (by decide) _ _ _ rfl (World.ownsRow.alloc (unhide HIx).own1 _) ⟨wc.heap.size, 0, none⟩ 1 1 [.bool (y.k == 0)] rfl rfl (cell_one_new _ _ _) (by intro u hu; simp at hu; subst hu; rfl) (by have := unhide HL1; have := unhide HYL2; unfold maxLen; omega) (by have := unhide HL1; have := unhide HYL2; omega) (by simp; omega) ?_; intro v1 w1 hown1 hgrow1 _ hat1; obtain ⟨ad1, cp1, rfl⟩ := own_shape hown1; have hgr : (wc.alloc (.cells #[.bool (y.k == 0)] 4)).grownBy w1 s1.ownBlock := hgrow1; clear hgrow1 hat1; obtain ⟨bb0, bb1, bb2, bb3, gg0, gg1, gg2, gg3⟩ := box_facts ((unhide HIx).boxg1 hgr))
                go_meet
                obtain ⟨h1', h2', _⟩ := (unhide HIx).app1 (unhide HVx) (by decide) (by decide) hown1 hgr
                exact ⟨_, by rw [nlC_one (unhide HS)]; exact h1', h2'⟩
              case rest =>
                obtain ⟨s1', hIy, hvy⟩ := hcut
                rename World => wy
                clear b0 b1 b2 b3 g0 g1 g2 g3 p0 p1 p2 q0 q1 q2 HIx HVx hbz
                have HIy := hide hIy
                obtain ⟨p0, p1, p2, q0, q1, q2⟩ := box3_facts hvy
                obtain ⟨b0, b1, b2, b3, g0, g1, g2, g3⟩ := box_facts hIy.box
                have hbz : w.heap.size + 1 < wy.heap.size := hIy.box.lt
                clear hIy hvy
                go_wp2_with (at_builtin; refine wpList_append_own_at _ rfl (.tmp 55) (.tmp 58) 26 rfl (w.heap.size + 1 + 1) 2 i2 (.int .i64 0) 1 8 Tryz.underlying26 hi2 z20 z21 z22 rfl (by decide) _ _ _ rfl (World.ownsRow.alloc (unhide HIy).own2 _) ⟨wy.heap.size, 0, none⟩ 1 1 [.int .i64 y.n] rfl rfl (cell_one_new _ _ _) (by intro u hu; simp at hu; subst hu; rfl) (by have := unhide HL2; have := unhide HYL2; unfold maxLen; omega) (by have := unhide HL2; have := unhide HYL2; omega) (by simp; omega) ?_; intro v1 w1 hown1 hgrow1 _ hat1; obtain ⟨ad1, cp1, rfl⟩ := own_shape hown1; have hgr : (wy.alloc (.cells #[.int .i64 y.n] 2)).grownBy w1 s2.ownBlock := hgrow1; clear hgrow1 hat1; obtain ⟨bb0, bb1, bb2, bb3, gg0, gg1, gg2, gg3⟩ := box_facts ((unhide HIy).boxg2 (by decide) hgr))
                go_roundw
                case rel => exact ⟨k + 1, L', s1', _, by omega, by go_num, rfl, HP, HQ, by rw [nC_one (unhide HS)]; exact (unhide HIy).app2 hown1 hgr⟩
                case measure => simp [intOf]; omega
    · have e : k = xs.length := by omega
      have i1 : ¬ (k : Int) < (xs.length : Int) := by omega
      have HB : Hid (ys.any (badK 1) = false) := any_none (by rw [unhide HYL, ← e]; exact unhide HN)
      have HLL : Hid (L = ys.any (fun y => largeB y.s)) := by
        have := unhide HL
        rw [e, ← unhide HYL, List.take_length] at this
        exact this
      have HF : Hid (nlC ys k = (nlOf ys).map .bool ∧ nC ys k = (ys.map (·.n)).map (.int .i64)) := by
        unfold nlC nC
        rw [e, ← unhide HYL, List.take_length]
        exact ⟨rfl, rfl⟩
      obtain ⟨a1, c1, rfl, hl1, hf1⟩ := lis_of_own hI.own1
      obtain ⟨a2, c2, rfl, hl2, hf2⟩ := lis_of_own hI.own2
      rw [(unhide HF).1] at hl1
      rw [(unhide HF).2] at hl2
      have e1 : ((nlOf ys).map Value.bool).length = xs.length := by rw [← unhide HYL]; simp [nlOf]
      have e2 : ((ys.map (·.n)).map (Value.int .i64)).length = xs.length := by rw [← unhide HYL]; simp
      rw [(unhide HF).1, (unhide HF).2, e1, e2] at hI
      have HI := hide hI
      have HL1 := hide hl1
      have HL2 := hide hl2
      have HF1 := hide hf1
      have HF2 := hide hf2
      obtain ⟨r0, r1, r2, r3, f0, f1, f2, f3⟩ := box_facts hI.res
      obtain ⟨b0, b1, b2, b3, g0, g1, g2, g3⟩ := box_facts hI.box
      have b3' : wr.cell? ⟨w.heap.size + 1, 3, none⟩ = some (.slice none 0 0) := b3
      clear hI e hl1 hl2 hf1 hf2 b3 e1 e2
      cases L
      · have HE : Hid (X = (laidV 1 ys, 0)) := by
          show _ = _
          rw [← unhide HX, fromV, if_neg (by simp [kindB]), ← unhide HY, if_neg (by rw [unhide HB]; simp), if_neg (by rw [← unhide HLL]; simp)]
        go_wp2
        refine bodyPost_ret (v := .tuple #[.agg #[.int .i64 1, .slice a1 xs.length c1, .slice a2 xs.length c2, .slice none 0 0], .int .i64 0]) (by simp [results, Tryz.results88, go_sem, *]) rfl ?_
        rw [unhide HE]
        refine ⟨⟨a1, c1, a2, c2, none, 0⟩, ?_, ?_, ?_, below_set4 (unhide HI).below (Nat.le_refl _) _ _ _ _⟩
        · rw [vecV_open]; simp [laidV, nlOf, unhide HYL]
        · exact VecAt.setO4 (X := laidV 1 ys) (p := ⟨a1, c1, a2, c2, none, 0⟩) (base := w.heap.size + 1 + 1) ⟨unhide HL1, unhide HL2, .inl rfl⟩ ⟨unhide HF1, unhide HF2, by simp⟩ (by omega) _ _ _ _
        · exact Fresh.less (c := w.heap.size + 1 + 1) ⟨unhide HF1, unhide HF2, by simp⟩ (by omega)
      · have HE : Hid (X = (Vc.zero, 3)) := by
          show _ = _
          rw [← unhide HX, fromV, if_neg (by simp [kindB]), ← unhide HY, if_neg (by rw [unhide HB]; simp), if_pos (unhide HLL).symm]
        go_wp2
        refine bodyPost_ret (v := .tuple #[zeroVec, .int .i64 3]) (by simp [results, Tryz.results88, go_sem, zeroVec, *]) rfl ?_
        exact refused (unhide HE) (below_set4 (unhide HI).below (Nat.le_refl _) _ _ _ _)
end Go.Proofs.YtmjeiepljlepbacGreat.Vv
set_option linter.unusedSimpArgs false
set_option maxRecDepth 100000
set_option linter.unusedVariables false
namespace Go.Proofs.YtmjeiepljlepbacGreat.Vv
open Go.RowKit Go.Sort

set_option maxHeartbeats 4000000 in
theorem rfrom_text (a : Option Addr) (c : Nat) (xs : List Val) (w : World) (hl : xs.length * 32 ≤ 140737488351232) (ha : RowAt w a xs) :
    Calls Tryz.prog 88 #[.int .i64 2, .slice a xs.length c] w fun e w' => ∃ p, e = .returned (.tuple #[vecV (fromV 2 xs).1 p, .int .i64 (fromV 2 xs).2]) ∧ VecAt w' (fromV 2 xs).1 p ∧ Fresh w.heap.size p ∧ Below w.heap.size w w' := by
  obtain ⟨i4, hi4, z40, z41, z42⟩ := info_parts Tryz.info4
  obtain ⟨i2, hi2, z20, z21, z22⟩ := info_parts Tryz.info9
  generalize hX : fromV 2 xs = X
  have HX := hide hX
  clear hX
  have HA := hide ha
  clear ha
  obtain ⟨ys, hys⟩ : ∃ ys, ys = xs.map cleanV := ⟨_, rfl⟩
  have HY := hide hys
  have hyl : ys.length = xs.length := by rw [hys]; simp
  have HYL := hide hyl
  clear hys hyl
  go_enter Tryz.func88, Tryz.ntmps88
  go_wp2_with fail
  go_loopw [21, 7] (fun i l wr => ∃ (k : Nat) (L : Bool) (s1 s2 : Value), k ≤ xs.length ∧ i = .int .i64 k ∧ l = .bool L ∧ Hid (∀ i y, i < k → ys[i]? = some y → badK 2 y = false) ∧ Hid (L = (ys.take k).any (fun y => largeB y.s)) ∧ TI w wr 2 s1 noS s2 s2 9 (nlC ys k) (sC ys k)) (fun i _ _ => xs.length - (intOf i).toNat)
  case atStart => exact ⟨0, false, noS, noS, Nat.zero_le _, rfl, rfl, fun i y h => by omega, rfl, TI.start _ _ _⟩
  case round =>
    obtain ⟨k, L, s1, s2, hkl, rfl, rfl, HN, HL, hI⟩ := hrel
    by_cases h1 : k < xs.length
    · obtain ⟨x, hx'⟩ : ∃ x, xs[k]? = some x := ⟨_, List.getElem?_eq_getElem h1⟩
      rcases (unhide HA).later hI.below with e | ⟨ba, oa, rfl, hca⟩
      · subst e; simp at h1
      obtain ⟨c0, c1, c2⟩ := hca k x hx'
      obtain ⟨y, hy⟩ : ∃ y, y = cleanV x := ⟨_, rfl⟩
      have HC : Hid (∀ w, Calls Tryz.prog 97 #[x.v] w fun e w' => e = .returned y.v ∧ Below w.heap.size w w') := by rw [hy]; exact rclean_any x
      have HS : Hid (ys[k]? = some y) := by show _ = _; rw [unhide HY, hy]; simp [hx']
      have i1 : (k : Int) < (xs.length : Int) := by omega
      have hsz : w.heap.size + 1 < wr.heap.size := hI.box.lt
      have HI := hide hI
      clear hca hx' hI hy
      go_upto_region 8 with fail
      go_cut [] (fun wx => TI w wx 2 s1 noS s2 s2 9 (nlC ys k) (sC ys k) ∧ wx.rowIs wr.heap.size 38 3 (box3 y))
      case first =>
        have hI1 := (unhide HI).later (below_alloc (Below.refl _ wr) (.cells #[.int .i64 x.k, .int .i64 x.n, .string x.s] 38))
        have hv1 := box3_alloc wr x
        go_wp2_with (go_at_call 97; refine (unhide HC _).mono ?_; rintro e w1 ⟨rfl, hb1⟩; rw [Val.open_]; have hv2 := rowIs_later hv1 hb1; obtain ⟨p0, p1, p2, q0, q1, q2⟩ := box3_facts hv2)
        go_meet
        exact ⟨(hI1.later hb1).set3 hv2 (by decide) (by omega) y, box3_set hv2⟩
      case rest =>
        obtain ⟨hIx, hvx⟩ := hcut
        rename World => wx
        have HIx := hide hIx
        have HVx := hide hvx
        obtain ⟨p0, p1, p2, q0, q1, q2⟩ := box3_facts hvx
        obtain ⟨r0, r1, r2, r3, f0, f1, f2, f3⟩ := box_facts hIx.res
        clear hIx hvx HC HI c0 c1 c2
        go_upto_region 9 with fail
        go_cut [35] (fun s35 wy => (∃ bb, s35 = .bool bb ∧ Hid (bb = badK 2 y)) ∧ wy = wx)
        case first =>
          rcases Bool.eq_false_or_eq_true (y.k != 0) with e1 | e1
          · go_wp2
            go_meet
            exact ⟨⟨_, rfl, by show _ = _; simp [badK, e1]⟩, rfl⟩
          · go_wp2
            go_meet
            exact ⟨⟨_, rfl, by show _ = _; simp [badK, e1]⟩, rfl⟩
        case rest =>
          obtain ⟨⟨bb, rfl, HBB⟩, rfl⟩ := hcut
          cases bb
          rotate_left
          · have eb := (unhide HBB).symm
            have HE : Hid (X = (Vc.zero, 4)) := by
              show _ = _
              rw [← unhide HX, fromV, if_neg (by simp [kindB]), ← unhide HY, if_pos (any_hit (unhide HS) eb)]
            clear eb
            go_wp2
            refine bodyPost_ret (v := .tuple #[zeroVec, .int .i64 4]) (by simp [results, Tryz.results88, go_sem, zeroVec, *]) rfl ?_
            exact refused (unhide HE) (below_set4 (unhide HIx).below (Nat.le_refl _) _ _ _ _)
          · have HP := hide (none_step (unhide HN) (unhide HS) (unhide HBB).symm)
            clear HN r0 r1 r2 r3 f0 f1 f2 f3
            go_upto_region 11 with fail
            go_cut [7] (fun s7 wy => s7 = .bool (L || largeB y.s) ∧ wy = wc)
            case first =>
              cases L
              · go_wp2
                go_meet
                exact ⟨rfl, rfl⟩
              · go_wp2
                go_meet
                exact ⟨rfl, rfl⟩
            case rest =>
              obtain ⟨rfl, rfl⟩ := hcut
              have HQ : Hid ((L || largeB y.s) = (ys.take (k + 1)).any (fun y => largeB y.s)) := by
                show _ = _
                rw [take_one (unhide HS), List.any_append, ← unhide HL]; simp
              generalize hL' : (L || largeB y.s) = L' at HQ ⊢
              clear hL' HL
              obtain ⟨b0, b1, b2, b3, g0, g1, g2, g3⟩ := box_facts (unhide HIx).box
              have HL1 := hide (nlC_len ys k)
              have HL2 := hide (sC_len ys k)
              go_upto_region 12 with fail
              have hbz : w.heap.size + 1 < wc.heap.size := (unhide HIx).box.lt
              have HYL2 : Hid (ys.length * 32 ≤ 140737488351232) := by show _ ≤ _; rw [unhide HYL]; exact hl
              go_cut [] (fun wy => ∃ s1', TI w wy 2 s1' noS s2 s2 9 (nlC ys (k + 1)) (sC ys k) ∧ wy.rowIs wr.heap.size 38 3 (box3 y))
              case first =>
                go_wp2_with (at_builtin; refine wpList_append_own_at _ rfl (.tmp 45) (.tmp 49) 25 rfl (w.heap.size + 1 + 1) 4 i4 (.bool false) 1 1 Tryz.underlying25 hi4 z40 z41 z42 rfl (by decide) _ _ _ rfl (World.ownsRow.alloc (unhide HIx).own1 _) ⟨wc.heap.size, 0, none⟩ 1 1 [.bool (y.k == 0)] rfl rfl (cell_one_new _ _ _) (by intro u hu; simp at hu; subst hu; rfl) (by have := unhide HL1; have := unhide HYL2; unfold maxLen; omega) (by have := unhide HL1; have := unhide HYL2; omega) (by simp; omega) ?_; intro v1 w1 hown1 hgrow1 _ hat1; obtain ⟨ad1, cp1, rfl⟩ := own_shape hown1; have hgr : (wc.alloc (.cells #[.bool (y.k == 0)] 4)).grownBy w1 s1.ownBlock := hgrow1; clear hgrow1 hat1; obtain ⟨bb0, bb1, bb2, bb3, gg0, gg1, gg2, gg3⟩ := box_facts ((unhide HIx).boxg1 hgr))
                go_meet
                obtain ⟨h1', h2', _⟩ := (unhide HIx).app1 (unhide HVx) (by decide) (by decide) hown1 hgr
                exact ⟨_, by rw [nlC_one (unhide HS)]; exact h1', h2'⟩
              case rest =>
                obtain ⟨s1', hIy, hvy⟩ := hcut
                rename World => wy
                clear b0 b1 b2 b3 g0 g1 g2 g3 p0 p1 p2 q0 q1 q2 HIx HVx hbz
                have HIy := hide hIy
                obtain ⟨p0, p1, p2, q0, q1, q2⟩ := box3_facts hvy
                obtain ⟨b0, b1, b2, b3, g0, g1, g2, g3⟩ := box_facts hIy.box
                have hbz : w.heap.size + 1 < wy.heap.size := hIy.box.lt
                clear hIy hvy
                go_wp2_with (at_builtin; refine wpList_append_own_at _ rfl (.tmp 62) (.tmp 65) 27 rfl (w.heap.size + 1 + 1) 9 i2 (.string ⟨#[]⟩) 1 16 Tryz.underlying27 hi2 z20 z21 z22 rfl (by decide) _ _ _ rfl (World.ownsRow.alloc (unhide HIy).own2 _) ⟨wy.heap.size, 0, none⟩ 1 1 [.string y.s] rfl rfl (cell_one_new _ _ _) (by intro u hu; simp at hu; subst hu; rfl) (by have := unhide HL2; have := unhide HYL2; unfold maxLen; omega) (by have := unhide HL2; have := unhide HYL2; omega) (by simp; omega) ?_; intro v1 w1 hown1 hgrow1 _ hat1; obtain ⟨ad1, cp1, rfl⟩ := own_shape hown1; have hgr : (wy.alloc (.cells #[.string y.s] 9)).grownBy w1 s2.ownBlock := hgrow1; clear hgrow1 hat1; obtain ⟨bb0, bb1, bb2, bb3, gg0, gg1, gg2, gg3⟩ := box_facts ((unhide HIy).boxg2 (by decide) hgr))
                go_roundw
                case rel => exact ⟨k + 1, L', s1', _, by omega, by go_num, rfl, HP, HQ, by rw [sC_one (unhide HS)]; exact (unhide HIy).app3 hown1 hgr⟩
                case measure => simp [intOf]; omega
    · have e : k = xs.length := by omega
      have i1 : ¬ (k : Int) < (xs.length : Int) := by omega
      have HB : Hid (ys.any (badK 2) = false) := any_none (by rw [unhide HYL, ← e]; exact unhide HN)
      have HLL : Hid (L = ys.any (fun y => largeB y.s)) := by
        have := unhide HL
        rw [e, ← unhide HYL, List.take_length] at this
        exact this
      have HF : Hid (nlC ys k = (nlOf ys).map .bool ∧ sC ys k = (ys.map (·.s)).map .string) := by
        unfold nlC sC
        rw [e, ← unhide HYL, List.take_length]
        exact ⟨rfl, rfl⟩
      obtain ⟨a1, c1, rfl, hl1, hf1⟩ := lis_of_own hI.own1
      obtain ⟨a2, c2, rfl, hl2, hf2⟩ := lis_of_own hI.own2
      rw [(unhide HF).1] at hl1
      rw [(unhide HF).2] at hl2
      have e1 : ((nlOf ys).map Value.bool).length = xs.length := by rw [← unhide HYL]; simp [nlOf]
      have e2 : ((ys.map (·.s)).map Value.string).length = xs.length := by rw [← unhide HYL]; simp
      rw [(unhide HF).1, (unhide HF).2, e1, e2] at hI
      have HI := hide hI
      have HL1 := hide hl1
      have HL2 := hide hl2
      have HF1 := hide hf1
      have HF2 := hide hf2
      obtain ⟨r0, r1, r2, r3, f0, f1, f2, f3⟩ := box_facts hI.res
      obtain ⟨b0, b1, b2, b3, g0, g1, g2, g3⟩ := box_facts hI.box
      have b3' : wr.cell? ⟨w.heap.size + 1, 2, none⟩ = some (.slice none 0 0) := b2
      clear hI e hl1 hl2 hf1 hf2 b2 e1 e2
      cases L
      · have HE : Hid (X = (laidV 2 ys, 0)) := by
          show _ = _
          rw [← unhide HX, fromV, if_neg (by simp [kindB]), ← unhide HY, if_neg (by rw [unhide HB]; simp), if_neg (by rw [← unhide HLL]; simp)]
        go_wp2
        refine bodyPost_ret (v := .tuple #[.agg #[.int .i64 2, .slice a1 xs.length c1, .slice none 0 0, .slice a2 xs.length c2], .int .i64 0]) (by simp [results, Tryz.results88, go_sem, *]) rfl ?_
        rw [unhide HE]
        refine ⟨⟨a1, c1, none, 0, a2, c2⟩, ?_, ?_, ?_, below_set4 (unhide HI).below (Nat.le_refl _) _ _ _ _⟩
        · rw [vecV_open]; simp [laidV, nlOf, unhide HYL]
        · exact VecAt.setO4 (X := laidV 2 ys) (p := ⟨a1, c1, none, 0, a2, c2⟩) (base := w.heap.size + 1 + 1) ⟨unhide HL1, .inl rfl, unhide HL2⟩ ⟨unhide HF1, by simp, unhide HF2⟩ (by omega) _ _ _ _
        · exact Fresh.less (c := w.heap.size + 1 + 1) ⟨unhide HF1, by simp, unhide HF2⟩ (by omega)
      · have HE : Hid (X = (Vc.zero, 3)) := by
          show _ = _
          rw [← unhide HX, fromV, if_neg (by simp [kindB]), ← unhide HY, if_neg (by rw [unhide HB]; simp), if_pos (unhide HLL).symm]
        go_wp2
        refine bodyPost_ret (v := .tuple #[zeroVec, .int .i64 3]) (by simp [results, Tryz.results88, go_sem, zeroVec, *]) rfl ?_
        exact refused (unhide HE) (below_set4 (unhide HI).below (Nat.le_refl _) _ _ _ _)

set_option maxHeartbeats 1000000 in
theorem rfrom_other (a : Option Addr) (c : Nat) (kind : Int) (xs : List Val) (w : World) (h1 : (kind != 1) = true) (h2 : (kind != 2) = true) :
    Calls Tryz.prog 88 #[.int .i64 kind, .slice a xs.length c] w fun e w' => ∃ p, e = .returned (.tuple #[vecV (fromV kind xs).1 p, .int .i64 (fromV kind xs).2]) ∧ VecAt w' (fromV kind xs).1 p ∧ Fresh w.heap.size p ∧ Below w.heap.size w w' := by
  have HE : Hid (fromV kind xs = (Vc.zero, 1)) := by
    show _ = _
    rw [fromV, if_pos (by simp at h1 h2; simp [kindB, h1, h2])]
  generalize fromV kind xs = X at HE ⊢
  go_enter Tryz.func88, Tryz.ntmps88
  go_wp2
  refine bodyPost_ret (v := .tuple #[zeroVec, .int .i64 1]) (by simp [results, Tryz.results88, go_sem, zeroVec, *]) rfl ?_
  exact refused (unhide HE) (by repeat (first | exact Below.refl _ _ | refine Below.alloc ?_ (by simp <;> omega) _ | refine Below.setCell ?_ (by simp <;> omega) _))
theorem rfrom_any (a : Option Addr) (c : Nat) (kind : Int) (xs : List Val) (w : World) (hl : xs.length * 32 ≤ 140737488351232) (ha : RowAt w a xs) :
    Calls Tryz.prog 88 #[.int .i64 kind, .slice a xs.length c] w fun e w' => ∃ p, e = .returned (.tuple #[vecV (fromV kind xs).1 p, .int .i64 (fromV kind xs).2]) ∧ VecAt w' (fromV kind xs).1 p ∧ Fresh w.heap.size p ∧ Below w.heap.size w w' := by
  by_cases h1 : kind = 1
  · subst h1; exact rfrom_int a c xs w hl ha
  · by_cases h2 : kind = 2
    · subst h2; exact rfrom_text a c xs w hl ha
    · exact rfrom_other a c kind xs w (by simpa using h1) (by simpa using h2)
end Go.Proofs.YtmjeiepljlepbacGreat.Vv

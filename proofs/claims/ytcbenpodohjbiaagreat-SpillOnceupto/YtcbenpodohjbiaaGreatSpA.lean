import Derived.Test.YtcbenpodohjbiaaGreatStU
import Derived.Test.YtcbenpodohjbiaaGreatTbH
import Derived.Test.YtcbenpodohjbiaaGreatCkA
set_option linter.unusedSimpArgs false
set_option linter.unusedVariables false
set_option maxRecDepth 100000
namespace Go.Proofs.YtcbenpodohjbiaaGreat
open Go.RowKit Go.Sort

/-- The block holds elements of this type. -/
def Tg (t : Nat) (w : World) (k : Nat) : Prop := ∃ cs f, w.heap[k]? = some (.cells cs t f)
theorem Tg.lt {t : Nat} {w : World} {k : Nat} (h : Tg t w k) : k < w.heap.size := by
  obtain ⟨cs, f, h⟩ := h
  exact (Array.getElem?_eq_some_iff.1 h).1
theorem Tg.ne {t t' : Nat} {w : World} {k k' : Nat} (h : Tg t w k) (h' : Tg t' w k') (hn : t ≠ t') : k ≠ k' := by
  rintro rfl
  obtain ⟨cs, f, h⟩ := h
  obtain ⟨cs', f', h'⟩ := h'
  rw [h] at h'
  injection h' with h'
  injection h' with _ h' _
  exact hn h'
/-- What holds elements of these types is never changed: values, the boxes of keys, keys. -/
def Ct (t : Nat) : Prop := t = 73 ∨ t = 23 ∨ t = 58
instance : DecidablePred Ct := fun t => by unfold Ct; infer_instance
/-- All blocks but F are as they were, and all rows of values. -/
structure Ky (F : Nat → Prop) (w w' : World) : Prop where
  os : w'.os = w.os
  tape : w'.tape = w.tape
  output : w'.output = w.output
  size : w.heap.size ≤ w'.heap.size
  block : ∀ k, k < w.heap.size → ¬ F k → w'.heap[k]? = w.heap[k]?
  rows : ∀ k t, Ct t → Tg t w k → w'.heap[k]? = w.heap[k]?
theorem Ky.refl (F : Nat → Prop) (w : World) : Ky F w w := ⟨rfl, rfl, rfl, Nat.le_refl _, fun _ _ _ => rfl, fun _ _ _ _ => rfl⟩
theorem Tg.ky {F : Nat → Prop} {t : Nat} {w w' : World} {k : Nat} (h : Tg t w k) (ht : Ct t) (hk : Ky F w w') : Tg t w' k := by
  have e := hk.rows k t ht h
  obtain ⟨cs, f, h⟩ := h
  exact ⟨cs, f, e.trans h⟩
/-- What is changed next is what was changed before, or new. -/
def Nw (F G : Nat → Prop) (w : World) : Prop := ∀ k, G k → F k ∨ w.heap.size ≤ k
theorem Nw.refl (F : Nat → Prop) (w : World) : Nw F F w := fun _ h => .inl h
theorem Nw.trans {F G H : Nat → Prop} {w w' : World} (h : Nw F G w) (h2 : Nw G H w') (hs : w.heap.size ≤ w'.heap.size) : Nw F H w := fun k hk => by
  rcases h2 k hk with h3 | h3
  · exact h k h3
  · exact .inr (by omega)
theorem Ky.trans {F G : Nat → Prop} {a b c : World} (h : Ky F a b) (h2 : Ky G b c) (hn : Nw F G a) : Ky F a c :=
  ⟨h2.os.trans h.os, h2.tape.trans h.tape, h2.output.trans h.output, Nat.le_trans h.size h2.size, fun k hk hf => by
    rw [h2.block k (by have := h.size; omega) (fun g => by rcases hn k g with h3 | h3; exact hf h3; omega), h.block k hk hf],
    fun k t ht hk => by rw [h2.rows k t ht (hk.ky ht h), h.rows k t ht hk]⟩
theorem Ky.mono {F G : Nat → Prop} {w w' : World} (h : Ky F w w') (hg : ∀ k, F k → G k) : Ky G w w' := ⟨h.os, h.tape, h.output, h.size, fun k hk hn => h.block k hk fun f => hn (hg k f), h.rows⟩
theorem Ky.of_below {F : Nat → Prop} {w w' : World} (h : Below w.heap.size w w') : Ky F w w' := ⟨h.os, h.tape, h.output, h.size, fun k hk _ => h.block k hk, fun k t _ hk => h.block k hk.lt⟩
theorem Ky.of_grown {F : Nat → Prop} {w w' : World} {r : Option Nat} (h : w.grownBy w' r) (hr : ∀ g, r = some g → F g) (ht : ∀ g t, r = some g → Ct t → ¬ Tg t w g) : Ky F w w' := ⟨h.os, h.tape, h.output, h.size, fun k hk hn => h.block k hk fun e => hn (hr k e.symm), fun k t hc hk => h.block k hk.lt fun e => ht k t e.symm hc hk⟩
theorem Ky.below {F : Nat → Prop} {w w' : World} (h : Ky F w w') {n : Nat} (hn : ∀ k, F k → n ≤ k) (hs : n ≤ w.heap.size) : Below n w w' := ⟨h.os, h.tape, h.output, h.size, fun k hk => h.block k (by omega) (fun f => by have := hn k f; omega)⟩
theorem Ky.cell {F : Nat → Prop} {w w' : World} (h : Ky F w w') {b o : Nat} {v : Value} (hc : w.cell? ⟨b, o, none⟩ = some v) (hn : ¬ F b) : w'.cell? ⟨b, o, none⟩ = some v := by
  rw [World.cell?_of_block (w := w) (a := ⟨b, o, none⟩) (h.block b (World.block_lt_of_cell? _ _ hc) hn)]; exact hc
theorem Ky.frozen {F : Nat → Prop} {w w' : World} (h : Ky F w w') {b o : Nat} (hb : b < w.heap.size) (hn : ¬ F b) : w'.frozen? ⟨b, o, none⟩ = w.frozen? ⟨b, o, none⟩ :=
  World.frozen?_of_block (w := w) (a := ⟨b, o, none⟩) (h.block b hb hn)
theorem Ky.tg {F : Nat → Prop} {t : Nat} {w w' : World} {k : Nat} (h : Tg t w k) (hk : Ky F w w') (hn : ¬ F k) : Tg t w' k := by
  have e := hk.block k h.lt hn
  obtain ⟨cs, f, h⟩ := h
  exact ⟨cs, f, e.trans h⟩
/-- A store into a block of F. -/
theorem Ky.set {F : Nat → Prop} {a w : World} {b t : Nat} (h : Ky F a w) (hF : F b) (ht : Tg t w b) (h73 : ¬ Ct t) (o : Nat) (v : Value) : Ky F a (w.setCell ⟨b, o, none⟩ v) :=
  h.trans (Ky.of_grown (grown_setR w b o v) (fun g e => by injection e with e; subst e; exact hF) (fun g t' e hc k => by injection e with e; subst e; exact ht.ne k (fun e => h73 (e ▸ hc)) rfl)) (Nw.refl _ _)
theorem Tg.set {t : Nat} {w : World} {k : Nat} (h : Tg t w k) (b o : Nat) (v : Value) : Tg t (w.setCell ⟨b, o, none⟩ v) k := by
  obtain ⟨cs, f, h⟩ := h
  by_cases e : k = b
  · subst e
    exact ⟨cs.setIfInBounds o v, f, by simp [World.setCell, Array.getElem?_modify, h]⟩
  · exact ⟨cs, f, by rw [Below.heap_setCell _ _ _ _ e]; exact h⟩
theorem own_tg {w : World} {base e size : Nat} {v : Value} {m : Nat} {xs : List Value} (h : w.ownsRow base e size v m xs) {g : Nat} (hg : v.ownBlock = some g) : Tg e w g := by
  rcases h.2 with ⟨rfl, _⟩ | ⟨g', cap, cur, rfl, _, hh, _⟩
  · cases hg
  · simp [Value.ownBlock] at hg; subst hg; exact ⟨cur, _, hh⟩
theorem own_same {w w' : World} {base e size : Nat} {v : Value} {m : Nat} {xs : List Value} (h : w.ownsRow base e size v m xs) (hs : ∀ g, v.ownBlock = some g → w'.heap[g]? = w.heap[g]?) : w'.ownsRow base e size v m xs := by
  refine ⟨h.1, ?_⟩
  rcases h.2 with hn | ⟨g, cap, cur, rfl, hb, hgg, rest⟩
  · exact .inl hn
  · exact .inr ⟨g, cap, cur, rfl, hb, (hs g rfl).trans hgg, rest⟩
theorem own_ky {F : Nat → Prop} {w w' : World} {base e size : Nat} {v : Value} {m : Nat} {xs : List Value} (h : w.ownsRow base e size v m xs) (hk : Ky F w w') (hn : ∀ g, v.ownBlock = some g → ¬ F g) : w'.ownsRow base e size v m xs :=
  own_same h fun g hg => hk.block g (World.ownsRow.lt h g hg).2 (hn g hg)
/-- A row of values that nothing changes. -/
def RowC (w : World) (a : Option Addr) (r : List Val) : Prop :=
  r = [] ∨ ∃ b off, a = some ⟨b, off, none⟩ ∧ Tg 73 w b ∧ ∀ i x, r[i]? = some x → w.cell? ⟨b, off + i * 3, none⟩ = some (.int .i64 x.k) ∧ w.cell? ⟨b, off + i * 3 + 1, none⟩ = some (.int .i64 x.n) ∧ w.cell? ⟨b, off + i * 3 + 2, none⟩ = some (.string x.s)
theorem RowC.at {w : World} {a : Option Addr} {r : List Val} (h : RowC w a r) : RowAt w a r := by
  rcases h with h | ⟨b, off, ha, _, h⟩
  · exact .inl h
  · exact .inr ⟨b, off, ha, h⟩
theorem RowC.ky {F : Nat → Prop} {w w' : World} {a : Option Addr} {r : List Val} (h : RowC w a r) (hk : Ky F w w') : RowC w' a r := by
  rcases h with h | ⟨b, off, ha, ht, h⟩
  · exact .inl h
  · have e : ∀ o, w'.cell? ⟨b, o, none⟩ = w.cell? ⟨b, o, none⟩ := fun o => World.cell?_of_block (w := w) (a := ⟨b, o, none⟩) (hk.rows b 73 (.inl rfl) ht)
    exact .inr ⟨b, off, ha, ht.ky (.inl rfl) hk, fun i x hx => by rw [e, e, e]; exact h i x hx⟩
theorem RowC.later {w w' : World} {a : Option Addr} {r : List Val} (h : RowC w a r) (hb : Below w.heap.size w w') : RowC w' a r := h.ky (F := fun _ => False) (Ky.of_below hb)
theorem ownV_rowC {w : World} {base : Nat} {v : Value} {zs : List Val} (h : OwnV w base v zs) : ∃ a cap, v = .slice a zs.length cap ∧ RowC w a zs := by
  obtain ⟨a, cap, e, hr⟩ := ownV_row h
  refine ⟨a, cap, e, ?_⟩
  rcases hr with hr | ⟨b, off, ha, hr⟩
  · exact .inl hr
  · exact .inr ⟨b, off, ha, own_tg h (by rw [e, ha]; rfl), hr⟩
/-- A value that is a row that nothing changes. -/
def Rw (w : World) (v : Value) (r : List Val) : Prop := ∃ a c, v = .slice a r.length c ∧ RowC w a r ∧ r.length ≤ 1048576
theorem Rw.ky {F : Nat → Prop} {w w' : World} {v : Value} {r : List Val} (h : Rw w v r) (hk : Ky F w w') : Rw w' v r := by
  obtain ⟨a, c, e, h1, h2⟩ := h
  exact ⟨a, c, e, h1.ky hk, h2⟩
theorem Rw.later {w w' : World} {v : Value} {r : List Val} (h : Rw w v r) (hb : Below w.heap.size w w') : Rw w' v r := h.ky (F := fun _ => False) (Ky.of_below hb)
theorem Rw.one {w : World} {v : Value} {r : List Val} (h : Rw w v r) : v.oneCell' = true := by
  obtain ⟨a, c, rfl, _⟩ := h
  rfl
/-- A list of rows of the call's own. -/
def Lst (w : World) (v : Value) (rs : List (List Val)) : Prop := ∃ us : List Value, us.length = rs.length ∧ w.ownsRow 0 70 1 v rs.length us ∧ ∀ (i : Nat) (u : Value) (r : List Val), us[i]? = some u → rs[i]? = some r → Rw w u r
theorem Lst.ky {F : Nat → Prop} {w w' : World} {v : Value} {rs : List (List Val)} (h : Lst w v rs) (hk : Ky F w w') (hn : ∀ g, v.ownBlock = some g → ¬ F g) : Lst w' v rs := by
  obtain ⟨us, h1, h2, h3⟩ := h
  exact ⟨us, h1, own_ky h2 hk hn, fun i u r hu hr => (h3 i u r hu hr).ky hk⟩
theorem Lst.later {w w' : World} {v : Value} {rs : List (List Val)} (h : Lst w v rs) (hb : Below w.heap.size w w') : Lst w' v rs := h.ky (F := fun _ => False) (Ky.of_below hb) (fun _ _ => id)
theorem Lst.nil (w : World) : Lst w (.slice none 0 0) [] := ⟨[], rfl, World.ownsRow_nil _ _ _ _, fun i u r h => by simp at h⟩
theorem Lst.tg {w : World} {v : Value} {rs : List (List Val)} (h : Lst w v rs) {g : Nat} (hg : v.ownBlock = some g) : Tg 70 w g := by
  obtain ⟨us, _, h2, _⟩ := h
  exact own_tg h2 hg
theorem Lst.form {w : World} {v : Value} {rs : List (List Val)} (h : Lst w v rs) : ∃ a c, v = .slice a rs.length c := by
  obtain ⟨us, _, h2, _⟩ := h
  rcases h2.2 with ⟨rfl, h0⟩ | ⟨g, cap, cur, rfl, _⟩
  · exact ⟨none, 0, by rw [h0]⟩
  · exact ⟨_, _, rfl⟩
/-- The i-th row of the list. -/
theorem Lst.get {w : World} {v : Value} {rs : List (List Val)} {i : Nat} {r : List Val} (h : Lst w v rs) (hr : rs[i]? = some r) : ∃ g c a k, v = .slice (some ⟨g, 0, none⟩) rs.length c ∧ w.cell? ⟨g, i, none⟩ = some (.slice a r.length k) ∧ w.frozen? ⟨g, i, none⟩ = false ∧ RowC w a r ∧ r.length ≤ 1048576 := by
  obtain ⟨us, h1, h2, h3⟩ := h
  have hlt : i < rs.length := (List.getElem?_eq_some_iff.1 hr).1
  have hu : us[i]? = some us[i] := List.getElem?_eq_getElem (by omega)
  obtain ⟨a, k, e, h4, h5⟩ := h3 i _ r hu hr
  rcases h2.2 with ⟨_, h0⟩ | ⟨g, cap, cur, rfl, _⟩
  · omega
  · refine ⟨g, cap, a, k, rfl, ?_, World.ownsRow.frozenAt h2 i, h4, h5⟩
    rw [World.ownsRow.cellAt h2 i (by omega), hu, e]
theorem list_app {α : Type} {us vs : List α} {i : Nat} {x y : α} (h : (us ++ [y])[i]? = some x) : us[i]? = some x ∨ (i = us.length ∧ x = y) := by
  by_cases hi : i < us.length
  · left; rw [List.getElem?_append_left hi] at h; exact h
  · right
    rw [List.getElem?_append_right (by omega)] at h
    have : i - us.length = 0 := by
      rcases Nat.eq_zero_or_pos (i - us.length) with e | e
      · exact e
      · rw [List.getElem?_eq_none (by simp; omega)] at h; cases h
    rw [this] at h
    simp at h
    exact ⟨by omega, h.symm⟩
/-- append(l, row), where the row stands in a list of one that was made for it. -/
theorem wpList_push_lst {ops : Array Oper} {rest : List Oper} {o : Oper} {a : Act} {Q : Exit → Act → World → Prop} (w : World) (hgd : o.guard = none) (s x : Operand) (ho : o.op = .call { callee := .builtin .append, args := #[s, x], argTypes := #[22, 22] })
    (v : Value) (rs : List (List Val)) (r : List Val) (hs : a.eval s = v) (hown : Lst w v rs) (t : Nat) (u : Value) (hx : a.eval x = .slice (some ⟨t, 0, none⟩) 1 1) (hy : w.cell? ⟨t, 0, none⟩ = some u) (hrw : Rw w u r) (hl : rs.length + 1 ≤ 4398046511104)
    (h : ∀ v' w', Lst w' v' (rs ++ [r]) → Grew w w' v v' → Ky (fun k => v.ownBlock = some k) w w' → wpList Tryz.prog ops Q rest (a.put o.dst v') w') : wpList Tryz.prog ops Q (o :: rest) a w := by
  obtain ⟨i4, hi4, z40, z41, z42⟩ := info_parts info52
  obtain ⟨us, h1, h2, h3⟩ := hown
  refine wpList_append_own_at w hgd s x 22 ho 0 70 i4 (.slice none 0 0) 1 24 Tryz.underlying22 hi4 z40 z41 z42 rfl (by decide) v rs.length us hs h2 ⟨t, 0, none⟩ 1 1 [u] hx rfl (fun j y hj => by
    match j, hj with
    | 0, hj => simp at hj; subst hj; simpa [Addr.add] using hy
    | j + 1, hj => simp at hj) (fun y hy => by simp at hy; subst hy; exact hrw.one) (by unfold maxLen; omega) (by omega) (Nat.zero_le _) ?_
  intro v' w' k1 k2 _ k4
  have hky : Ky (fun k => v.ownBlock = some k) w w' := Ky.of_grown k2 (fun g e => e) (fun g t e hc q => (own_tg h2 e).ne q (by rintro rfl; revert hc; decide) rfl)
  refine h v' w' ⟨us ++ [u], by simp [h1], ?_, fun i y q hy hq => ?_⟩ ⟨k2, k4.imp id fun e => ⟨_, e, Nat.le_refl _⟩⟩ hky
  · rw [List.length_append]; exact k1
  · rcases list_app (vs := us) hy with hy | ⟨hi, rfl⟩
    · have hi : i < us.length := (List.getElem?_eq_some_iff.1 hy).1
      rw [List.getElem?_append_left (by omega)] at hq
      exact (h3 i y q hy hq).ky hky
    · rcases list_app (vs := rs) hq with hq | ⟨_, rfl⟩
      · have := (List.getElem?_eq_some_iff.1 hq).1; omega
      · exact hrw.ky hky
end Go.Proofs.YtcbenpodohjbiaaGreat
set_option linter.unusedSimpArgs false
set_option linter.unusedVariables false
set_option maxRecDepth 100000
namespace Go.Proofs.YtcbenpodohjbiaaGreat
open Go.RowKit Go.Sort

/-- What a yard counts. -/
structure Yv where
  held : Int
  most : Int
  puts : Int
  calls : Int
  rf : Int
  cd : Int
  rd : Bool
  out : List (List Val)
  runs : List (List (List Val))
  there : List Bool
def Yv.hit (Y : Yv) : Bool := IntKind.i64.wrap (Y.calls + 1) == Y.rf
def Yv.tick (Y : Yv) : Yv := { Y with calls := IntKind.i64.wrap (Y.calls + 1), rd := Y.hit }
def Yv.hold (Y : Yv) (k : Int) : Yv := { Y with held := Y.held + k, most := if Y.held + k > Y.most then Y.held + k else Y.most }

/-- The cells of a yard. -/
structure Bx (w : World) (b : Nat) (Y : Yv) (vO vR vT : Value) : Prop where
  tg : Tg 44 w b
  fr : ∀ i, w.frozen? ⟨b, i, none⟩ = false
  c0 : w.cell? ⟨b, 0, none⟩ = some (.int .i64 Y.held)
  c1 : w.cell? ⟨b, 1, none⟩ = some (.int .i64 Y.most)
  c2 : w.cell? ⟨b, 2, none⟩ = some (.int .i64 Y.puts)
  c3 : w.cell? ⟨b, 3, none⟩ = some vO
  c4 : w.cell? ⟨b, 4, none⟩ = some (.int .i64 Y.calls)
  c5 : w.cell? ⟨b, 5, none⟩ = some (.bool false)
  c6 : w.cell? ⟨b, 6, none⟩ = some (.int .i64 Y.rf)
  c7 : w.cell? ⟨b, 7, none⟩ = some (.int .i64 Y.cd)
  c8 : w.cell? ⟨b, 8, none⟩ = some (.bool Y.rd)
  c9 : w.cell? ⟨b, 9, none⟩ = some vR
  c10 : w.cell? ⟨b, 10, none⟩ = some vT
/-- A run that is read. -/
def RunV (w : World) (u : Value) (rs : List (List Val)) : Prop := ∃ a c, u = .slice a rs.length c ∧ rs.length ≤ c ∧ (rs = [] ∨ ∃ g off, a = some ⟨g, off, none⟩ ∧ Tg 70 w g ∧ ∀ (i : Nat) (r : List Val), rs[i]? = some r → ∃ ra rc, w.cell? ⟨g, off + i, none⟩ = some (.slice ra r.length rc) ∧ RowC w ra r ∧ r.length ≤ 1048576)
theorem RunV.ky {F : Nat → Prop} {w w' : World} {u : Value} {rs : List (List Val)} (h : RunV w u rs) (hk : Ky F w w') (hn : ∀ g, u.ownBlock = some g → ¬ F g) : RunV w' u rs := by
  obtain ⟨a, c, rfl, hc, h⟩ := h
  refine ⟨a, c, rfl, hc, h.imp id ?_⟩
  rintro ⟨g, off, rfl, ht, h⟩
  have hg := hn g rfl
  exact ⟨g, off, rfl, hk.tg ht hg, fun i r hr => by
    obtain ⟨ra, rc, h1, h2, h3⟩ := h i r hr
    exact ⟨ra, rc, hk.cell h1 hg, h2.ky hk, h3⟩⟩
theorem Lst.formC {w : World} {v : Value} {rs : List (List Val)} (h : Lst w v rs) : ∃ a c, v = .slice a rs.length c ∧ rs.length ≤ c := by
  obtain ⟨us, _, h2, _⟩ := h
  rcases h2.2 with ⟨rfl, h0⟩ | ⟨g, cap, cur, rfl, _, _, hc, _⟩
  · exact ⟨none, 0, by rw [h0], by omega⟩
  · exact ⟨_, _, rfl, hc⟩
theorem Lst.run {w : World} {u : Value} {rs : List (List Val)} (h : Lst w u rs) : RunV w u rs := by
  obtain ⟨a, c, rfl, hc⟩ := h.formC
  refine ⟨a, c, rfl, hc, ?_⟩
  by_cases e : rs = []
  · exact .inl e
  · right
    obtain ⟨r0, hr0⟩ : ∃ r0, rs[0]? = some r0 := by
      cases rs with
      | nil => exact absurd rfl e
      | cons r0 rs => exact ⟨r0, rfl⟩
    obtain ⟨g, c', a', k', e', _⟩ := h.get hr0
    injection e' with e1 _ e3
    subst e1 e3
    refine ⟨g, 0, rfl, h.tg rfl, fun i r hr => ?_⟩
    obtain ⟨g', c', a', k', e', h1, _, h2, h3⟩ := h.get hr
    injection e' with e1 _ e3
    injection e1 with e1
    injection e1 with e1
    subst e1
    exact ⟨a', k', by rw [Nat.zero_add]; exact h1, h2, h3⟩
/-- The lists of a yard; F: the blocks in which they lie. -/
structure Ys (w : World) (Y : Yv) (op : Option Nat) (F : Nat → Prop) (vO vR vT : Value) (us : List Value) : Prop where
  o : Lst w vO Y.out
  fo : ∀ g, vO.ownBlock = some g → F g
  r : w.ownsRow 0 22 1 vR us.length us
  fr : ∀ g, vR.ownBlock = some g → F g
  l : us.length = Y.runs.length
  t : w.ownsRow 0 4 1 vT Y.there.length (Y.there.map Value.bool)
  ft : ∀ g, vT.ownBlock = some g → F g
  lt : Y.there.length = Y.runs.length
  e : ∀ (i : Nat) (u : Value) (rs : List (List Val)), us[i]? = some u → Y.runs[i]? = some rs → (if op = some i then Lst w u rs else RunV w u rs) ∧ ∀ g, u.ownBlock = some g → F g ∧ vO.ownBlock ≠ some g ∧ Tg 70 w g
  d : ∀ (i j : Nat) (u u' : Value) (g : Nat), i ≠ j → us[i]? = some u → us[j]? = some u' → u.ownBlock = some g → u'.ownBlock ≠ some g
theorem Ys.ky {G F : Nat → Prop} {w w' : World} {Y : Yv} {op : Option Nat} {vO vR vT : Value} {us : List Value} (h : Ys w Y op F vO vR vT us) (hk : Ky G w w') (hn : ∀ k, G k → ∀ t, Tg t w k → t ≠ 70 ∧ t ≠ 22 ∧ t ≠ 4 ∨ ¬ F k) : Ys w' Y op F vO vR vT us := by
  have n70 : ∀ g, Tg 70 w g → F g → ¬ G g := fun g ht hf hg => by
    rcases hn g hg 70 ht with h | h
    · exact h.1 rfl
    · exact h hf
  have n22 : ∀ g, Tg 22 w g → F g → ¬ G g := fun g ht hf hg => by
    rcases hn g hg 22 ht with h | h
    · exact h.2.1 rfl
    · exact h hf
  have n4 : ∀ g, Tg 4 w g → F g → ¬ G g := fun g ht hf hg => by
    rcases hn g hg 4 ht with h | h
    · exact h.2.2 rfl
    · exact h hf
  refine ⟨h.o.ky hk (fun g hg => n70 g (h.o.tg hg) (h.fo g hg)), h.fo, own_ky h.r hk (fun g hg => n22 g (own_tg h.r hg) (h.fr g hg)), h.fr, h.l, own_ky h.t hk (fun g hg => n4 g (own_tg h.t hg) (h.ft g hg)), h.ft, h.lt, fun i u rs hu hr => ?_, h.d⟩
  obtain ⟨h1, h2⟩ := h.e i u rs hu hr
  have hng : ∀ g, u.ownBlock = some g → ¬ G g := fun g hg => n70 g (h2 g hg).2.2 (h2 g hg).1
  refine ⟨?_, fun g hg => ⟨(h2 g hg).1, (h2 g hg).2.1, hk.tg (h2 g hg).2.2 (hng g hg)⟩⟩
  split
  · rename_i e
    rw [if_pos e] at h1
    exact h1.ky hk hng
  · rename_i e
    rw [if_neg e] at h1
    exact h1.ky hk hng
/-- A yard in memory: Y says what it counts, op which run is being filled. -/
def Py (w : World) (b : Nat) (Y : Yv) (op : Option Nat) (F : Nat → Prop) : Prop := F b ∧ ∃ vO vR vT us, Bx w b Y vO vR vT ∧ Ys w Y op F vO vR vT us
theorem Bx.ky {F : Nat → Prop} {w w' : World} {b : Nat} {Y : Yv} {vO vR vT : Value} (h : Bx w b Y vO vR vT) (hk : Ky F w w') (hn : ¬ F b) : Bx w' b Y vO vR vT :=
  ⟨hk.tg h.tg hn, fun i => (hk.frozen h.tg.lt hn).trans (h.fr i), hk.cell h.c0 hn, hk.cell h.c1 hn, hk.cell h.c2 hn, hk.cell h.c3 hn, hk.cell h.c4 hn, hk.cell h.c5 hn, hk.cell h.c6 hn, hk.cell h.c7 hn, hk.cell h.c8 hn, hk.cell h.c9 hn, hk.cell h.c10 hn⟩
theorem Py.ky {G F : Nat → Prop} {w w' : World} {b : Nat} {Y : Yv} {op : Option Nat} (h : Py w b Y op F) (hk : Ky G w w') (hn : ∀ k, G k → ¬ F k) : Py w' b Y op F := by
  obtain ⟨fb, vO, vR, vT, us, h1, h2⟩ := h
  exact ⟨fb, vO, vR, vT, us, h1.ky hk (fun g => hn b g fb), h2.ky hk (fun k hg t _ => .inr (hn k hg))⟩
theorem Py.later {F : Nat → Prop} {w w' : World} {b : Nat} {Y : Yv} {op : Option Nat} (h : Py w b Y op F) (hb : Below w.heap.size w w') : Py w' b Y op F := h.ky (G := fun _ => False) (Ky.of_below hb) (fun _ => False.elim)
theorem Ys.same {w : World} {Y Y' : Yv} {op : Option Nat} {F : Nat → Prop} {vO vR vT : Value} {us : List Value} (h : Ys w Y op F vO vR vT us) (h1 : Y'.out = Y.out) (h2 : Y'.runs = Y.runs) (h3 : Y'.there = Y.there) : Ys w Y' op F vO vR vT us := by
  obtain ⟨a, b, c, d, e, f, g, i, j, k⟩ := h
  rw [← h1] at a
  rw [← h2] at e i j
  rw [← h3] at f i
  exact ⟨a, b, c, d, e, f, g, i, j, k⟩
/-- The yard's own cells alone are written. -/
theorem Py.upd {F : Nat → Prop} {w w' : World} {b : Nat} {Y Y' : Yv} {op : Option Nat} {vO vR vT : Value} {us : List Value} (fb : F b) (h : Bx w b Y vO vR vT) (hl : Ys w Y op F vO vR vT us) (hk : Ky (fun k => k = b) w w') (hB : Bx w' b Y' vO vR vT) (h1 : Y'.out = Y.out) (h2 : Y'.runs = Y.runs) (h3 : Y'.there = Y.there) : Py w' b Y' op F :=
  ⟨fb, vO, vR, vT, us, hB, (hl.ky hk (fun k e t ht => by
    subst e
    left
    refine ⟨fun e => ?_, fun e => ?_, fun e => ?_⟩ <;> (subst e; exact ht.ne h.tg (by decide) rfl))).same h1 h2 h3⟩

theorem Bx.drew {w : World} {b : Nat} {Y : Yv} {vO vR vT : Value} (h : Bx w b Y vO vR vT) : Bx w.drew b Y vO vR vT := ⟨h.tg, h.fr, h.c0, h.c1, h.c2, h.c3, h.c4, h.c5, h.c6, h.c7, h.c8, h.c9, h.c10⟩
theorem Ky.drew {F : Nat → Prop} {a w : World} (h : Ky F a w) : Ky F a w.drew := ⟨h.os, h.tape, h.output, h.size, h.block, h.rows⟩
theorem Bx.set_held {w : World} {b : Nat} {Y : Yv} {vO vR vT : Value} (h : Bx w b Y vO vR vT) (x : Int) : Bx (w.setCell ⟨b, 0, none⟩ (.int .i64 x)) b { Y with held := x } vO vR vT := by
  obtain ⟨q1, q2, q3, q4, q5, q6, q7, q8, q9, q10, q11, q12, q13⟩ := h
  refine ⟨q1.set _ _ _, fun i => by rw [World.frozen?_setCell]; exact q2 i, ?_, ?_, ?_, ?_, ?_, ?_, ?_, ?_, ?_, ?_, ?_⟩ <;> simp [go_sem, q3, q4, q5, q6, q7, q8, q9, q10, q11, q12, q13]
theorem Bx.ky_held {w : World} {b : Nat} {Y : Yv} {vO vR vT : Value} (h : Bx w b Y vO vR vT) (x : Int) : Ky (fun k => k = b) w (w.setCell ⟨b, 0, none⟩ (.int .i64 x)) := (Ky.refl (fun k => k = b) _).set (F := fun k => k = b) rfl h.tg (by decide) _ _
theorem Bx.set_most {w : World} {b : Nat} {Y : Yv} {vO vR vT : Value} (h : Bx w b Y vO vR vT) (x : Int) : Bx (w.setCell ⟨b, 1, none⟩ (.int .i64 x)) b { Y with most := x } vO vR vT := by
  obtain ⟨q1, q2, q3, q4, q5, q6, q7, q8, q9, q10, q11, q12, q13⟩ := h
  refine ⟨q1.set _ _ _, fun i => by rw [World.frozen?_setCell]; exact q2 i, ?_, ?_, ?_, ?_, ?_, ?_, ?_, ?_, ?_, ?_, ?_⟩ <;> simp [go_sem, q3, q4, q5, q6, q7, q8, q9, q10, q11, q12, q13]
theorem Bx.ky_most {w : World} {b : Nat} {Y : Yv} {vO vR vT : Value} (h : Bx w b Y vO vR vT) (x : Int) : Ky (fun k => k = b) w (w.setCell ⟨b, 1, none⟩ (.int .i64 x)) := (Ky.refl (fun k => k = b) _).set (F := fun k => k = b) rfl h.tg (by decide) _ _
theorem Bx.set_puts {w : World} {b : Nat} {Y : Yv} {vO vR vT : Value} (h : Bx w b Y vO vR vT) (x : Int) : Bx (w.setCell ⟨b, 2, none⟩ (.int .i64 x)) b { Y with puts := x } vO vR vT := by
  obtain ⟨q1, q2, q3, q4, q5, q6, q7, q8, q9, q10, q11, q12, q13⟩ := h
  refine ⟨q1.set _ _ _, fun i => by rw [World.frozen?_setCell]; exact q2 i, ?_, ?_, ?_, ?_, ?_, ?_, ?_, ?_, ?_, ?_, ?_⟩ <;> simp [go_sem, q3, q4, q5, q6, q7, q8, q9, q10, q11, q12, q13]
theorem Bx.ky_puts {w : World} {b : Nat} {Y : Yv} {vO vR vT : Value} (h : Bx w b Y vO vR vT) (x : Int) : Ky (fun k => k = b) w (w.setCell ⟨b, 2, none⟩ (.int .i64 x)) := (Ky.refl (fun k => k = b) _).set (F := fun k => k = b) rfl h.tg (by decide) _ _
theorem Bx.set_calls {w : World} {b : Nat} {Y : Yv} {vO vR vT : Value} (h : Bx w b Y vO vR vT) (x : Int) : Bx (w.setCell ⟨b, 4, none⟩ (.int .i64 x)) b { Y with calls := x } vO vR vT := by
  obtain ⟨q1, q2, q3, q4, q5, q6, q7, q8, q9, q10, q11, q12, q13⟩ := h
  refine ⟨q1.set _ _ _, fun i => by rw [World.frozen?_setCell]; exact q2 i, ?_, ?_, ?_, ?_, ?_, ?_, ?_, ?_, ?_, ?_, ?_⟩ <;> simp [go_sem, q3, q4, q5, q6, q7, q8, q9, q10, q11, q12, q13]
theorem Bx.ky_calls {w : World} {b : Nat} {Y : Yv} {vO vR vT : Value} (h : Bx w b Y vO vR vT) (x : Int) : Ky (fun k => k = b) w (w.setCell ⟨b, 4, none⟩ (.int .i64 x)) := (Ky.refl (fun k => k = b) _).set (F := fun k => k = b) rfl h.tg (by decide) _ _
theorem Bx.set_rd {w : World} {b : Nat} {Y : Yv} {vO vR vT : Value} (h : Bx w b Y vO vR vT) (x : Bool) : Bx (w.setCell ⟨b, 8, none⟩ (.bool x)) b { Y with rd := x } vO vR vT := by
  obtain ⟨q1, q2, q3, q4, q5, q6, q7, q8, q9, q10, q11, q12, q13⟩ := h
  refine ⟨q1.set _ _ _, fun i => by rw [World.frozen?_setCell]; exact q2 i, ?_, ?_, ?_, ?_, ?_, ?_, ?_, ?_, ?_, ?_, ?_⟩ <;> simp [go_sem, q3, q4, q5, q6, q7, q8, q9, q10, q11, q12, q13]
theorem Bx.ky_rd {w : World} {b : Nat} {Y : Yv} {vO vR vT : Value} (h : Bx w b Y vO vR vT) (x : Bool) : Ky (fun k => k = b) w (w.setCell ⟨b, 8, none⟩ (.bool x)) := (Ky.refl (fun k => k = b) _).set (F := fun k => k = b) rfl h.tg (by decide) _ _
theorem Bx.set_o {w : World} {b : Nat} {Y : Yv} {vO vR vT : Value} (h : Bx w b Y vO vR vT) (x : Value) : Bx (w.setCell ⟨b, 3, none⟩ (x)) b Y x vR vT := by
  obtain ⟨q1, q2, q3, q4, q5, q6, q7, q8, q9, q10, q11, q12, q13⟩ := h
  refine ⟨q1.set _ _ _, fun i => by rw [World.frozen?_setCell]; exact q2 i, ?_, ?_, ?_, ?_, ?_, ?_, ?_, ?_, ?_, ?_, ?_⟩ <;> simp [go_sem, q3, q4, q5, q6, q7, q8, q9, q10, q11, q12, q13]
theorem Bx.ky_o {w : World} {b : Nat} {Y : Yv} {vO vR vT : Value} (h : Bx w b Y vO vR vT) (x : Value) : Ky (fun k => k = b) w (w.setCell ⟨b, 3, none⟩ (x)) := (Ky.refl (fun k => k = b) _).set (F := fun k => k = b) rfl h.tg (by decide) _ _
theorem Bx.set_r {w : World} {b : Nat} {Y : Yv} {vO vR vT : Value} (h : Bx w b Y vO vR vT) (x : Value) : Bx (w.setCell ⟨b, 9, none⟩ (x)) b Y vO x vT := by
  obtain ⟨q1, q2, q3, q4, q5, q6, q7, q8, q9, q10, q11, q12, q13⟩ := h
  refine ⟨q1.set _ _ _, fun i => by rw [World.frozen?_setCell]; exact q2 i, ?_, ?_, ?_, ?_, ?_, ?_, ?_, ?_, ?_, ?_, ?_⟩ <;> simp [go_sem, q3, q4, q5, q6, q7, q8, q9, q10, q11, q12, q13]
theorem Bx.ky_r {w : World} {b : Nat} {Y : Yv} {vO vR vT : Value} (h : Bx w b Y vO vR vT) (x : Value) : Ky (fun k => k = b) w (w.setCell ⟨b, 9, none⟩ (x)) := (Ky.refl (fun k => k = b) _).set (F := fun k => k = b) rfl h.tg (by decide) _ _
theorem Bx.set_t {w : World} {b : Nat} {Y : Yv} {vO vR vT : Value} (h : Bx w b Y vO vR vT) (x : Value) : Bx (w.setCell ⟨b, 10, none⟩ (x)) b Y vO vR x := by
  obtain ⟨q1, q2, q3, q4, q5, q6, q7, q8, q9, q10, q11, q12, q13⟩ := h
  refine ⟨q1.set _ _ _, fun i => by rw [World.frozen?_setCell]; exact q2 i, ?_, ?_, ?_, ?_, ?_, ?_, ?_, ?_, ?_, ?_, ?_⟩ <;> simp [go_sem, q3, q4, q5, q6, q7, q8, q9, q10, q11, q12, q13]
theorem Bx.ky_t {w : World} {b : Nat} {Y : Yv} {vO vR vT : Value} (h : Bx w b Y vO vR vT) (x : Value) : Ky (fun k => k = b) w (w.setCell ⟨b, 10, none⟩ (x)) := (Ky.refl (fun k => k = b) _).set (F := fun k => k = b) rfl h.tg (by decide) _ _

set_option maxHeartbeats 2000000 in
/-- call (158). -/
theorem call_any {F : Nat → Prop} {b : Nat} {Y : Yv} {op : Option Nat} {w : World} (h : Py w b Y op F) (hr : Y.rd = false) :
    Calls Tryz.prog 158 #[.pointer (some ⟨b, 0, none⟩)] w fun e w' => e = .returned (.int .i64 (if Y.hit then Y.cd else 0)) ∧ Py w' b Y.tick op F ∧ Ky (fun k => k = b) w w' := by
  obtain ⟨fb, vO, vR, vT, us, hB, hl⟩ := h
  have c4 := hB.c4
  have c6 := hB.c6
  have c7 := hB.c7
  have c8 := hB.c8
  rw [hr] at c8
  have f4 := hB.fr 4
  have f8 := hB.fr 8
  have HB := hide hB
  have HL := hide hl
  have HR := hide hr
  clear hB hl hr
  obtain ⟨cc, hcc⟩ : ∃ cc, IntKind.i64.wrap (Y.calls + 1) = cc := ⟨_, rfl⟩
  have HCC := hide hcc
  cases hh : Y.hit
  · have h2 : (cc == Y.rf) = false := by rw [← hcc]; exact hh
    have HH := hide hh
    clear hh
    go_enter Tryz.func158, Tryz.ntmps158
    go_wp2
    go_region
    go_wp2
    go_ret
    have E := ((unhide HB).set_calls cc)
    have K := ((unhide HB).ky_calls cc)
    refine ⟨rfl, Py.upd fb (unhide HB) (unhide HL) K.drew (Y' := Y.tick) ?_ rfl rfl rfl, K.drew⟩
    have e : Y.tick = { Y with calls := cc } := by unfold Yv.tick; rw [unhide HCC, unhide HH, unhide HR]
    rw [e]
    exact E.drew
  · have h2 : (cc == Y.rf) = true := by rw [← hcc]; exact hh
    have HH := hide hh
    clear hh
    go_enter Tryz.func158, Tryz.ntmps158
    go_wp2
    go_region
    go_wp2
    go_ret
    have E := (((unhide HB).set_calls cc).drew.set_rd true)
    have K := ((unhide HB).ky_calls cc).drew.trans (((unhide HB).set_calls cc).drew.ky_rd true) (Nw.refl _ _)
    refine ⟨rfl, Py.upd fb (unhide HB) (unhide HL) K (Y' := Y.tick) ?_ rfl rfl rfl, K⟩
    have e : Y.tick = { Y with calls := cc, rd := true } := by unfold Yv.tick; rw [unhide HCC, unhide HH]
    rw [e]
    exact E
end Go.Proofs.YtcbenpodohjbiaaGreat

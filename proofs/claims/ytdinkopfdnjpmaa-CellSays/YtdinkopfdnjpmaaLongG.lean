import Derived.Test.YtdinkopfdnjpmaaLongF
import Derived.Deep.OwnRows
set_option linter.unusedSimpArgs false
set_option linter.unusedVariables false
namespace Go.Proofs.Ytdinkopfdnjpmaa
open Go.RowKit Go.Sort

theorem rowIs_later {w w' : World} {g t n : Nat} {F : Nat → Value} (h : w.rowIs g t n F) (hb : Below w.heap.size w w') : w'.rowIs g t n F := h.of_block (hb.block _ h.lt)
theorem below_one {w w' : World} {o : Obj} (h : Below (w.alloc o).heap.size (w.alloc o) w') : Below w.heap.size w w' := below_step (below_alloc (Below.refl _ _) o) h


theorem rowIs_grown {w w' : World} {g t n : Nat} {F : Nat → Value} {row : Option Nat} (h : w.rowIs g t n F) (hg : w.grownBy w' row) (hne : some g ≠ row) : w'.rowIs g t n F := h.of_block (hg.block _ h.lt hne)
theorem own_block {w : World} {base e size : Nat} {v : Value} {m : Nat} {xs : List Value} (h : w.ownsRow base e size v m xs) {g : Nat} (hg : v.ownBlock = some g) : ∃ cur, w.heap[g]? = some (.cells cur e (0, 0)) := by
  rcases h.2 with ⟨rfl, _⟩ | ⟨g', cap, cur, rfl, _, hh, _⟩
  · simp [Value.ownBlock] at hg
  · simp [Value.ownBlock] at hg; subst hg; exact ⟨cur, hh⟩
theorem own_ne {w : World} {g t n : Nat} {F : Nat → Value} {base e size : Nat} {v : Value} {m : Nat} {xs : List Value} (h : w.rowIs g t n F) (ho : w.ownsRow base e size v m xs) (hte : t ≠ e) : some g ≠ v.ownBlock := by
  intro hg
  obtain ⟨cur, hc⟩ := own_block ho hg.symm
  obtain ⟨c, hb, _⟩ := h
  rw [hc] at hb
  simp at hb
  exact hte hb.2.symm
theorem own_own {w : World} {base e size base' e' size' : Nat} {v v' : Value} {m m' : Nat} {xs xs' : List Value} (h : w.ownsRow base e size v m xs) (h' : w.ownsRow base' e' size' v' m' xs') (hne : e ≠ e') : v.ownBlock = none ∨ v.ownBlock ≠ v'.ownBlock := by
  cases hv : v.ownBlock with
  | none => exact .inl rfl
  | some g =>
    right
    intro hg
    obtain ⟨c, hc⟩ := own_block h hv
    obtain ⟨c', hc'⟩ := own_block h' hg.symm
    rw [hc] at hc'
    simp at hc'
    exact hne hc'.2
theorem grown_set (w : World) (g j : Nat) (u : Value) : w.grownBy (w.setCell ⟨g, j, none⟩ u) (some g) := by
  have := (Below.refl g w).setCell (p := ⟨g, j, none⟩) (Nat.le_refl _) u
  exact ⟨this.os, this.tape, this.output, this.size, fun k _ hne => Below.heap_setCell w _ u k (fun e => hne (by rw [e]))⟩
theorem own_set {w : World} {g t n j : Nat} {F : Nat → Value} {u : Value} {base e size : Nat} {v : Value} {m : Nat} {xs : List Value} (ho : w.ownsRow base e size v m xs) (h : w.rowIs g t n F) (hte : t ≠ e) : (w.setCell ⟨g, j, none⟩ u).ownsRow base e size v m xs :=
  ho.kept (grown_set w g j u) (by have := own_ne h ho hte; cases hv : v.ownBlock with | none => exact .inl rfl | some k => exact .inr (by rw [hv] at this; exact fun e => this e.symm))
theorem own_later {w w1 : World} {base e size : Nat} {v : Value} {m : Nat} {xs : List Value} (h : w.ownsRow base e size v m xs) (hb : Below w.heap.size w w1) : w1.ownsRow base e size v m xs :=
  h.kept (row := none) ⟨hb.os, hb.tape, hb.output, hb.size, fun k hk _ => hb.block k hk⟩ (by cases v.ownBlock with | none => exact .inl rfl | some g => exact .inr (by simp))
theorem grown_below {w w' : World} {row : Option Nat} (hg : w.grownBy w' row) {B : Nat} (hB : B ≤ w.heap.size) (hr : ∀ g, row = some g → B ≤ g) : Below B w w' :=
  ⟨hg.os, hg.tape, hg.output, hg.size, fun k hk => hg.block k (by omega) (fun e => by have := hr k e.symm; omega)⟩

theorem own_shape {w : World} {base e size : Nat} {v : Value} {m : Nat} {xs : List Value} (h : w.ownsRow base e size v m xs) : ∃ a c, v = .slice a m c := by
  rcases h.2 with ⟨rfl, rfl⟩ | ⟨g, cap, cur, rfl, _⟩
  · exact ⟨none, 0, rfl⟩
  · exact ⟨_, _, rfl⟩
def box2 (a b : Value) : Nat → Value
  | 0 => a
  | _ => b
theorem box2_alloc (w : World) (a b : Value) : (w.alloc (.cells #[a, b] 58)).rowIs w.heap.size 58 2 (box2 a b) := World.rowIs_alloc w _ 58 _ (fun i hi => by
  match i, hi with
  | 0, _ => rfl
  | 1, _ => rfl)
theorem box2_facts {w : World} {g : Nat} {a b : Value} (h : w.rowIs g 58 2 (box2 a b)) : w.cell? ⟨g, 0, none⟩ = some a ∧ w.cell? ⟨g, 1, none⟩ = some b ∧ w.frozen? ⟨g, 0, none⟩ = false ∧ w.frozen? ⟨g, 1, none⟩ = false :=
  ⟨h.cell (by omega), h.cell (by omega), h.frozen _, h.frozen _⟩
theorem box2_set1 {w : World} {g : Nat} {a b u : Value} (h : w.rowIs g 58 2 (box2 a b)) : (w.setCell ⟨g, 1, none⟩ u).rowIs g 58 2 (box2 a u) := (h.set 1 u).congr fun i hi => by
  match i, hi with
  | 0, _ => rfl
  | 1, _ => rfl
theorem dig_own {w : World} {base : Nat} {v : Value} {zs : List Int} (h : OwnD w base v zs) : ∃ a c, v = .slice a zs.length c ∧ zs.length ≤ c ∧ DigAt w a zs := ownD_dig h

theorem minus_step (zs : List Int) (k : Nat) (hk : zs.length = k) (S C x y D E : Int) (hS : S = x + 65536 - y - C) (h : valD zs - 65536 ^ k * C = D - E) :
    valD (zs ++ [S % 65536]) - 65536 ^ (k + 1) * (1 - S / 65536) = (D + 65536 ^ k * x) - (E + 65536 ^ k * y) := by
  rw [valD_snoc, hk, Int.pow_succ]
  have e1 : S % 65536 = S - 65536 * (S / 65536) := by omega
  generalize hq : (65536 : Int) ^ k = q at *
  generalize S / 65536 = d at *
  rw [e1, hS]
  have e2 : q * (x + 65536 - y - C - 65536 * d) = q * x + q * 65536 - q * y - q * C - q * 65536 * d := by
    rw [Int.mul_sub, Int.mul_sub, Int.mul_sub, Int.mul_add, ← Int.mul_assoc]
  have e3 : q * 65536 * (1 - d) = q * 65536 - q * 65536 * d := by rw [Int.mul_sub, Int.mul_one]
  rw [e2, e3]
  generalize q * 65536 * d = t at *
  omega
/-- What is borrowed at the end. -/
theorem minus_end (zs ds es : List Int) (C : Int) (hz : Digs zs) (hk : zs.length = ds.length) (hle : es.length ≤ ds.length) (hC0 : 0 ≤ C) (hC1 : C ≤ 1) (hv : valD es ≤ valD ds) (h : valD zs - 65536 ^ ds.length * C = valD (ds.take ds.length) - valD (es.take ds.length)) : valD zs = valD ds - valD es := by
  rw [List.take_length, List.take_of_length_le hle] at h
  have h1 := valD_lt hz
  rw [hk] at h1
  have h2 := pow_pos' ds.length
  rcases (show C = 0 ∨ C = 1 by omega) with rfl | rfl
  · rw [Int.mul_zero] at h; omega
  · rw [Int.mul_one] at h; omega

/-- The boxes of 'plus' with two signs. -/
structure PB (w wx : World) (ob : Nat) (m n o : Bool) (x y v : Value) : Prop where
  below : Below w.heap.size w wx
  ba : wx.rowIs w.heap.size 58 2 (box2 (.bool m) x)
  bb : wx.rowIs (w.heap.size + 1) 58 2 (box2 (.bool n) y)
  bz : wx.rowIs (w.heap.size + 1 + 1) 58 2 (box2 (.bool false) (.slice none 0 0))
  bo : wx.rowIs ob 58 2 (box2 (.bool o) v)
  ho : w.heap.size + 1 + 1 < ob
theorem PB.later {w wx wy : World} {ob : Nat} {m n o : Bool} {x y v : Value} (h : PB w wx ob m n o x y v) (hb : Below wx.heap.size wx wy) : PB w wy ob m n o x y v :=
  ⟨below_step h.below hb, rowIs_later h.ba hb, rowIs_later h.bb hb, rowIs_later h.bz hb, rowIs_later h.bo hb, h.ho⟩
/-- An append to the own list, and its store into the box. -/
theorem PB.app {w wx w1 : World} {ob : Nat} {m n o : Bool} {x y v v' : Value} {zs ys : List Int} {ob' : Obj} {bs : Nat} (h : PB w wx ob m n o x y v) (ho : OwnD wx bs v zs) (hbs : w.heap.size ≤ bs) (ho1 : OwnD w1 bs v' ys) (hg : (wx.alloc ob').grownBy w1 v.ownBlock) :
    PB w (w1.setCell ⟨ob, 1, none⟩ v') ob m n o x y v' ∧ OwnD (w1.setCell ⟨ob, 1, none⟩ v') bs v' ys := by
  have oa := World.ownsRow.alloc ho ob'
  have key : ∀ {g nn : Nat} {F : Nat → Value}, wx.rowIs g 58 nn F → w1.rowIs g 58 nn F := fun hr => rowIs_grown (hr.alloc ob') hg (own_ne (hr.alloc ob') oa (by decide))
  have hob := h.ho
  refine ⟨⟨?_, (key h.ba).setOther (by simp; omega) _, (key h.bb).setOther (by simp; omega) _, (key h.bz).setOther (by simp; omega) _, box2_set1 (key h.bo), h.ho⟩, own_set ho1 (key h.bo) (by decide)⟩
  exact ((below_alloc h.below ob').trans (grown_below hg (below_alloc h.below ob').size fun g e => Nat.le_trans hbs (World.ownsRow.lt oa g e).1)).setCell (by simp; omega) _
end Go.Proofs.Ytdinkopfdnjpmaa

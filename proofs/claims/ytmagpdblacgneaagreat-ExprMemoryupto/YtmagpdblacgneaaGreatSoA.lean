import Derived.Test.YtmagpdblacgneaaGreatPxA
import Derived.Test.YtmagpdblacgneaaGreatCoB
import Derived.Test.YtmagpdblacgneaaGreatStB
set_option linter.unusedSimpArgs false
set_option linter.unusedVariables false
set_option maxRecDepth 100000
namespace Go.Proofs.YtmagpdblacgneaaGreat
open Go.RowKit Go.Sort

/-- A view: what is said of the blocks F. -/
structure Vw where
  F : Nat → Prop
  P : World → Prop
  keep : ∀ w w', (∀ q, F q → w'.heap[q]? = w.heap[q]?) → P w → P w'
theorem cell_same {w w' : World} {q j : Nat} {x : Value} (h : w'.heap[q]? = w.heap[q]?) (hx : w.cell? ⟨q, j, none⟩ = some x) : w'.cell? ⟨q, j, none⟩ = some x := by
  rw [← hx]; unfold World.cell?; rw [h]
theorem frozen_same {w w' : World} {q j : Nat} (h : w'.heap[q]? = w.heap[q]?) : w'.frozen? ⟨q, j, none⟩ = w.frozen? ⟨q, j, none⟩ := by
  unfold World.frozen?; rw [h]
/-- A list of expressions and all that hangs on it. -/
def Vw.tree (F : Nat → Prop) (a : Option Addr) (c : Nat) (l : List Ex) : Vw := ⟨F, fun w => Ow w l a c F, fun w w' hk h => h.keep hk⟩
/-- An expression's box. -/
def Vw.box (b : Nat) (e : Ex) (a : Option Addr) (c : Nat) : Vw := ⟨fun q => q = b, fun w => Box6 w b e a c, fun w w' hk h => by
  obtain ⟨⟨h0, h1, h2, h3, h4, h5⟩, f0, f1, f2, f3, f4, f5⟩ := h
  have hb := hk b rfl
  exact ⟨⟨cell_same hb h0, cell_same hb h1, cell_same hb h2, cell_same hb h3, cell_same hb h4, cell_same hb h5⟩, by rw [frozen_same hb]; exact f0, by rw [frozen_same hb]; exact f1, by rw [frozen_same hb]; exact f2, by rw [frozen_same hb]; exact f3, by rw [frozen_same hb]; exact f4, by rw [frozen_same hb]; exact f5⟩⟩
/-- Numbers of one's own. -/
def Vw.ints (lo hi : Nat) (a : Option Addr) (c : Nat) (xs : List Int) : Vw := ⟨fun q => lo ≤ q ∧ q < hi, fun w => w.ownsRow lo 3 1 (.slice a xs.length c) xs.length (xs.map (.int .i64)) ∧ ∀ g, (Value.slice a xs.length c).ownBlock = some g → lo ≤ g ∧ g < hi, fun w w' hk ⟨h, i⟩ => ⟨own_keepE h fun g hg => hk g (i g hg), i⟩⟩
theorem own_ints {w : World} {base n m c : Nat} {a : Option Addr} {xs : List Int} (h : w.ownsRow base 3 1 (.slice a m c) n (xs.map (.int .i64))) : IntsAt w a xs := by
  rcases h.2 with ⟨e, h0⟩ | ⟨g, cap, cur, e, _⟩
  · exact .inl (List.eq_nil_of_length_eq_zero (by have := h.1; rw [List.length_map] at this; omega))
  · injection e with e1 e2 e3
    subst e1 e2 e3
    refine .inr ⟨g, 0, rfl, fun i x hx => ?_⟩
    have hx' : (xs.map (Value.int .i64))[i]? = some (.int .i64 x) := by rw [List.getElem?_map, hx]; rfl
    have hi : i < m * 1 := by have := (List.getElem?_eq_some_iff.1 hx').1; rw [h.1] at this; exact this
    rw [Nat.zero_add, World.ownsRow.cellAt h i hi, hx']
theorem own_nilI {w : World} {base t sz n m c : Nat} {xs : List Value} {a : Option Addr} (h : w.ownsRow base t sz (.slice a m c) n xs) : a = none → c = 0 := fun e => by
  subst e
  rcases h.2 with ⟨h, _⟩ | ⟨g, cap, cur, h, _⟩
  · injection h
  · cases h
/-- The law's state: views that lie apart. -/
structure StO (w0 w : World) (VB : List Vw) : Prop where
  bel : Below w0.heap.size w0 w
  all : ∀ v ∈ VB, v.P w ∧ ∀ q, v.F q → w0.heap.size ≤ q ∧ q < w.heap.size
  apart : VB.Pairwise (fun v u => ∀ q, v.F q → u.F q → False)
section
variable {w0 w w' : World} {VB C : List Vw}
theorem StO.nil (w : World) : StO w w [] := ⟨Below.refl _ _, fun v hv => absurd hv List.not_mem_nil, List.Pairwise.nil⟩
theorem StO.get (h : StO w0 w VB) (i : Nat) {v : Vw} (hv : VB[i]? = some v) : v.P w := (h.all v (List.mem_of_getElem? hv)).1
theorem StO.in (h : StO w0 w VB) (i : Nat) {v : Vw} (hv : VB[i]? = some v) : ∀ q, v.F q → w0.heap.size ≤ q ∧ q < w.heap.size := (h.all v (List.mem_of_getElem? hv)).2
/-- What C says is used up; what changes is theirs. -/
theorem StO.use {G : Nat → Prop} (h : StO w0 w (C ++ VB)) (hK : Ky G w w') (hG : ∀ q, q < w.heap.size → G q → ∃ u ∈ C, u.F q) : StO w0 w' VB := by
  obtain ⟨a1, a2, a3⟩ := List.pairwise_append.1 h.apart
  have hsz := hK.size
  refine ⟨h.bel.trans ((hK.less (G := fun q => w0.heap.size ≤ q) fun q hq hg => ?_).below (fun k hk => hk) h.bel.size), fun v hv => ?_, a2⟩
  · obtain ⟨u, hu, huq⟩ := hG q hq hg
    exact ((h.all u (List.mem_append_left _ hu)).2 q huq).1
  · obtain ⟨p1, p2⟩ := h.all v (List.mem_append_right _ hv)
    refine ⟨v.keep w w' (fun q hq => hK.block q (p2 q hq).2 fun hg => ?_) p1, fun q hq => ⟨(p2 q hq).1, Nat.lt_of_lt_of_le (p2 q hq).2 hsz⟩⟩
    obtain ⟨u, hu, huq⟩ := hG q (p2 q hq).2 hg
    exact a3 u hu v hv q huq hq
/-- .. and one is made of them, and of new memory. -/
theorem StO.step {G : Nat → Prop} (h : StO w0 w (C ++ VB)) (hK : Ky G w w') (hG : ∀ q, q < w.heap.size → G q → ∃ u ∈ C, u.F q) (v : Vw) (hP : v.P w') (hF : ∀ q, v.F q → (∃ u ∈ C, u.F q) ∨ (w.heap.size ≤ q ∧ q < w'.heap.size)) : StO w0 w' (v :: VB) := by
  have h1 := h.use hK hG
  obtain ⟨a1, a2, a3⟩ := List.pairwise_append.1 h.apart
  have hsz := hK.size
  have hb0 := h.bel.size
  refine ⟨h1.bel, fun u hu => ?_, List.pairwise_cons.2 ⟨fun u hu q hq huq => ?_, h1.apart⟩⟩
  · rcases List.mem_cons.1 hu with rfl | hu
    · refine ⟨hP, fun q hq => ?_⟩
      rcases hF q hq with ⟨u, hu, huq⟩ | hq
      · have := (h.all u (List.mem_append_left _ hu)).2 q huq
        exact ⟨this.1, by omega⟩
      · exact ⟨by omega, hq.2⟩
    · exact h1.all u hu
  · rcases hF q hq with ⟨x, hx, hxq⟩ | hq
    · exact a3 x hx u hu q hxq huq
    · have := (h.all u (List.mem_append_right _ hu)).2 q huq
      omega
theorem StO.below (h : StO w0 w VB) (hb : Below w.heap.size w w') : StO w0 w' VB := h.use (C := []) (G := fun _ => False) (Ky.of_below hb) fun q _ h => h.elim
theorem StO.make (h : StO w0 w VB) (hb : Below w.heap.size w w') (v : Vw) (hF : ∀ q, v.F q → w.heap.size ≤ q ∧ q < w'.heap.size) (hP : v.P w') : StO w0 w' (v :: VB) := h.step (C := []) (G := fun _ => False) (Ky.of_below hb) (fun q _ h => h.elim) v hP fun q hq => .inr (hF q hq)
theorem StO.drew (h : StO w0 w VB) : StO w0 w.drew VB := ⟨h.bel.drew, fun v hv => ⟨v.keep w w.drew (fun q _ => rfl) (h.all v hv).1, (h.all v hv).2⟩, h.apart⟩
theorem StO.perm {VB' : List Vw} (h : StO w0 w VB) (hp : VB.Perm VB') : StO w0 w VB' := ⟨h.bel, fun v hv => h.all v (hp.mem_iff.2 hv), (hp.pairwise_iff fun {x y} hxy q hy hx => hxy q hx hy).1 h.apart⟩
theorem front_perm : ∀ (l : List Vw) (i : Nat) (v : Vw), l[i]? = some v → (v :: l.eraseIdx i).Perm l
  | [], i, v, h => by simp at h
  | x :: l, 0, v, h => by
    simp only [List.getElem?_cons_zero, Option.some.injEq] at h
    subst h
    exact List.Perm.refl _
  | x :: l, i + 1, v, h => by
    simp only [List.getElem?_cons_succ] at h
    exact (List.Perm.swap x v _).trans ((front_perm l i v h).cons x)
/-- One of them to the front. -/
theorem StO.front (h : StO w0 w VB) (i : Nat) {v : Vw} (hv : VB[i]? = some v) : StO w0 w (v :: VB.eraseIdx i) := h.perm (front_perm VB i v hv).symm
theorem StO.del (h : StO w0 w VB) (i : Nat) : StO w0 w (VB.eraseIdx i) := ⟨h.bel, fun v hv => h.all v (List.mem_of_mem_eraseIdx hv), h.apart.sublist (List.eraseIdx_sublist VB i)⟩
end
/-- A tree that is made. -/
theorem StO.tree {w0 w w' : World} {VB : List Vw} {a : Option Addr} {c : Nat} {l : List Ex} (h : StO w0 w VB) (hb : Below w.heap.size w w') (hx : ExK w.heap.size w' a c l) : ∃ F, StO w0 w' (Vw.tree F a c l :: VB) := by
  obtain ⟨F, hF, hB⟩ := hx
  exact ⟨F, h.make hb (Vw.tree F a c l) hB hF⟩
/-- A box that is made. -/
theorem StO.box {w0 w W : World} {VB : List Vw} {e : Ex} {a : Option Addr} {c : Nat} (h : StO w0 w VB) (hW : w.alloc (.cells #[.int .i64 e.op, .int .i64 e.n, .int .i64 e.v.k, .int .i64 e.v.n, .string e.v.s, .slice a e.args.length c] 26) = W) : StO w0 W (Vw.box w.heap.size e a c :: VB) := by
  subst hW
  refine h.make (below_alloc (Below.refl _ _) _) _ (fun q hq => ?_) (Box6.new w e a c)
  have : q = w.heap.size := hq
  subst this
  exact ⟨Nat.le_refl _, by show w.heap.size < (w.heap.push _).size; rw [Array.size_push]; omega⟩
theorem ky_set6 (w : World) (b : Nat) (u0 u1 u2 u3 u4 u5 : Value) : Ky (fun q => q = b) w ((((((w.setCell ⟨b, 0, none⟩ u0).setCell ⟨b, 1, none⟩ u1).setCell ⟨b, 2, none⟩ u2).setCell ⟨b, 3, none⟩ u3).setCell ⟨b, 4, none⟩ u4).setCell ⟨b, 5, none⟩ u5) :=
  have e1 : ∀ (W : World) (a : Addr) (u : Value), (W.setCell a u).os = W.os := fun _ _ _ => rfl
  have e2 : ∀ (W : World) (a : Addr) (u : Value), (W.setCell a u).tape = W.tape := fun _ _ _ => rfl
  have e3 : ∀ (W : World) (a : Addr) (u : Value), (W.setCell a u).output = W.output := fun _ _ _ => rfl
  ⟨by rw [e1, e1, e1, e1, e1, e1], by rw [e2, e2, e2, e2, e2, e2], by rw [e3, e3, e3, e3, e3, e3], Nat.le_of_eq (set6_size w b u0 u1 u2 u3 u4 u5).symm, fun q _ hn => set6_block w b _ _ _ _ _ _ q hn⟩
/-- A box is stored into. -/
theorem StO.put {w0 w : World} {VB : List Vw} {b : Nat} {e f : Ex} {a a' : Option Addr} {c c' : Nat} (h : StO w0 w (Vw.box b e a c :: VB)) : StO w0 ((((((w.setCell ⟨b, 0, none⟩ (.int .i64 f.op)).setCell ⟨b, 1, none⟩ (.int .i64 f.n)).setCell ⟨b, 2, none⟩ (.int .i64 f.v.k)).setCell ⟨b, 3, none⟩ (.int .i64 f.v.n)).setCell ⟨b, 4, none⟩ (.string f.v.s)).setCell ⟨b, 5, none⟩ (.slice a' f.args.length c')) (Vw.box b f a' c' :: VB) :=
  StO.step (C := [Vw.box b e a c]) h (ky_set6 w b _ _ _ _ _ _) (fun q _ hq => ⟨_, List.mem_singleton.2 rfl, hq⟩) (Vw.box b f a' c') (box6_store (h.get 0 rfl) f a' c') fun q hq => .inl ⟨_, List.mem_singleton.2 rfl, hq⟩
/-- A tree is spoilt. -/
theorem StO.spoil {w0 w w' : World} {VB : List Vw} {F : Nat → Prop} {a : Option Addr} {c : Nat} {l : List Ex} (h : StO w0 w (Vw.tree F a c l :: VB)) (hK : Ky F w w') : StO w0 w' VB :=
  StO.use (C := [Vw.tree F a c l]) h hK fun q _ hq => ⟨_, List.mem_singleton.2 rfl, hq⟩
theorem StO.spoilI {w0 w w' : World} {VB : List Vw} {lo hi c : Nat} {a : Option Addr} {xs : List Int} (h : StO w0 w (Vw.ints lo hi a c xs :: VB)) (hK : w.grownBy w' (Value.slice a xs.length c).ownBlock) : StO w0 w' VB :=
  StO.use (C := [Vw.ints lo hi a c xs]) (G := fun q => (Value.slice a xs.length c).ownBlock = some q) h (Ky.of_grown hK fun g hg => hg) fun q _ hq => ⟨_, List.mem_singleton.2 rfl, (h.get 0 rfl).2 q hq⟩
/-- Two trees' roots in one new list. -/
theorem StO.two {w0 w W : World} {VB : List Vw} {F1 F2 : Nat → Prop} {x y : Ex} {a1 a2 : Option Addr} {c1 c2 : Nat} (h : StO w0 w (Vw.tree F1 a1 c1 x.args :: Vw.tree F2 a2 c2 y.args :: VB)) (hW : w.alloc (two (x, a1, c1) (y, a2, c2)) = W) : ∃ F, StO w0 W (Vw.tree F (some ⟨w.heap.size, 0, none⟩) 2 [x, y] :: VB) := by
  have hb : Below w.heap.size w W := by rw [← hW]; exact below_alloc (Below.refl _ _) _
  have hs : W.heap.size = w.heap.size + 1 := by rw [← hW]; show (w.heap.push _).size = _; rw [Array.size_push]
  have hap := List.pairwise_cons.1 h.apart
  have hdis := hap.1 (Vw.tree F2 a2 c2 y.args) List.mem_cons_self
  have i1 := h.in 0 rfl
  have i2 := h.in 1 rfl
  have o1 : Ow w x.args a1 c1 F1 := h.get 0 rfl
  have o2 : Ow w y.args a2 c2 F2 := h.get 1 rfl
  refine ⟨fun q => q = w.heap.size ∨ F1 q ∨ F2 q, StO.step (C := [Vw.tree F1 a1 c1 x.args, Vw.tree F2 a2 c2 y.args]) (G := fun _ => False) h (Ky.of_below hb) (fun q _ h => h.elim) (Vw.tree _ _ _ _) ?_ fun q hq => ?_⟩
  · refine Ow.row (L := [(x, a1, c1), (y, a2, c2)]) (K := fun i q => (i = 0 ∧ F1 q) ∨ (i = 1 ∧ F2 q)) (by rw [← hW]; exact own_two w w.heap.size (Nat.le_refl _) (x, a1, c1) (y, a2, c2)) (fun i q hq => ?_) (fun i q b _ hb' => ?_) (fun i j b hij hi hj => ?_) (.inl rfl)
    · match i, hq with
      | 0, hq =>
        simp only [List.getElem?_cons_zero, Option.some.injEq] at hq
        subst hq
        exact (o1.keep fun q hq => hb.block q (i1 q hq).2).wide fun q hq => .inl ⟨rfl, hq⟩
      | 1, hq =>
        simp only [List.getElem?_cons_succ, List.getElem?_cons_zero, Option.some.injEq] at hq
        subst hq
        exact (o2.keep fun q hq => hb.block q (i2 q hq).2).wide fun q hq => .inr ⟨rfl, hq⟩
      | i + 2, hq => simp at hq
    · rcases hb' with ⟨_, hb'⟩ | ⟨_, hb'⟩
      · have := (i1 b hb').2; exact ⟨by omega, .inr (.inl hb')⟩
      · have := (i2 b hb').2; exact ⟨by omega, .inr (.inr hb')⟩
    · rcases hi with ⟨e1, hi⟩ | ⟨e1, hi⟩ <;> rcases hj with ⟨e2, hj⟩ | ⟨e2, hj⟩
      · omega
      · exact hdis b hi hj
      · exact hdis b hj hi
      · omega
  · have hq : q = w.heap.size ∨ F1 q ∨ F2 q := hq
    rcases hq with rfl | hq | hq
    · exact .inr ⟨Nat.le_refl _, by omega⟩
    · exact .inl ⟨_, List.mem_cons_self, hq⟩
    · exact .inl ⟨_, List.mem_cons_of_mem _ List.mem_cons_self, hq⟩
/-- A tree's list, laid open. -/
theorem Ow.open {w : World} {l : List Ex} {a : Option Addr} {c : Nat} {F : Nat → Prop} (h : Ow w l a c F) : ∃ (L : List Nd) (K : Nat → Nat → Prop), OwnE w 0 (.slice a l.length c) L ∧ L.map (·.1) = l ∧ (∀ (i : Nat) (q : Nd), L[i]? = some q → Ow w q.1.args q.2.1 q.2.2 (K i)) ∧ (∀ i b, K i b → F b ∧ (Value.slice a l.length c).ownBlock ≠ some b) ∧ (∀ i j b, i ≠ j → K i b → K j b → False) ∧ ∀ g, (Value.slice a l.length c).ownBlock = some g → F g := by
  cases h with
  | nil F => exact ⟨[], fun _ _ => False, World.ownsRow_nil _ _ _ _, rfl, fun i q h => by simp at h, fun _ _ h => h.elim, fun _ _ _ _ h => h.elim, fun g hg => by cases hg⟩
  | @row g c L K F h hc hK hd hg =>
    have hl : (L.map (·.1)).length = L.length := List.length_map _
    refine ⟨L, fun i b => ∃ q, L[i]? = some q ∧ K i b, ?_, rfl, fun i q hq => (hc i q hq).wide fun b hb => ⟨q, hq, hb⟩, fun i b ⟨q, hq, hb⟩ => ?_, fun i j b hij ⟨_, _, hi⟩ ⟨_, _, hj⟩ => hd i j b hij hi hj, fun g' hg' => ?_⟩
    · rw [hl]
      exact own_lessB h (Nat.zero_le _)
    · have := hK i q b hq hb
      refine ⟨this.2, fun e => ?_⟩
      simp only [Value.ownBlock, Option.some.injEq] at e
      exact this.1 e.symm
    · simp only [Value.ownBlock, Option.some.injEq] at hg'
      subst hg'
      exact hg
theorem Ow.of_own {w : World} {base n c : Nat} {a : Option Addr} {L : List Nd} {K : Nat → Nat → Prop} {F : Nat → Prop} (h : OwnE w base (.slice a n c) L) (hc : ∀ (i : Nat) (q : Nd), L[i]? = some q → Ow w q.1.args q.2.1 q.2.2 (K i)) (hK : ∀ i b, K i b → F b ∧ (Value.slice a n c).ownBlock ≠ some b) (hd : ∀ i j b, i ≠ j → K i b → K j b → False) (hg : ∀ g, (Value.slice a n c).ownBlock = some g → F g) : Ow w (L.map (·.1)) a c F := by
  rcases h with ⟨h1, ⟨e, h0⟩ | ⟨g, cap, cur, e, h3, h4, h5⟩⟩
  · injection e with e1 e2 e3
    subst e1 e3
    obtain rfl : L = [] := List.eq_nil_of_length_eq_zero h0
    exact .nil F
  · injection e with e1 e2 e3
    subst e1 e2 e3
    exact .row (K := K) ⟨h1, .inr ⟨g, _, cur, rfl, Nat.le_refl _, h4, h5⟩⟩ hc (fun i q b _ hb => ⟨fun e => (hK i b hb).2 (by rw [e]; rfl), (hK i b hb).1⟩) hd (hg g rfl)
/-- append(f, g...) of two lists of trees. -/
theorem StO.app {w0 w : World} {VB : List Vw} {F1 F2 : Nat → Prop} {l1 l2 : List Ex} {a1 a2 : Option Addr} {c1 c2 : Nat} (h : StO w0 w (Vw.tree F1 a1 c1 l1 :: Vw.tree F2 a2 c2 l2 :: VB)) (hl : l1.length + l2.length ≤ 4194304) (hpos : 0 < l2.length) :
    ∃ a c w' F, (Builtin.append_ #[24, 24] 24 #[.slice a1 l1.length c1, .slice a2 l2.length c2]).run Tryz.prog w = .ok (.slice a (l1.length + l2.length) c) w' ∧ StO w0 w' (Vw.tree F a c (l1 ++ l2) :: VB) := by
  have hap := List.pairwise_cons.1 h.apart
  have hdis := hap.1 (Vw.tree F2 a2 c2 l2) List.mem_cons_self
  have i1 := h.in 0 rfl
  have i2 := h.in 1 rfl
  obtain ⟨L1, K1, o1, m1, p1, q1, d1, g1⟩ := Ow.open (show Ow w l1 a1 c1 F1 from h.get 0 rfl)
  obtain ⟨L2, K2, o2, m2, p2, q2, d2, g2⟩ := Ow.open (show Ow w l2 a2 c2 F2 from h.get 1 rfl)
  have e1 : l1.length = L1.length := by rw [← m1, List.length_map]
  have e2 : l2.length = L2.length := by rw [← m2, List.length_map]
  obtain ⟨gs, rfl, _⟩ := o2.some (by omega)
  have ho1 : w.ownsRow 0 26 6 (.slice a1 l1.length c1) L1.length (L1.flatMap sh) := o1
  have hcells := World.ownsRow.cells (show w.ownsRow 0 26 6 (.slice (some ⟨gs, 0, none⟩) l2.length c2) L2.length (L2.flatMap sh) from o2) rfl
  obtain ⟨v', w', hrun, hv', hway⟩ := app_okE w 0 L1.length l2.length c2 _ (L1.flatMap sh) (L2.flatMap sh) 24 ⟨gs, 0, none⟩ ho1 (by rw [sh_len, e2]) hcells (sh_all L2) (by omega) hpos (Nat.zero_le _)
  obtain ⟨a, c, hvs⟩ := own_slice hv'
  subst hvs
  have hown : OwnE w' 0 (.slice a (L1.length + l2.length) c) (L1 ++ L2) := by
    unfold OwnE
    rw [List.length_append, List.flatMap_append, ← e2]
    exact hv'
  have hkeep : (∀ b, b < w.heap.size → (Value.slice a1 l1.length c1).ownBlock ≠ some b → w'.heap[b]? = w.heap[b]?) ∧ w.heap.size ≤ w'.heap.size ∧ (∀ g, (Value.slice a (L1.length + l2.length) c).ownBlock = some g → (Value.slice a1 l1.length c1).ownBlock = some g ∨ (w.heap.size ≤ g ∧ g < w'.heap.size)) ∧ Ky (fun q => (Value.slice a1 l1.length c1).ownBlock = some q) w w' := by
    rcases hway with ⟨g, cap, x1, x2, hg⟩ | ⟨hnew, hbl⟩
    · rw [x1, x2]
      exact ⟨fun b h1 h2 => hg.block b h1 fun e => h2 e.symm, hg.size, fun g' hg' => .inl hg', Ky.of_grown hg fun g' hg' => hg'⟩
    · exact ⟨fun b h1 _ => hbl.block b h1, hbl.size, fun g hg => .inr ⟨hnew g hg, (World.ownsRow.lt hv' g hg).2⟩, Ky.of_below hbl⟩
  obtain ⟨k1, k2, k3, k4⟩ := hkeep
  refine ⟨a, c, w', fun b => F1 b ∨ F2 b ∨ (w.heap.size ≤ b ∧ b < w'.heap.size), by rw [e1] at hrun ⊢; exact hrun, StO.step (C := [Vw.tree F1 a1 c1 l1, Vw.tree F2 (some ⟨gs, 0, none⟩) c2 l2]) h k4 (fun q _ hq => ⟨_, List.mem_cons_self, g1 q hq⟩) (Vw.tree _ a c (l1 ++ l2)) ?_ fun q hq => ?_⟩
  · show Ow w' (l1 ++ l2) a c _
    have em : l1 ++ l2 = (L1 ++ L2).map (·.1) := by rw [List.map_append, m1, m2]
    rw [em]
    refine Ow.of_own (K := fun i b => (i < L1.length ∧ K1 i b) ∨ (L1.length ≤ i ∧ K2 (i - L1.length) b)) hown (fun i q hq => ?_) (fun i b hb => ?_) (fun i j b hij hi hj => ?_) (fun g hg => ?_)
    · by_cases hi : i < L1.length
      · rw [List.getElem?_append_left hi] at hq
        exact ((p1 i q hq).keep fun b hb => k1 b (i1 b (q1 i b hb).1).2 (q1 i b hb).2).wide fun b hb => .inl ⟨hi, hb⟩
      · rw [List.getElem?_append_right (by omega)] at hq
        exact ((p2 _ q hq).keep fun b hb => k1 b (i2 b (q2 _ b hb).1).2 fun e => hdis b (g1 b e) (q2 _ b hb).1).wide fun b hb => .inr ⟨by omega, hb⟩
    · rcases hb with ⟨_, hb⟩ | ⟨_, hb⟩
      · refine ⟨.inl (q1 i b hb).1, fun e => ?_⟩
        rcases k3 b e with e | e
        · exact (q1 i b hb).2 e
        · have := (i1 b (q1 i b hb).1).2; omega
      · refine ⟨.inr (.inl (q2 _ b hb).1), fun e => ?_⟩
        rcases k3 b e with e | e
        · exact hdis b (g1 b e) (q2 _ b hb).1
        · have := (i2 b (q2 _ b hb).1).2; omega
    · rcases hi with ⟨h1, hi⟩ | ⟨h1, hi⟩ <;> rcases hj with ⟨h2, hj⟩ | ⟨h2, hj⟩
      · exact d1 i j b hij hi hj
      · exact hdis b (q1 i b hi).1 (q2 _ b hj).1
      · exact hdis b (q1 j b hj).1 (q2 _ b hi).1
      · exact d2 _ _ b (by omega) hi hj
    · rcases k3 g hg with e | e
      · exact .inl (g1 g e)
      · exact .inr (.inr e)
  · have hq : F1 q ∨ F2 q ∨ (w.heap.size ≤ q ∧ q < w'.heap.size) := hq
    rcases hq with hq | hq | hq
    · exact .inl ⟨_, List.mem_cons_self, hq⟩
    · exact .inl ⟨_, List.mem_cons_of_mem _ List.mem_cons_self, hq⟩
    · exact .inr hq
/-- The list of a tree is spoilt alone. -/
theorem StO.spoilL {w0 w w' : World} {VB : List Vw} {F : Nat → Prop} {a : Option Addr} {c : Nat} {l : List Ex} (h : StO w0 w (Vw.tree F a c l :: VB)) (hK : w.grownBy w' (Value.slice a l.length c).ownBlock) : StO w0 w' VB := by
  obtain ⟨L, K, _, _, _, _, _, g1⟩ := Ow.open (show Ow w l a c F from h.get 0 rfl)
  exact StO.use (C := [Vw.tree F a c l]) (G := fun q => (Value.slice a l.length c).ownBlock = some q) h (Ky.of_grown hK fun g hg => hg) fun q _ hq => ⟨_, List.mem_singleton.2 rfl, g1 q hq⟩
/-- Numbers that are copied. -/
theorem StO.numbers {w0 w w' : World} {VB : List Vw} {c : Nat} {a : Option Addr} {xs : List Int} (h : StO w0 w VB) (hb : Below w.heap.size w w') (ho : w'.ownsRow w.heap.size 3 1 (.slice a xs.length c) xs.length (xs.map (.int .i64))) : StO w0 w' (Vw.ints w.heap.size w'.heap.size a c xs :: VB) :=
  h.make hb (Vw.ints w.heap.size w'.heap.size a c xs) (fun q hq => hq) ⟨ho, fun g hg => World.ownsRow.lt ho g hg⟩
end Go.Proofs.YtmagpdblacgneaaGreat
set_option linter.unusedSimpArgs false
set_option linter.unusedVariables false
set_option maxRecDepth 100000
namespace Go.Proofs.YtmagpdblacgneaaGreat
open Go.RowKit Go.Sort

/-- append([]int{}, l...). -/
theorem copyI (W : World) (a : Option Addr) (c : Nat) (xs : List Int) (h : IntsAt W a xs) (hn : a = none → c = 0) (hl : xs.length ≤ 4194304) : ∃ a' c' w', (Builtin.append_ #[27, 27] 27 #[.slice (some ⟨W.heap.size, 0, none⟩) 0 0, .slice a xs.length c]).run Tryz.prog (W.alloc (.cells #[] 3)) = .ok (.slice a' xs.length c') w' ∧ w'.ownsRow W.heap.size 3 1 (.slice a' xs.length c') xs.length (xs.map (.int .i64)) ∧ Below W.heap.size W w' := by
  obtain ⟨i2, hi2, z20, z21, z22⟩ := info_parts infoSp3
  have hE : (W.alloc (.cells #[] 3)).ownsRow W.heap.size 3 1 (.slice (some ⟨W.heap.size, 0, none⟩) 0 0) 0 [] :=
    ⟨rfl, .inr ⟨W.heap.size, 0, #[], rfl, Nat.le_refl _, by show (W.heap.push _)[W.heap.size]? = _; rw [Array.getElem?_push_size], Nat.le_refl _, Nat.zero_le _, rfl, rfl⟩⟩
  have hb : Below W.heap.size W (W.alloc (.cells #[] 3)) := below_alloc (Below.refl _ _) _
  cases a with
  | none =>
    obtain rfl : xs = [] := by
      rcases h with h | ⟨b, off, e, _⟩
      · exact h
      · cases e
    obtain rfl := hn rfl
    exact ⟨_, _, _, run_append_owned_none (P := Tryz.prog) _ W.heap.size 27 27 3 i2 1 Tryz.underlying27 hi2 _ 0 [] hE, hE, hb⟩
  | some ad =>
    have hcells : ∀ j u, (xs.map (Value.int .i64))[j]? = some u → (W.alloc (.cells #[] 3)).cell? (ad.add j) = some u := ints_news (h.later hb)
    have hone : ∀ u ∈ xs.map (Value.int .i64), u.oneCell' = true := fun u hu => by obtain ⟨y, _, rfl⟩ := List.mem_map.1 hu; rfl
    obtain ⟨T, w', hr, h2, h3, _, h5⟩ := run_append_own_at (P := Tryz.prog) (w := W.alloc (.cells #[] 3)) W.heap.size 27 27 3 i2 (.int .i64 0) 1 8 Tryz.underlying27 hi2 z20 z21 z22 rfl (by decide) _ 0 [] hE ad xs.length c (xs.map (.int .i64)) (by simp) hcells hone (by unfold maxLen; omega) (by omega) hb.size
    rw [Nat.zero_add, List.nil_append] at h2
    obtain ⟨a', c', hT⟩ := own_slice h2
    subst hT
    refine ⟨a', c', w', hr, h2, ?_⟩
    refine ⟨h3.os.trans hb.os, h3.tape.trans hb.tape, h3.output.trans hb.output, Nat.le_trans hb.size h3.size, fun q hq => ?_⟩
    rw [h3.block q (Nat.lt_of_lt_of_le hq hb.size) (by simp [Value.ownBlock]; omega)]
    exact hb.block q hq
theorem Ow.cap {w : World} {l : List Ex} {a : Option Addr} {c : Nat} {F : Nat → Prop} (h : Ow w l a c F) : l.length ≤ c := by
  obtain ⟨L, K, o, m, _⟩ := h.open
  rcases o.2 with ⟨e, h0⟩ | ⟨g, cap, cur, e, _, _, h3, _⟩
  · injection e with _ e2 e3; omega
  · injection e with _ e2 e3
    rw [e3, e2]
    exact h3
/-- What Columns answers of e. -/
theorem kcols (e : Ex) (he : e.size ≤ 131072) (hf : e.fin) : ∃ zs : List Int, zs.length ≤ 131072 ∧ ∀ (W : World) (a : Option Addr) (c : Nat), Ex.all W a e.args → Calls Tryz.prog 12 #[e.val a c] W fun r w' => ∃ a' c', r = .returned (.slice a' zs.length c') ∧ w'.ownsRow W.heap.size 3 1 (.slice a' zs.length c') zs.length (zs.map (.int .i64)) ∧ Below W.heap.size W w' := by
  refine ⟨if builtE e then uniqI (colsE e) else [], ?_, fun W a c h => (cols_any e hf a c W h).mono fun r w' ⟨v, h1, h2, h3⟩ => ?_⟩
  · split
    · have h1 := (uniq_sd (colsE e)).2.2
      have h2 := cols_size e
      omega
    · exact Nat.zero_le _
  · obtain ⟨a', c', hv⟩ := own_slice (show w'.ownsRow W.heap.size 3 1 v _ _ from h2)
    subst hv
    exact ⟨a', c', h1, h2, h3⟩
/-- What All answers. -/
theorem kall (by_ : List Ex) (hs : Ex.sizes by_ ≤ 131072) (hf : Ex.fins by_) (W : World) (a : Option Addr) (c : Nat) (hc : by_.length ≤ c) (h : Ex.all W a by_) : Calls Tryz.prog 7 #[.slice a by_.length c] W (APost by_ W) :=
  all12_any by_ a c W hc (by have := sizes_len by_; omega) h fun x hx a' c' W' h' => by
    have hok : (measE allE x 33554432 131072).2.2 = true := meas_ok (by have := Ex.size_mem hx; omega)
    have e : copyT x = copyE x := by unfold copyT; rw [hok]; rfl
    have := copied_any x (Ex.fins_mem hf hx) a' c' W' h'
    rw [e] at this
    exact this.mono fun r w' ⟨a2, c2, h1, h2, _, h3⟩ => ⟨a2, c2, h1, h2 hok, h3⟩
theorem parts_some (e : Ex) : 0 < (partsE e).length := by
  rw [partsE_eq]
  split
  · rename_i h
    simp only [Bool.and_eq_true] at h
    have hp := parts_pos e
    rw [partsE_eq, if_pos (by simp [h.1, h.2])] at hp
    exact hp
  · exact Nat.zero_lt_succ _
theorem parts_few (e : Ex) : (partsE e).length ≤ e.size := Nat.le_trans (sizes_len _) (partsS_le e)
end Go.Proofs.YtmagpdblacgneaaGreat

import Derived.Test.YtjnggnhgambmkaaGreatMmK
import Derived.Test.YtjnggnhgambmkaaGreatMmA
set_option linter.unusedSimpArgs false
set_option linter.unusedVariables false
set_option maxRecDepth 100000
namespace Go.Proofs.YtjnggnhgambmkaaGreat
open Go.RowKit Go.Sort

/-- A view: what is said of the blocks from lo to hi. -/
structure Vw where
  lo : Nat
  hi : Nat
  P : World → Prop
  keep : ∀ w w', (∀ q, lo ≤ q → q < hi → w'.heap[q]? = w.heap[q]?) → P w → P w'
theorem cell_same {w w' : World} {q j : Nat} {x : Value} (h : w'.heap[q]? = w.heap[q]?) (hx : w.cell? ⟨q, j, none⟩ = some x) : w'.cell? ⟨q, j, none⟩ = some x := by
  rw [← hx]; unfold World.cell?; rw [h]
/-- A list lies in the blocks from lo to hi. -/
def In (lo hi : Nat) (a : Option Addr) : Prop := ∀ ad, a = some ad → lo ≤ ad.block ∧ ad.block < hi
theorem LisAt.same {w w' : World} {lo hi : Nat} {a : Option Addr} {cs : List Value} (hin : In lo hi a) (hk : ∀ q, lo ≤ q → q < hi → w'.heap[q]? = w.heap[q]?) (h : LisAt w a cs) : LisAt w' a cs := by
  rcases h with h | ⟨b, off, e, h⟩
  · exact .inl h
  · have hb := hin _ e
    exact .inr ⟨b, off, e, fun i x hx => cell_same (hk b hb.1 hb.2) (h i x hx)⟩
theorem RowAt.same {w w' : World} {lo hi : Nat} {a : Option Addr} {xs : List Val} (hin : In lo hi a) (hk : ∀ q, lo ≤ q → q < hi → w'.heap[q]? = w.heap[q]?) (h : RowAt w a xs) : RowAt w' a xs := by
  rcases h with h | ⟨b, off, e, h⟩
  · exact .inl h
  · have hb := hin _ e
    exact .inr ⟨b, off, e, fun i x hx => by
      obtain ⟨h0, h1, h2⟩ := h i x hx
      exact ⟨cell_same (hk b hb.1 hb.2) h0, cell_same (hk b hb.1 hb.2) h1, cell_same (hk b hb.1 hb.2) h2⟩⟩
/-- A column and its lists. -/
def Vw.vec (lo hi : Nat) (X : Vc) (p : Sl) : Vw := ⟨lo, hi, fun w => VecAt w X p ∧ In lo hi p.a1 ∧ In lo hi p.a2 ∧ In lo hi p.a3, fun w w' hk ⟨h, i1, i2, i3⟩ => ⟨⟨h.1.same i1 hk, h.2.1.same i2 hk, h.2.2.same i3 hk⟩, i1, i2, i3⟩⟩
/-- A column's box. -/
def Vw.box (b : Nat) (X : Vc) (p : Sl) : Vw := ⟨b, b + 1, fun w => CS b X p w, fun w w' hk ⟨h0, h1, h2, h3⟩ => by
  have hb := hk b (Nat.le_refl _) (by omega)
  exact ⟨cell_same hb h0, cell_same hb h1, cell_same hb h2, cell_same hb h3⟩⟩
def Vw.row (lo hi : Nat) (a : Option Addr) (xs : List Val) : Vw := ⟨lo, hi, fun w => RowAt w a xs ∧ In lo hi a, fun w w' hk ⟨h, i⟩ => ⟨h.same i hk, i⟩⟩
def Vw.lis (lo hi : Nat) (a : Option Addr) (cs : List Value) : Vw := ⟨lo, hi, fun w => LisAt w a cs ∧ In lo hi a, fun w w' hk ⟨h, i⟩ => ⟨h.same i hk, i⟩⟩
/-- A list of one's own that is to be spoilt. -/
def Vw.own (lo hi t sz : Nat) (S : Value) (n : Nat) (xs : List Value) : Vw := ⟨lo, hi, fun w => w.ownsRow lo t sz S n xs ∧ ∀ g, S.ownBlock = some g → lo ≤ g ∧ g < hi, fun w w' hk ⟨h, i⟩ => ⟨own_keep h fun g hg => hk g (i g hg).1 (i g hg).2, i⟩⟩
def Vw.own3 (lo hi : Nat) (X : Vc) (p : Sl) : Vw := ⟨lo, hi, fun w => Own3 w lo X p ∧ ∀ q, slB X p q → lo ≤ q ∧ q < hi, fun w w' hk ⟨h, i⟩ => ⟨⟨own_keep h.1 fun g hg => hk g (i g (.inl hg)).1 (i g (.inl hg)).2, own_keep h.2.1 fun g hg => hk g (i g (.inr (.inl hg))).1 (i g (.inr (.inl hg))).2, own_keep h.2.2 fun g hg => hk g (i g (.inr (.inr hg))).1 (i g (.inr (.inr hg))).2⟩, i⟩⟩

/-- The law's state: all views hold. -/
def StM (w0 w : World) (VB : List Vw) : Prop := Below w0.heap.size w0 w ∧ ∀ v ∈ VB, v.hi ≤ w.heap.size ∧ v.P w
variable {w0 w w' : World} {VB : List Vw}
theorem StM.below (h : StM w0 w VB) (hb : Below w.heap.size w w') : StM w0 w' VB :=
  ⟨below_step h.1 hb, fun v hv => ⟨Nat.le_trans (h.2 v hv).1 hb.size, v.keep w w' (fun q _ hq => hb.block q (Nat.lt_of_lt_of_le hq (h.2 v hv).1)) (h.2 v hv).2⟩⟩
theorem StM.ky {F : Nat → Prop} (h : StM w0 w VB) (hK : Ky F w w') (h0 : ∀ q, F q → w0.heap.size ≤ q) (hF : ∀ v ∈ VB, ∀ q, v.lo ≤ q → q < v.hi → ¬ F q) : StM w0 w' VB :=
  ⟨h.1.trans (hK.below h0 h.1.size), fun v hv => ⟨Nat.le_trans (h.2 v hv).1 hK.size, v.keep w w' (fun q hl hq => hK.block q (Nat.lt_of_lt_of_le hq (h.2 v hv).1) (hF v hv q hl hq)) (h.2 v hv).2⟩⟩
theorem StM.add (h : StM w0 w VB) {v : Vw} (hv : v.hi ≤ w.heap.size ∧ v.P w) : StM w0 w (v :: VB) := ⟨h.1, fun u hu => by
  rcases List.mem_cons.1 hu with rfl | hu
  · exact hv
  · exact h.2 u hu⟩
theorem StM.drop {v : Vw} (h : StM w0 w (v :: VB)) : StM w0 w VB := ⟨h.1, fun u hu => h.2 u (List.mem_cons_of_mem _ hu)⟩
theorem StM.head {v : Vw} (h : StM w0 w (v :: VB)) : v.P w := (h.2 v List.mem_cons_self).2
theorem StM.get (h : StM w0 w VB) (i : Nat) {v : Vw} (hv : VB[i]? = some v) : v.P w := (h.2 v (List.mem_of_getElem? hv)).2
theorem StM.sub {VB' : List Vw} (h : StM w0 w VB) (hs : ∀ v ∈ VB', v ∈ VB) : StM w0 w VB' := ⟨h.1, fun v hv => h.2 v (hs v hv)⟩
/-- What is made is a view of its own. -/
theorem own3_vec {W : World} {X : Vc} {p : Sl} (h : VecAt w X p) (ho : Own3 w W.heap.size X p) : (Vw.vec W.heap.size w.heap.size X p).P w ∧ (Vw.own3 W.heap.size w.heap.size X p).P w := by
  have key : ∀ {t n : Nat} {a : Option Addr} {m c : Nat} {xs : List Value}, w.ownsRow W.heap.size t 1 (.slice a m c) n xs → In W.heap.size w.heap.size a := fun {t n a m c xs} ho ad e => by
    have := World.ownsRow.lt ho ad.block (by rw [e]; rfl)
    exact this
  refine ⟨⟨h, key ho.1, key ho.2.1, key ho.2.2⟩, ho, fun q hq => ?_⟩
  rcases hq with hq | hq | hq
  · exact World.ownsRow.lt ho.1 q hq
  · exact World.ownsRow.lt ho.2.1 q hq
  · exact World.ownsRow.lt ho.2.2 q hq
theorem own_view {W : World} {t sz n : Nat} {S : Value} {xs : List Value} (ho : w.ownsRow W.heap.size t sz S n xs) : (Vw.own W.heap.size w.heap.size t sz S n xs).P w := ⟨ho, fun g hg => World.ownsRow.lt ho g hg⟩
end Go.Proofs.YtjnggnhgambmkaaGreat
set_option linter.unusedSimpArgs false
set_option linter.unusedVariables false
set_option maxRecDepth 100000
namespace Go.Proofs.YtjnggnhgambmkaaGreat
open Go.RowKit Go.Sort

theorem own_nil {w : World} {base t sz n m c : Nat} {xs : List Value} {a : Option Addr} (h : w.ownsRow base t sz (.slice a m c) n xs) : a = none → c = 0 := fun e => by
  subst e
  rcases h.2 with ⟨h, _⟩ | ⟨g, cap, cur, h, _⟩
  · injection h
  · cases h
theorem Own3.nil {w : World} {base : Nat} {X : Vc} {p : Sl} (h : Own3 w base X p) : (p.a1 = none → p.c1 = 0) ∧ (p.a2 = none → p.c2 = 0) ∧ (p.a3 = none → p.c3 = 0) := ⟨own_nil h.1, own_nil h.2.1, own_nil h.2.2⟩
theorem own_lis {w : World} {base t n m c : Nat} {a : Option Addr} {xs : List Value} (h : w.ownsRow base t 1 (.slice a m c) n xs) : LisAt w a xs := by
  rcases h.2 with ⟨e, h0⟩ | ⟨g, cap, cur, e, _⟩
  · exact .inl (List.eq_nil_of_length_eq_zero (by simp [h.1, h0]))
  · injection e with e1 e2 e3
    subst e1 e2 e3
    refine .inr ⟨g, 0, rfl, fun i x hx => ?_⟩
    have hi : i < m * 1 := by have := (List.getElem?_eq_some_iff.1 hx).1; rw [h.1] at this; exact this
    rw [Nat.zero_add, World.ownsRow.cellAt h i hi, hx]
theorem Own3.at {w : World} {base : Nat} {X : Vc} {p : Sl} (h : Own3 w base X p) : VecAt w X p := ⟨own_lis h.1, own_lis h.2.1, own_lis h.2.2⟩
/-- A column's box that may be stored into. -/
def Vw.bx (b : Nat) (X : Vc) (p : Sl) : Vw := ⟨b, b + 1, fun w => w.rowIs b 29 4 (box4 (.int .i64 X.k) (.slice p.a1 X.nl.length p.c1) (.slice p.a2 X.ns.length p.c2) (.slice p.a3 X.ss.length p.c3)), fun w w' hk h => h.of_block (hk b (Nat.le_refl _) (by omega))⟩
/-- The law's state: views that lie apart, the newest first. -/
structure StO (w0 w : World) (VB : List Vw) : Prop where
  bel : Below w0.heap.size w0 w
  all : ∀ v ∈ VB, w0.heap.size ≤ v.lo ∧ v.hi ≤ w.heap.size ∧ v.P w
  apart : VB.Pairwise (fun v u => u.hi ≤ v.lo)
section
variable {w0 w w' : World} {VB : List Vw}
theorem StO.nil (w : World) : StO w w [] := ⟨Below.refl _ _, fun v hv => absurd hv List.not_mem_nil, List.Pairwise.nil⟩
theorem StO.below (h : StO w0 w VB) (hb : Below w.heap.size w w') : StO w0 w' VB :=
  ⟨below_step h.bel hb, fun v hv => ⟨(h.all v hv).1, Nat.le_trans (h.all v hv).2.1 hb.size, v.keep w w' (fun q _ hq => hb.block q (Nat.lt_of_lt_of_le hq (h.all v hv).2.1)) (h.all v hv).2.2⟩, h.apart⟩
theorem StO.make (h : StO w0 w VB) (hb : Below w.heap.size w w') (v : Vw) (hlo : v.lo = w.heap.size) (hhi : v.hi ≤ w'.heap.size) (hP : v.P w') : StO w0 w' (v :: VB) := by
  have h1 := h.below hb
  refine ⟨h1.bel, fun u hu => ?_, List.pairwise_cons.2 ⟨fun u hu => by rw [hlo]; exact (h.all u hu).2.1, h.apart⟩⟩
  rcases List.mem_cons.1 hu with rfl | hu
  · exact ⟨by rw [hlo]; exact h.bel.size, hhi, hP⟩
  · exact h1.all u hu
theorem StO.drew (h : StO w0 w VB) : StO w0 w.drew VB := ⟨h.bel.drew, fun v hv => ⟨(h.all v hv).1, (h.all v hv).2.1, v.keep w w.drew (fun q _ _ => rfl) (h.all v hv).2.2⟩, h.apart⟩
theorem StO.get (h : StO w0 w VB) (i : Nat) {v : Vw} (hv : VB[i]? = some v) : v.P w := (h.all v (List.mem_of_getElem? hv)).2.2
theorem StO.low (h : StO w0 w VB) (i : Nat) {v : Vw} (hv : VB[i]? = some v) : w0.heap.size ≤ v.lo := (h.all v (List.mem_of_getElem? hv)).1
theorem StO.high (h : StO w0 w VB) (i : Nat) {v : Vw} (hv : VB[i]? = some v) : v.hi ≤ w.heap.size := (h.all v (List.mem_of_getElem? hv)).2.1
theorem StO.del (h : StO w0 w VB) (i : Nat) : StO w0 w (VB.eraseIdx i) := ⟨h.bel, fun v hv => h.all v (List.mem_of_mem_eraseIdx hv), h.apart.sublist (List.eraseIdx_sublist VB i)⟩
theorem pair_erase {R : Vw → Vw → Prop} : ∀ (l : List Vw) (i : Nat) (v : Vw), l.Pairwise R → l[i]? = some v → ∀ u ∈ l.eraseIdx i, R u v ∨ R v u
  | [], i, v, _, hv, u, hu => by cases hu
  | a :: l, 0, v, hp, hv, u, hu => by
    simp only [List.getElem?_cons_zero, Option.some.injEq] at hv
    subst hv
    exact .inr ((List.pairwise_cons.1 hp).1 u hu)
  | a :: l, i + 1, v, hp, hv, u, hu => by
    simp only [List.getElem?_cons_succ] at hv
    rcases List.mem_cons.1 hu with rfl | hu
    · exact .inl ((List.pairwise_cons.1 hp).1 v (List.mem_of_getElem? hv))
    · exact pair_erase l i v (List.pairwise_cons.1 hp).2 hv u hu
/-- One thing is spoilt: the others are as they were. -/
theorem StO.spoil {F : Nat → Prop} (h : StO w0 w VB) (i : Nat) {v : Vw} (hv : VB[i]? = some v) (hK : Ky F w w') (hF : ∀ q, q < w.heap.size → F q → v.lo ≤ q ∧ q < v.hi) : StO w0 w' (VB.eraseIdx i) := by
  have hlo := h.low i hv
  have hap := pair_erase VB i v h.apart hv
  have hd := h.del i
  refine ⟨h.bel.trans ((hK.less (G := fun q => v.lo ≤ q ∧ q < v.hi) hF).below (fun k hk => Nat.le_trans hlo hk.1) h.bel.size), fun u hu => ?_, hd.apart⟩
  obtain ⟨h1, h2, h3⟩ := hd.all u hu
  refine ⟨h1, Nat.le_trans h2 hK.size, u.keep w w' (fun q hl hq => hK.block q (by omega) fun hf => ?_) h3⟩
  have := hF q (by omega) hf
  rcases hap u hu with hh | hh
  · omega
  · omega
theorem StO.bx4 {b i : Nat} {X : Vc} {p : Sl} (h : StO w0 w VB) (hv : VB[i]? = some (Vw.bx b X p)) : CS b X p w := by
  have := box_facts (h.get i hv)
  exact ⟨this.1, this.2.1, this.2.2.1, this.2.2.2.1⟩
end
theorem bx_view {w W : World} {X : Vc} {p : Sl} (hW : w.alloc (.cells #[.int .i64 X.k, .slice p.a1 X.nl.length p.c1, .slice p.a2 X.ns.length p.c2, .slice p.a3 X.ss.length p.c3] 29) = W) : Below w.heap.size w W ∧ (Vw.bx w.heap.size X p).hi ≤ W.heap.size ∧ (Vw.bx w.heap.size X p).P W := by
  have h := box4_alloc w (.int .i64 X.k) (.slice p.a1 X.nl.length p.c1) (.slice p.a2 X.ns.length p.c2) (.slice p.a3 X.ss.length p.c3)
  rw [hW] at h
  refine ⟨by rw [← hW]; exact below_alloc (Below.refl _ _) _, ?_, h⟩
  rw [← hW]
  show w.heap.size + 1 ≤ (w.heap.push _).size
  rw [Array.size_push]
  omega
/-- A column that is made, and its box. -/
theorem StO.vecbox {w0 w w1 W : World} {VB : List Vw} {X : Vc} {p : Sl} (h : StO w0 w VB) (hb : Below w.heap.size w w1) (hv : VecAt w1 X p) (ho : Own3 w1 w.heap.size X p) (hW : w1.alloc (.cells #[.int .i64 X.k, .slice p.a1 X.nl.length p.c1, .slice p.a2 X.ns.length p.c2, .slice p.a3 X.ss.length p.c3] 29) = W) : StO w0 W (Vw.bx w1.heap.size X p :: Vw.vec w.heap.size w1.heap.size X p :: VB) := by
  obtain ⟨b1, b2, b3⟩ := bx_view hW
  exact (h.make hb _ rfl (Nat.le_refl _) (own3_vec hv ho).1).make b1 _ rfl b2 b3
theorem StO.ownbox {w0 w w1 W : World} {VB : List Vw} {X : Vc} {p : Sl} (h : StO w0 w VB) (hb : Below w.heap.size w w1) (hv : VecAt w1 X p) (ho : Own3 w1 w.heap.size X p) (hW : w1.alloc (.cells #[.int .i64 X.k, .slice p.a1 X.nl.length p.c1, .slice p.a2 X.ns.length p.c2, .slice p.a3 X.ss.length p.c3] 29) = W) : StO w0 W (Vw.bx w1.heap.size X p :: Vw.own3 w.heap.size w1.heap.size X p :: VB) := by
  obtain ⟨b1, b2, b3⟩ := bx_view hW
  exact (h.make hb _ rfl (Nat.le_refl _) (own3_vec hv ho).2).make b1 _ rfl b2 b3
/-- A column is spoilt. -/
theorem StO.spoil3 {w0 w w' : World} {VB : List Vw} {X : Vc} {p : Sl} {lo hi : Nat} (h : StO w0 w VB) (i : Nat) (hv : VB[i]? = some (Vw.own3 lo hi X p)) (hK : Ky (slB X p) w w') : StO w0 w' (VB.eraseIdx i) :=
  h.spoil i hv hK fun q _ hq => (h.get i hv).2 q hq
theorem StO.spoil1 {w0 w w' : World} {VB : List Vw} {lo hi t sz n : Nat} {S : Value} {xs : List Value} (h : StO w0 w VB) (i : Nat) (hv : VB[i]? = some (Vw.own lo hi t sz S n xs)) (hK : w.grownBy w' S.ownBlock) : StO w0 w' (VB.eraseIdx i) :=
  h.spoil (F := fun q => S.ownBlock = some q) i hv (Ky.of_grown hK fun g hg => hg) fun q _ hq => (h.get i hv).2 q hq
/-- A box is stored into. -/
theorem box4_set {w : World} {g : Nat} {a b c d a' b' c' d' : Value} (h : w.rowIs g 29 4 (box4 a b c d)) : ((((w.setCell ⟨g, 0, none⟩ a').setCell ⟨g, 1, none⟩ b').setCell ⟨g, 2, none⟩ c').setCell ⟨g, 3, none⟩ d').rowIs g 29 4 (box4 a' b' c' d') := by
  have h4 := (((h.set 0 a').set 1 b').set 2 c').set 3 d'
  obtain ⟨cs, h1, h2, h3⟩ := h4
  refine ⟨cs, h1, h2, fun i hi => (h3 i hi).trans ?_⟩
  rcases i with _ | _ | _ | _ | i
  · rfl
  · rfl
  · rfl
  · rfl
  · omega
theorem ky_set4 (w : World) (b : Nat) (v0 v1 v2 v3 : Value) : Ky (fun q => q = b) w ((((w.setCell ⟨b, 0, none⟩ v0).setCell ⟨b, 1, none⟩ v1).setCell ⟨b, 2, none⟩ v2).setCell ⟨b, 3, none⟩ v3) := by
  refine ⟨rfl, rfl, rfl, ?_, fun q hq hn => ?_⟩
  · simp [World.setCell]
  · have e : ∀ (W : World) (j : Nat) (v : Value), (W.setCell ⟨b, j, none⟩ v).heap[q]? = W.heap[q]? := fun W j v => Go.Deep.blk_setCell_other W ⟨b, j, none⟩ v q hn
    rw [e, e, e, e]
theorem StO.put {w0 w : World} {VB : List Vw} {b : Nat} {X Y : Vc} {p q : Sl} (h : StO w0 w (Vw.bx b X p :: VB)) : StO w0 ((((w.setCell ⟨b, 0, none⟩ (.int .i64 Y.k)).setCell ⟨b, 1, none⟩ (.slice q.a1 Y.nl.length q.c1)).setCell ⟨b, 2, none⟩ (.slice q.a2 Y.ns.length q.c2)).setCell ⟨b, 3, none⟩ (.slice q.a3 Y.ss.length q.c3)) (Vw.bx b Y q :: VB) := by
  have hk := ky_set4 w b (.int .i64 Y.k) (.slice q.a1 Y.nl.length q.c1) (.slice q.a2 Y.ns.length q.c2) (.slice q.a3 Y.ss.length q.c3)
  have h1 := h.spoil 0 (v := Vw.bx b X p) rfl hk fun r _ hr => by subst hr; exact ⟨Nat.le_refl _, Nat.lt_succ_self _⟩
  have h2 := h.all _ List.mem_cons_self
  refine ⟨h1.bel, fun u hu => ?_, List.pairwise_cons.2 ⟨(List.pairwise_cons.1 h.apart).1, (List.pairwise_cons.1 h.apart).2⟩⟩
  rcases List.mem_cons.1 hu with rfl | hu
  · exact ⟨h2.1, Nat.le_trans h2.2.1 hk.size, box4_set h2.2.2⟩
  · exact h1.all u hu
end Go.Proofs.YtjnggnhgambmkaaGreat
set_option linter.unusedSimpArgs false
set_option linter.unusedVariables false
set_option maxRecDepth 100000
namespace Go.Proofs.YtjnggnhgambmkaaGreat
open Go.RowKit Go.Sort

set_option maxHeartbeats 4000000 in
theorem spoiltR {w : World} {base n : Nat} {S : Value} {ys : List Value} (ho : w.ownsRow base 22 1 S n ys) (hl : n ≤ 2097152) (ax : Option Addr) (nx cx : Nat) : Calls Tryz.prog 35 #[S, .slice ax nx cx] w fun e w' => e = .returned (.tuple #[]) ∧ w.grownBy w' S.ownBlock := by
  have HS0 := hide (SpS.start ho)
  obtain ⟨aS, cS, hS⟩ := own_slice ho
  subst hS
  clear ho
  have HAP := hide app_okR
  have HC1 : Hid (∀ (W : World) j u, [.slice ax nx cx][j]? = some u → (W.alloc (.cells #[.slice ax nx cx] 22)).cell? ((⟨W.heap.size, 0, none⟩ : Addr).add j) = some u) := fun W j u hu => by
    rw [Addr.add_lit]
    match j, hu with
    | 0, hu => simp at hu; subst hu; simp [go_sem]
    | j + 1, hu => simp at hu
  have HO1 : Hid (∀ u ∈ ([.slice ax nx cx] : List Value), u.oneCell' = true) := fun u hu => by simp at hu; subst hu; rfl
  go_enter Tryz.func35, Tryz.ntmps35
  go_wp2_with fail
  go_loopw [11] (fun s11 wr => ∃ i : Nat, s11 = .int .i64 (i : Int) ∧ i ≤ n ∧ Hid (SpS 22 1 w wr (.slice aS n cS) n)) (fun s _ => n - (intOf s).toNat)
  case atStart => exact ⟨0, rfl, Nat.zero_le _, HS0⟩
  case round =>
    obtain ⟨i, rfl, hin, HS⟩ := hrel
    clear HS0
    by_cases hi : i < n
    · obtain ⟨g, cap, hg⟩ := (unhide HS).some (by omega)
      injection hg with hg _ hcap
      subst hg hcap
      obtain ⟨ec, ez⟩ := (unhide HS).facts
      obtain ⟨y, e0⟩ := ec i (by omega)
      have z0 := ez i
      have HS2 := hide ((unhide HS).set (j := i) (.slice ax nx cx))
      have i1 : (i : Int) < (n : Int) := by omega
      clear ez ec
      go_wp2
      go_roundw
      case rel => exact ⟨i + 1, by go_num, by omega, HS2⟩
      case measure => simp [intOf]; omega
    · obtain rfl : i = n := by omega
      have HT0 := hide (SpT.self (unhide HS))
      go_wp2_with fail
      go_loopw [5, 6] (fun s5 s6 wq => ∃ (j : Nat) (T : Value), s5 = T ∧ s6 = .int .i64 (j : Int) ∧ j ≤ 20 ∧ Hid (SpS 22 1 w wq (.slice aS i cS) i) ∧ Hid (SpT 22 1 w wq (.slice aS i cS) i T (i + j))) (fun _ s _ => 20 - (intOf s).toNat)
      case atStart => exact ⟨0, _, rfl, rfl, Nat.zero_le _, HS, HT0⟩
      case round =>
        obtain ⟨j, T, rfl, rfl, hj, HQ, HT⟩ := hrel
        clear HS HT0
        obtain ⟨aT, cT, hT⟩ := (unhide HT).slice
        subst hT
        by_cases hj2 : j < 20
        · have hb : Below wr.heap.size wr (wr.alloc (.cells #[.slice ax nx cx] 22)) := below_alloc (Below.refl _ _) _
          obtain ⟨T', w', hrun, hQ', hT', _⟩ := SpT.app (c := 1) (unhide HAP) ((unhide HQ).later hb) ((unhide HT).later hb) 46 ⟨wr.heap.size, 0, none⟩ (m := 1) (ys := [.slice ax nx cx]) rfl (unhide HC1 wr) (unhide HO1) (by omega) (by omega)
          have HQ' := hide hQ'
          have HT' := hide hT'
          have i1 : (j : Int) < 20 := by omega
          clear hQ' hT' hb
          go_wp2_with (at_builtin; refine wpList_app_run rfl (.tmp 24) (.tmp 26) 46 rfl _ _ rfl rfl hrun ?_)
          go_roundw
          case rel => exact ⟨j + 1, T', rfl, by go_num, by omega, HQ', HT'⟩
          case measure => simp [intOf]; omega
        · have i1 : ¬ (j : Int) < 20 := by omega
          clear HT
          go_wp2_with fail
          go_loopw [7, 8] (fun s7 s8 wq => ∃ (j : Nat) (M : Value), M = s7 ∧ s8 = .int .i64 (j : Int) ∧ j ≤ 64 ∧ Hid (SpS 22 1 w wq (.slice aS i cS) i) ∧ Hid (Mm 22 1 w wq M j)) (fun _ s _ => 64 - (intOf s).toNat)
          case atStart => exact ⟨0, _, rfl, rfl, Nat.zero_le _, HQ, Mm.nil⟩
          case round =>
            obtain ⟨q, M, rfl, rfl, hq, HR, HM⟩ := hrel
            clear HQ i1
            obtain ⟨aM, cM, hMs⟩ := (unhide HM).slice
            subst hMs
            by_cases hq2 : q < 64
            · have hb : Below wr.heap.size wr (wr.alloc (.cells #[.slice ax nx cx] 22)) := below_alloc (Below.refl _ _) _
              obtain ⟨M', w', hrun, hR', hM'⟩ := Mm.step (c := 1) (unhide HAP) (unhide HR) (unhide HM) hb 46 ⟨wr.heap.size, 0, none⟩ (ys := [.slice ax nx cx]) rfl (unhide HC1 wr) (unhide HO1) (by omega)
              have HR' := hide hR'
              have HM' := hide hM'
              have i1 : (q : Int) < 64 := by omega
              clear hR' hM' hb
              go_wp2_with (at_builtin; refine wpList_app_run rfl (.tmp 32) (.tmp 34) 46 rfl _ _ rfl rfl hrun ?_)
              go_roundw
              case rel => exact ⟨q + 1, M', rfl, by go_num, by omega, HR', HM'⟩
              case measure => simp [intOf]; omega
            · obtain rfl : q = 64 := by omega
              obtain ⟨T', w', hrun, hF⟩ := Mm.last (M := .slice aM 64 cM) (unhide HAP) (unhide HR) (unhide HM) (by omega) 46 (by omega)
              have HF := hide hF
              clear hF
              go_wp2_with (at_builtin; refine wpList_app_run rfl (.tmp 36) (.tmp 37) 46 rfl _ _ rfl rfl hrun ?_)
              go_end0
              exact ⟨rfl, unhide HF⟩
end Go.Proofs.YtjnggnhgambmkaaGreat

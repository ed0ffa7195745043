import Derived.Test.YtgmfbjehdcdioaaOjE
import Derived.Test.YtgmfbjehdcdioaaOjD
import Derived.Test.YtgmfbjehdcdioaaOiC
set_option linter.unusedSimpArgs false
set_option linter.unusedVariables false
set_option maxRecDepth 100000
namespace Go.Proofs.Ytgmfbjehdcdioaa
open Go.RowKit Go.Sort

theorem SkF.o {w : World} {b k : Nat} {F : Ft} {xs : List (Vk × Nat)} {fl : Nat} (h : SkF w b k (tot xs) F xs fl) (ht : tot xs ≤ 4611686018427387904) : SkO w b k F xs := ⟨h.t, ht⟩
theorem SkF.lt {w : World} {b k : Nat} {F : Ft} {xs : List (Vk × Nat)} {fl : Nat} (h : SkF w b k (tot xs) F xs fl ∧ tot xs ≤ 4611686018427387904) {q : Nat} (hq : foot b F q) : q < w.heap.size := (h.1.o h.2).lt hq
theorem SkF.keep {w w' : World} {b k T : Nat} {F : Ft} {xs : List (Vk × Nat)} {fl : Nat} (h : SkF w b k T F xs fl) (hk : ∀ q, foot b F q → w'.heap[q]? = w.heap[q]?) : SkF w' b k T F xs fl := by
  obtain ⟨L, hO, hL⟩ := h
  refine ⟨L, ⟨hO.box.of_block (hk b (.inl rfl)), hO.qu.keep (hk b (.inl rfl)) fun q hq => hk q (.inr (.inr hq)), hO.ne, ?_, hO.same, hO.heap⟩, hL⟩
  obtain ⟨es, clk, hh, he⟩ := hO.map
  exact ⟨es, clk, by rw [hk F.mb (.inr (.inl rfl))]; exact hh, he⟩

/-- Three sketches in memory; pr: blocks that none of them has. -/
structure Sm (w0 w : World) (k : Nat) (bx : Nat → Nat) (F : Nat → Ft) (XS : Nat → List (Vk × Nat)) (FL : Nat → Nat) (pr : Nat → Prop) : Prop where
  bel : Below w0.heap.size w0 w
  sk : ∀ i, i < 3 → SkF w (bx i) k (tot (XS i)) (F i) (XS i) (FL i) ∧ tot (XS i) ≤ 4611686018427387904
  ft : ∀ i, i < 3 → ∀ z, foot (bx i) (F i) z → w0.heap.size ≤ z ∧ ¬ pr z
  far : ∀ i j, i < 3 → j < 3 → i ≠ j → ∀ z, foot (bx i) (F i) z → ¬ foot (bx j) (F j) z
  pl : ∀ z, pr z → z < w.heap.size

variable {w0 w w' : World} {k : Nat} {bx : Nat → Nat} {F : Nat → Ft} {XS : Nat → List (Vk × Nat)} {FL : Nat → Nat} {pr : Nat → Prop}
theorem Sm.later (h : Sm w0 w k bx F XS FL pr) (hb : Below w.heap.size w w') : Sm w0 w' k bx F XS FL pr :=
  ⟨below_step h.bel hb, fun i hi => ⟨(h.sk i hi).1.later hb, (h.sk i hi).2⟩, h.ft, h.far, fun z hz => Nat.lt_of_lt_of_le (h.pl z hz) hb.size⟩
theorem Sm.op (h : Sm w0 w k bx F XS FL pr) {p : Nat} (hp : p < 3) {F' : Ft} {X' : List (Vk × Nat)} {fl' : Nat} (hS : SkF w' (bx p) k (tot X') F' X' fl' ∧ tot X' ≤ 4611686018427387904) (hK : Ky (foot (bx p) (F p)) w w') (hF : ∀ z, foot (bx p) F' z → foot (bx p) (F p) z ∨ w.heap.size ≤ z) :
    Sm w0 w' k bx (up F p F') (up XS p X') (up FL p fl') pr ∧ ∀ z, pr z → w'.heap[z]? = w.heap[z]? := by
  refine ⟨⟨h.bel.trans (hK.below (fun z hz => (h.ft p hp z hz).1) h.bel.size), fun i hi => ?_, fun i hi z hz => ?_, fun i j hi hj hn z hz hz' => ?_, fun z hz => Nat.lt_of_lt_of_le (h.pl z hz) hK.size⟩, fun z hz => hK.block z (h.pl z hz) fun hf => (h.ft p hp z hf).2 hz⟩
  · by_cases e : i = p
    · subst e; rw [up_same, up_same, up_same]; exact hS
    · rw [up_ne e, up_ne e, up_ne e]
      exact ⟨(h.sk i hi).1.keep fun z hz => hK.block z (SkF.lt (h.sk i hi) hz) (h.far i p hi hp e z hz), (h.sk i hi).2⟩
  · by_cases e : i = p
    · subst e; rw [up_same] at hz
      rcases hF z hz with g | g
      · exact h.ft i hi z g
      · exact ⟨Nat.le_trans h.bel.size g, fun hz' => by have := h.pl z hz'; omega⟩
    · rw [up_ne e] at hz; exact h.ft i hi z hz
  · have key : ∀ j, j < 3 → j ≠ p → foot (bx j) (F j) z → foot (bx p) F' z → False := fun j hj e h1 h2 => by
      rcases hF z h2 with g | g
      · exact h.far j p hj hp e z h1 g
      · have := SkF.lt (h.sk j hj) h1; omega
    by_cases e : i = p
    · subst e
      rw [up_same] at hz
      rw [up_ne (Ne.symm hn)] at hz'
      exact key j hj (Ne.symm hn) hz' hz
    · rw [up_ne e] at hz
      by_cases e' : j = p
      · subst e'
        rw [up_same] at hz'
        exact key i hi e hz hz'
      · rw [up_ne e'] at hz'
        exact h.far i j hi hj hn z hz hz'
/-- A block more that none of them has. -/
theorem Sm.guard (h : Sm w0 w k bx F XS FL pr) {W : World} (hW : Below w.heap.size w W) {g : Option Nat} (hg : ∀ z, g = some z → w.heap.size ≤ z ∧ z < W.heap.size) : Sm w0 W k bx F XS FL (fun z => pr z ∨ g = some z) := by
  have h' := h.later hW
  refine ⟨h'.bel, h'.sk, fun i hi z hz => ⟨(h.ft i hi z hz).1, fun hp => ?_⟩, h.far, fun z hz => ?_⟩
  · rcases hp with hp | hp
    · exact (h.ft i hi z hz).2 hp
    · have := SkF.lt (h.sk i hi) hz; have := (hg z hp).1; omega
  · rcases hz with hz | hz
    · exact h'.pl z hz
    · exact (hg z hz).2
theorem Sm.less (h : Sm w0 w k bx F XS FL pr) {pr' : Nat → Prop} (hp : ∀ z, pr' z → pr z) : Sm w0 w k bx F XS FL pr' := ⟨h.bel, h.sk, fun i hi z hz => ⟨(h.ft i hi z hz).1, fun g => (h.ft i hi z hz).2 (hp z g)⟩, h.far, fun z hz => h.pl z (hp z hz)⟩
/-- A list that is none of theirs is spoilt. -/
theorem Sm.spoil (h : Sm w0 w k bx F XS FL pr) {g : Option Nat} (hg : w.grownBy w' g) (hp : ∀ z, g = some z → pr z ∧ w0.heap.size ≤ z) : Sm w0 w' k bx F XS FL pr :=
  ⟨grown_below h.bel hg fun z hz => (hp z hz).2, fun i hi => ⟨(h.sk i hi).1.keep fun z hz => hg.block z (SkF.lt (h.sk i hi) hz) fun e => (h.ft i hi z hz).2 (hp z e.symm).1, (h.sk i hi).2⟩, h.ft, h.far, fun z hz => Nat.lt_of_lt_of_le (h.pl z hz) hg.size⟩

theorem RdF.keep {w w' : World} {S : Value} {ys : List Cn} (h : RdF w S ys) (hk : ∀ g, S.ownBlock = some g → w'.heap[g]? = w.heap[g]?) : RdF w' S ys := by
  obtain ⟨a, c, e, h⟩ := h
  refine ⟨a, c, e, ?_⟩
  rcases h with h | ⟨g, hg, h⟩
  · exact .inl h
  · have hb := hk g (by rw [e, hg]; rfl)
    have hc : ∀ (j : Nat) (v : Value), w.cell? ⟨g, j, none⟩ = some v → w'.cell? ⟨g, j, none⟩ = some v := fun j v hv => by rw [← hv]; unfold World.cell?; rw [hb]
    exact .inr ⟨g, hg, fun j y hy => by
      obtain ⟨h0, h1, h2, h3, h4⟩ := h j y hy
      exact ⟨hc _ _ h0, hc _ _ h1, hc _ _ h2, hc _ _ h3, hc _ _ h4⟩⟩
/-- What All tells hangs on the counters alone. -/
theorem all_same {k fl : Nat} {E E' : Nat → Nat × Cn} {n n' : Nat} {xs : List (Vk × Nat)} {ys zs : List Cn} (hl : Loose k fl (cts E n) xs) (hx : ClX xs) (hp : (tolds E n).Perm (tolds E' n')) (h1 : ys.Perm (tolds E n)) (h2 : zs.Perm (tolds E' n')) (r1 : ys.Pairwise fun x y => ordC x y ≤ 0) (r2 : zs.Pairwise fun x y => ordC x y ≤ 0) : ys = zs := by
  have hyz : ys.Perm zs := (h1.trans hp).trans h2.symm
  have key : ∀ a ∈ ys, ∀ b ∈ ys, ordC a b ≤ 0 → ordC b a ≤ 0 → a = b := fun a ha b hb hab hba => by
    have e0 : ordV a.key b.key = 0 := by
      have := ord_anti a.key b.key
      unfold ordC at hab hba
      omega
    have e1 := ord_eq e0
    obtain ⟨e, he, rfl⟩ := List.mem_map.1 (h1.mem_iff.1 ha)
    obtain ⟨i, hi, rfl⟩ := List.mem_map.1 he
    obtain ⟨f, hf, rfl⟩ := List.mem_map.1 (h1.mem_iff.1 hb)
    obtain ⟨j, hj, rfl⟩ := List.mem_map.1 hf
    have hi' := List.mem_range.1 hi
    have hj' := List.mem_range.1 hj
    have c1 := hl.clean hx (cts_mem (E := E) hi')
    have c2 := hl.clean hx (cts_mem (E := E) hj')
    have e2 : (E i).2.key = (E j).2.key := by
      have c1' : cleanK (E i).2.key = (E i).2.key := c1
      have c2' : cleanK (E j).2.key = (E j).2.key := c2
      rw [← c1', ← c2', e1]
    rw [once_of hl i j hi' hj' e2]
  clear h1 h2 hp hl hx
  induction ys generalizing zs with
  | nil => exact (List.nil_perm.1 hyz).symm
  | cons a l ih =>
    cases zs with
    | nil => exact absurd (hyz.length_eq) (by simp)
    | cons b m =>
      have hab : a = b := by
        by_cases e : a = b
        · exact e
        · have hb : b ∈ l := by
            have := hyz.mem_iff.2 (List.mem_cons_self (a := b) (l := m))
            rcases List.mem_cons.1 this with g | g
            · exact absurd g.symm e
            · exact g
          have ha : a ∈ m := by
            have := hyz.mem_iff.1 (List.mem_cons_self (a := a) (l := l))
            rcases List.mem_cons.1 this with g | g
            · exact absurd g e
            · exact g
          exact key a List.mem_cons_self b (List.mem_cons_of_mem _ hb) ((List.pairwise_cons.1 r1).1 b hb) ((List.pairwise_cons.1 r2).1 a ha)
      subst hab
      rw [ih (List.pairwise_cons.1 r1).2 (List.pairwise_cons.1 r2).2 hyz.cons_inv fun x hx y hy => key x (List.mem_cons_of_mem _ hx) y (List.mem_cons_of_mem _ hy)]
/-- The second and the third sketch tell the same. -/
structure Tw (w0 w : World) (k : Nat) (bx : Nat → Nat) (F : Nat → Ft) (XS : Nat → List (Vk × Nat)) (FL : Nat → Nat) (pr : Nat → Prop) : Prop where
  sm : Sm w0 w k bx F XS FL pr
  xs : XS 0 = XS 1
  fl : FL 0 = FL 1
  pe : (tolds (F 0).E (F 0).n).Perm (tolds (F 1).E (F 1).n)
  cl : ClX (XS 0)
end Go.Proofs.Ytgmfbjehdcdioaa

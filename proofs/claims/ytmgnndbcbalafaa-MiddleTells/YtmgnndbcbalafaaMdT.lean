import Derived.Test.YtmgnndbcbalafaaMdR
import Derived.Test.YtmgnndbcbalafaaMdQ
set_option linter.unusedSimpArgs false
set_option linter.unusedVariables false
namespace Go.Proofs.Ytmgnndbcbalafaa
open Go.RowKit Go.Sort

/-- The law's memory: the array of sketches bl (q of them are made), the array of lists bm; Xs: what has come to each sketch; Ys: the lists. -/
structure St (w0 w : World) (c q bl bm : Nat) (bx : Nat → Nat) (Ss : Nat → Value) (Lss : Nat → List Value) (Ms : Nat → Value) (Xs Ys : Nat → List Int) : Prop where
  bel : Below w0.heap.size w0 w
  l : w.rowIs bl 25 3 (fun i => if i < q then .pointer (some ⟨bx i, 0, none⟩) else .pointer none)
  m : w.rowIs bm 26 3 Ms
  nl : w0.heap.size ≤ bl
  nm : w0.heap.size ≤ bm
  sk : ∀ i, i < q → SkA w (bx i) c (Ss i) (Lss i) (Xs i)
  ft : ∀ i, i < q → ∀ k, foot (bx i) (Ss i) (Lss i) k → w0.heap.size ≤ k ∧ k ≠ bl ∧ k ≠ bm
  far : ∀ i j, i < q → j < q → i ≠ j → ∀ k, foot (bx i) (Ss i) (Lss i) k → ¬ foot (bx j) (Ss j) (Lss j) k
  ms : ∀ i, i < 3 → ∃ a k, Ms i = .slice a (Ys i).length k ∧ NumAt w a (Ys i) ∧ (a = none → Ys i = [] ∧ k = 0) ∧ ∀ ad, a = some ad → ad.block < w.heap.size ∧ ad.block ≠ bl ∧ ad.block ≠ bm ∧ ∀ j, j < q → ¬ foot (bx j) (Ss j) (Lss j) ad.block

theorem SkA.lt {w : World} {b c : Nat} {S : Value} {Ls : List Value} {xs : List Int} (h : SkA w b c S Ls xs) {k : Nat} (hk : foot b S Ls k) : k < w.heap.size := by
  obtain ⟨lv, h', sl, hM, _⟩ := h
  exact hM.lt hk
theorem NumAt.kept {w w' : World} {a : Option Addr} {zs : List Int} (h : NumAt w a zs) (hk : ∀ ad, a = some ad → w'.heap[ad.block]? = w.heap[ad.block]?) : NumAt w' a zs := by
  rcases h with e | ⟨b, off, rfl, hc⟩
  · exact .inl e
  · refine .inr ⟨b, off, rfl, fun i x hx => ?_⟩
    rw [← hc i x hx]; unfold World.cell?; rw [hk _ rfl]

variable {w0 w w' : World} {c q bl bm : Nat} {bx : Nat → Nat} {Ss : Nat → Value} {Lss : Nat → List Value} {Ms : Nat → Value} {Xs Ys : Nat → List Int}

theorem St.later (h : St w0 w c q bl bm bx Ss Lss Ms Xs Ys) (hb : Below w.heap.size w w') : St w0 w' c q bl bm bx Ss Lss Ms Xs Ys := by
  refine ⟨below_step h.bel hb, rowIs_later h.l hb, rowIs_later h.m hb, h.nl, h.nm, fun i hi => (h.sk i hi).keep fun k hk => hb.block k ((h.sk i hi).lt hk), h.ft, h.far, fun i hi => ?_⟩
  obtain ⟨a, k, e, h1, h2, h3⟩ := h.ms i hi
  exact ⟨a, k, e, h1.later hb, h2, fun ad had => ⟨Nat.lt_of_lt_of_le (h3 ad had).1 hb.size, (h3 ad had).2⟩⟩

/-- A sketch has been added to, or merged into. -/
theorem St.op (h : St w0 w c q bl bm bx Ss Lss Ms Xs Ys) {p : Nat} (hp : p < q) {S' : Value} {Ls' : List Value} {X' : List Int} (hS : SkA w' (bx p) c S' Ls' X') (hK : Ky (foot (bx p) (Ss p) (Lss p)) w w') (hF : ∀ k, foot (bx p) S' Ls' k → foot (bx p) (Ss p) (Lss p) k ∨ w.heap.size ≤ k) :
    St w0 w' c q bl bm bx (up Ss p S') (up Lss p Ls') Ms (up Xs p X') Ys := by
  have hbl : w'.heap[bl]? = w.heap[bl]? := hK.block bl h.l.lt fun hf => (h.ft p hp bl hf).2.1 rfl
  have hbm : w'.heap[bm]? = w.heap[bm]? := hK.block bm h.m.lt fun hf => (h.ft p hp bm hf).2.2 rfl
  have hnew : ∀ k, foot (bx p) S' Ls' k → w0.heap.size ≤ k ∧ k ≠ bl ∧ k ≠ bm := fun k hk => by
    rcases hF k hk with g | g
    · exact h.ft p hp k g
    · have h1 := h.l.lt; have h2 := h.m.lt; have h3 := h.bel.size
      exact ⟨by omega, by omega, by omega⟩
  refine ⟨h.bel.trans (hK.below (fun k hk => (h.ft p hp k hk).1) h.bel.size), h.l.of_block hbl, h.m.of_block hbm, h.nl, h.nm, fun i hi => ?_, fun i hi k hk => ?_, fun i j hi hj hn k hk hk' => ?_, fun i hi => ?_⟩
  · by_cases e : i = p
    · subst e; rw [up_same, up_same, up_same]; exact hS
    · rw [up_ne e, up_ne e, up_ne e]
      exact (h.sk i hi).keep fun k hk => hK.block k ((h.sk i hi).lt hk) (h.far i p hi hp e k hk)
  · by_cases e : i = p
    · subst e; rw [up_same, up_same] at hk; exact hnew k hk
    · rw [up_ne e, up_ne e] at hk; exact h.ft i hi k hk
  · have key : ∀ j, j < q → j ≠ p → foot (bx j) (Ss j) (Lss j) k → foot (bx p) S' Ls' k → False := fun j hj e h1 h2 => by
      rcases hF k h2 with g | g
      · exact h.far j p hj hp e k h1 g
      · have := (h.sk j hj).lt h1; omega
    by_cases e : i = p
    · subst e
      rw [up_same, up_same] at hk
      rw [up_ne (Ne.symm hn), up_ne (Ne.symm hn)] at hk'
      exact key j hj (Ne.symm hn) hk' hk
    · rw [up_ne e, up_ne e] at hk
      by_cases e' : j = p
      · subst e'
        rw [up_same, up_same] at hk'
        exact key i hi e hk hk'
      · rw [up_ne e', up_ne e'] at hk'
        exact h.far i j hi hj hn k hk hk'
  · obtain ⟨a, k, e, h1, h2, h3⟩ := h.ms i hi
    refine ⟨a, k, e, h1.kept fun ad had => hK.block _ (h3 ad had).1 ((h3 ad had).2.2.2 p hp), h2, fun ad had => ⟨Nat.lt_of_lt_of_le (h3 ad had).1 hK.size, (h3 ad had).2.1, (h3 ad had).2.2.1, fun j hj hk => ?_⟩⟩
    by_cases e : j = p
    · subst e
      rw [up_same, up_same] at hk
      rcases hF _ hk with g | g
      · exact (h3 ad had).2.2.2 j hj g
      · have := (h3 ad had).1; omega
    · rw [up_ne e, up_ne e] at hk
      exact (h3 ad had).2.2.2 j hj hk

/-- A new list has been stored. -/
theorem St.put (h : St w0 w c q bl bm bx Ss Lss Ms Xs Ys) (hb : Below w.heap.size w w') {p : Nat} {a : Option Addr} {k : Nat} {Y : List Int} (hN : NumAt w' a Y) (hn : a = none → Y = [] ∧ k = 0) (ha : ∀ ad, a = some ad → w.heap.size ≤ ad.block ∧ ad.block < w'.heap.size) :
    St w0 (w'.setCell ⟨bm, p, none⟩ (.slice a Y.length k)) c q bl bm bx Ss Lss (up Ms p (.slice a Y.length k)) Xs (up Ys p Y) := by
  have h' := h.later hb
  have hbm : bl ≠ bm := fun e => by
    obtain ⟨c1, h1, _⟩ := h.l; obtain ⟨c2, h2, _⟩ := h.m
    rw [e, h2] at h1; simp at h1
  have hfar : ∀ i, i < q → ∀ k, foot (bx i) (Ss i) (Lss i) k → (w'.setCell ⟨bm, p, none⟩ (.slice a Y.length k)).heap[k]? = w'.heap[k]? := fun i hi k hk => Below.heap_setCell _ _ _ _ (h.ft i hi k hk).2.2
  refine ⟨h'.bel.setCell (by simpa using h.nm) _, h'.l.setOther hbm _, (h'.m.set p _).congr fun i hi => ?_, h.nl, h.nm, fun i hi => (h'.sk i hi).keep fun k hk => Below.heap_setCell _ _ _ _ (h.ft i hi k hk).2.2, h.ft, h.far, fun i hi => ?_⟩
  · unfold up; rfl
  · by_cases e : i = p
    · subst e
      rw [up_same, up_same]
      refine ⟨a, k, rfl, hN.kept fun ad had => Below.heap_setCell _ _ _ _ ?_, hn, fun ad had => ⟨by have := (ha ad had).2; simpa [World.setCell] using this, ?_, ?_, fun j hj hk => ?_⟩⟩
      · have := h.m.lt; have := (ha ad had).1; simp; omega
      · have := h.l.lt; have := (ha ad had).1; omega
      · have := h.m.lt; have := (ha ad had).1; omega
      · have := (h.sk j hj).lt hk; have := (ha ad had).1; omega
    · rw [up_ne e, up_ne e]
      obtain ⟨a', k', e', h1, h2, h3⟩ := h'.ms i hi
      exact ⟨a', k', e', h1.kept fun ad had => Below.heap_setCell _ _ _ _ (h3 ad had).2.2.1, h2, fun ad had => ⟨by have := (h3 ad had).1; simpa [World.setCell] using this, (h3 ad had).2⟩⟩

/-- One more is made. -/
theorem St.make (h : St w0 w c q bl bm bx Ss Lss Ms Xs Ys) (hq : q < 3) (hb : Below w.heap.size w w') {b : Nat} {S : Value} {Ls : List Value} (hS : SkA w' b c S Ls []) (hF : ∀ k, foot b S Ls k → w.heap.size ≤ k) :
    St w0 (w'.setCell ⟨bl, q, none⟩ (.pointer (some ⟨b, 0, none⟩))) c (q + 1) bl bm (up bx q b) (up Ss q S) (up Lss q Ls) Ms (up Xs q []) Ys := by
  have h' := h.later hb
  have hbm : bm ≠ bl := fun e => by
    obtain ⟨c1, h1, _⟩ := h.l; obtain ⟨c2, h2, _⟩ := h.m
    rw [e, h1] at h2; simp at h2
  have old : ∀ i, i < q → up bx q b i = bx i ∧ up Ss q S i = Ss i ∧ up Lss q Ls i = Lss i ∧ up Xs q [] i = Xs i := fun i hi => ⟨up_ne (by omega), up_ne (by omega), up_ne (by omega), up_ne (by omega)⟩
  have hnew : ∀ k, foot b S Ls k → w0.heap.size ≤ k ∧ k ≠ bl ∧ k ≠ bm := fun k hk => by
    have := hF k hk; have h1 := h.l.lt; have h2 := h.m.lt; have h3 := h.bel.size
    exact ⟨by omega, by omega, by omega⟩
  refine ⟨h'.bel.setCell (by simpa using h.nl) _, (h'.l.set q _).congr fun i hi => ?_, h'.m.setOther hbm _, h.nl, h.nm, fun i hi => ?_, fun i hi k hk => ?_, fun i j hi hj hn k hk hk' => ?_, fun i hi => ?_⟩
  · by_cases e : i = q
    · subst e; rw [if_pos rfl, if_pos (by omega), up_same]
    · rw [if_neg e]
      by_cases e' : i < q
      · rw [if_pos e', if_pos (by omega), up_ne e]
      · rw [if_neg e', if_neg (by omega)]
  · by_cases e : i = q
    · subst e; rw [up_same, up_same, up_same, up_same]
      exact hS.keep fun k hk => Below.heap_setCell _ _ _ _ (hnew k hk).2.1
    · obtain ⟨e1, e2, e3, e4⟩ := old i (by omega)
      rw [e1, e2, e3, e4]
      exact (h'.sk i (by omega)).keep fun k hk => Below.heap_setCell _ _ _ _ (h.ft i (by omega) k hk).2.1
  · by_cases e : i = q
    · subst e; rw [up_same, up_same, up_same] at hk; exact hnew k hk
    · obtain ⟨e1, e2, e3, _⟩ := old i (by omega)
      rw [e1, e2, e3] at hk; exact h.ft i (by omega) k hk
  · by_cases e : i = q
    · subst e
      obtain ⟨e1, e2, e3, _⟩ := old j (by omega)
      rw [up_same, up_same, up_same] at hk
      rw [e1, e2, e3] at hk'
      have := (h.sk j (by omega)).lt hk'; have := hF k hk; omega
    · obtain ⟨e1, e2, e3, _⟩ := old i (by omega)
      rw [e1, e2, e3] at hk
      by_cases e' : j = q
      · subst e'
        rw [up_same, up_same, up_same] at hk'
        have := (h.sk i (by omega)).lt hk; have := hF k hk'; omega
      · obtain ⟨f1, f2, f3, _⟩ := old j (by omega)
        rw [f1, f2, f3] at hk'
        exact h.far i j (by omega) (by omega) hn k hk hk'
  · obtain ⟨a, k, e, h1, h2, h3⟩ := h'.ms i hi
    refine ⟨a, k, e, h1.kept fun ad had => Below.heap_setCell _ _ _ _ (h3 ad had).2.1, h2, fun ad had => ⟨by have := (h3 ad had).1; simpa [World.setCell] using this, (h3 ad had).2.1, (h3 ad had).2.2.1, fun j hj hk => ?_⟩⟩
    by_cases e' : j = q
    · subst e'
      rw [up_same, up_same, up_same] at hk
      have h5 := hF _ hk
      obtain ⟨a0, k0, e0, _, _, h30⟩ := h.ms i hi
      rw [e] at e0; cases e0
      have := (h30 ad had).1; omega
    · obtain ⟨e1, e2, e3, _⟩ := old j (by omega)
      rw [e1, e2, e3] at hk
      exact (h3 ad had).2.2.2 j (by omega) hk

theorem St.start (w0 : World) (c : Nat) : St w0 ((w0.alloc (.cells #[.pointer none, .pointer none, .pointer none] 25)).alloc (.cells #[.slice none 0 0, .slice none 0 0, .slice none 0 0] 26)) c 0 w0.heap.size (w0.heap.size + 1) (fun _ => 0) (fun _ => .slice none 0 0) (fun _ => []) (fun _ => .slice none 0 0) (fun _ => []) (fun _ => []) := by
  refine ⟨below_alloc (below_alloc (Below.refl _ _) _) _, ?_, ?_, Nat.le_refl _, by omega, fun i hi => by omega, fun i hi => by omega, fun i j hi => by omega, fun i hi => ⟨none, 0, rfl, .inl rfl, fun _ => ⟨rfl, rfl⟩, fun ad had => by cases had⟩⟩
  · refine World.rowIs.alloc (World.rowIs_alloc w0 _ 25 _ fun i hi => ?_) _
    match i, hi with
    | 0, _ => rfl
    | 1, _ => rfl
    | 2, _ => rfl
  · have := World.rowIs_alloc (w0.alloc (.cells #[.pointer none, .pointer none, .pointer none] 25)) #[.slice none 0 0, .slice none 0 0, .slice none 0 0] 26 (fun _ => .slice none 0 0) fun i hi => by
      match i, hi with
      | 0, _ => rfl
      | 1, _ => rfl
      | 2, _ => rfl
    have e : (w0.alloc (.cells #[.pointer none, .pointer none, .pointer none] 25)).heap.size = w0.heap.size + 1 := by simp
    rw [e] at this
    exact this
end Go.Proofs.Ytmgnndbcbalafaa

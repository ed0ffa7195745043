import Derived.Test.YtgmfbjehdcdioaaOhE
import Derived.Test.YtgmfbjehdcdioaaOgE
set_option linter.unusedSimpArgs false
set_option linter.unusedVariables false
set_option maxRecDepth 100000
namespace Go.Proofs.Ytgmfbjehdcdioaa
open Go.RowKit Go.Sort

def up {β : Type} (f : Nat → β) (p : Nat) (v : β) : Nat → β := fun i => if i = p then v else f i
theorem up_same {β : Type} (f : Nat → β) (p : Nat) (v : β) : up f p v p = v := by simp [up]
theorem up_ne {β : Type} {f : Nat → β} {p i : Nat} {v : β} (h : i ≠ p) : up f p v i = f i := by simp [up, h]
theorem SkO.lt {w : World} {b k : Nat} {F : Ft} {xs : List (Vk × Nat)} (h : SkO w b k F xs) {q : Nat} (hq : foot b F q) : q < w.heap.size := by
  obtain ⟨⟨fl, L, hO, _⟩, _⟩ := h
  rcases hq with hq | hq | hq | ⟨i, hi, rfl⟩
  · rw [hq]; exact hO.box.lt
  · obtain ⟨es, clk, hh, _⟩ := hO.map
    rw [hq]; exact (Array.getElem?_eq_some_iff.1 hh).1
  · exact (hO.qu.lst.lt q hq).2
  · exact (hO.qu.ctr i hi).lt
theorem SkO.keep {w w' : World} {b k : Nat} {F : Ft} {xs : List (Vk × Nat)} (h : SkO w b k F xs) (hk : ∀ q, foot b F q → w'.heap[q]? = w.heap[q]?) : SkO w' b k F xs := by
  obtain ⟨⟨fl, L, hO, hL⟩, ht⟩ := h
  refine ⟨⟨fl, L, ⟨hO.box.of_block (hk b (.inl rfl)), hO.qu.keep (hk b (.inl rfl)) fun q hq => hk q (.inr (.inr hq)), hO.ne, ?_, hO.same, hO.heap⟩, hL⟩, ht⟩
  obtain ⟨es, clk, hh, he⟩ := hO.map
  exact ⟨es, clk, by rw [hk F.mb (.inr (.inl rfl))]; exact hh, he⟩

/-- The cells of the counts. -/
def mC (q : Nat) (nb : Nat → Nat) (TS : Nat → Nat) (j : Nat) : Value := if j % 2 = 0 then (if j / 2 < q then .map (some (nb (j / 2))) else .map none) else .int .i64 (TS (j / 2) : Nat)
/-- The law's memory: the array of sketches bl (q of them are made), the array of counts bm. XS: what has come to each sketch; YS: what its map counts; TS: the totals. -/
structure St (w0 w : World) (k q bl bm : Nat) (bx nb : Nat → Nat) (F : Nat → Ft) (LN XS YS : Nat → List (Vk × Nat)) (TS : Nat → Nat) : Prop where
  bel : Below w0.heap.size w0 w
  l : w.rowIs bl 24 3 (fun i => if i < q then .pointer (some ⟨bx i, 0, none⟩) else .pointer none)
  m : w.rowIs bm 28 6 (mC q nb TS)
  nl : w0.heap.size ≤ bl
  nm : w0.heap.size ≤ bm
  sk : ∀ i, i < q → SkO w (bx i) k (F i) (XS i)
  mp : ∀ i, i < q → MpN w (nb i) (LN i) ∧ CtsOf (LN i) (YS i)
  cl : ∀ i, i < q → ClX (XS i)
  ft : ∀ i, i < q → ∀ p, foot (bx i) (F i) p → w0.heap.size ≤ p ∧ p ≠ bl ∧ p ≠ bm ∧ ∀ j, j < q → p ≠ nb j
  far : ∀ i j, i < q → j < q → i ≠ j → ∀ p, foot (bx i) (F i) p → ¬ foot (bx j) (F j) p
  nb0 : ∀ i, i < q → w0.heap.size ≤ nb i ∧ nb i ≠ bl ∧ nb i ≠ bm
  nbn : ∀ i j, i < q → j < q → i ≠ j → nb i ≠ nb j

variable {w0 w w' : World} {k q bl bm : Nat} {bx nb : Nat → Nat} {F : Nat → Ft} {LN XS YS : Nat → List (Vk × Nat)} {TS : Nat → Nat}

theorem St.later (h : St w0 w k q bl bm bx nb F LN XS YS TS) (hb : Below w.heap.size w w') : St w0 w' k q bl bm bx nb F LN XS YS TS :=
  ⟨below_step h.bel hb, rowIs_later h.l hb, rowIs_later h.m hb, h.nl, h.nm, fun i hi => (h.sk i hi).keep fun p hp => hb.block p ((h.sk i hi).lt hp), fun i hi => ⟨(h.mp i hi).1.later hb, (h.mp i hi).2⟩, h.cl, h.ft, h.far, h.nb0, h.nbn⟩

/-- A sketch has been added to, or merged into. -/
theorem St.op (h : St w0 w k q bl bm bx nb F LN XS YS TS) {p : Nat} (hp : p < q) {F' : Ft} {X' : List (Vk × Nat)} (hS : SkO w' (bx p) k F' X') (hcl : ClX X') (hK : Ky (foot (bx p) (F p)) w w') (hF : ∀ z, foot (bx p) F' z → foot (bx p) (F p) z ∨ w.heap.size ≤ z) :
    St w0 w' k q bl bm bx nb (up F p F') LN (up XS p X') YS TS := by
  have hbl : w'.heap[bl]? = w.heap[bl]? := hK.block bl h.l.lt fun hf => (h.ft p hp bl hf).2.1 rfl
  have hbm : w'.heap[bm]? = w.heap[bm]? := hK.block bm h.m.lt fun hf => (h.ft p hp bm hf).2.2.1 rfl
  have hnb : ∀ i, i < q → w'.heap[nb i]? = w.heap[nb i]? := fun i hi => hK.block _ (h.mp i hi).1.lt fun hf => (h.ft p hp _ hf).2.2.2 i hi rfl
  have hnew : ∀ z, foot (bx p) F' z → w0.heap.size ≤ z ∧ z ≠ bl ∧ z ≠ bm ∧ ∀ j, j < q → z ≠ nb j := fun z hz => by
    rcases hF z hz with g | g
    · exact h.ft p hp z g
    · have h1 := h.l.lt; have h2 := h.m.lt; have h3 := h.bel.size
      exact ⟨by omega, by omega, by omega, fun j hj => by have := (h.mp j hj).1.lt; omega⟩
  refine ⟨h.bel.trans (hK.below (fun z hz => (h.ft p hp z hz).1) h.bel.size), h.l.of_block hbl, h.m.of_block hbm, h.nl, h.nm, fun i hi => ?_, fun i hi => ⟨(h.mp i hi).1.keep (hnb i hi), (h.mp i hi).2⟩, fun i hi => ?_, fun i hi z hz => ?_, fun i j hi hj hn z hz hz' => ?_, h.nb0, h.nbn⟩
  · by_cases e : i = p
    · subst e; rw [up_same, up_same]; exact hS
    · rw [up_ne e, up_ne e]
      exact (h.sk i hi).keep fun z hz => hK.block z ((h.sk i hi).lt hz) (h.far i p hi hp e z hz)
  · by_cases e : i = p
    · subst e; rw [up_same]; exact hcl
    · rw [up_ne e]; exact h.cl i hi
  · by_cases e : i = p
    · subst e; rw [up_same] at hz; exact hnew z hz
    · rw [up_ne e] at hz; exact h.ft i hi z hz
  · have key : ∀ j, j < q → j ≠ p → foot (bx j) (F j) z → foot (bx p) F' z → False := fun j hj e h1 h2 => by
      rcases hF z h2 with g | g
      · exact h.far j p hj hp e z h1 g
      · have := (h.sk j hj).lt h1; omega
    by_cases e : i = p
    · subst e
      rw [up_same] at hz
      rw [up_ne (Ne.symm hn)] at hz'
      exact key j hj (Ne.symm hn) hz' hz
    · rw [up_ne e] at hz
      by_cases e' : j = p
      · subst e'
        rw [up_same] at hz'
        exact key i hi e hz hz'
      · rw [up_ne e'] at hz'
        exact h.far i j hi hj hn z hz hz'

/-- A map of counts has been written. -/
theorem St.cnt (h : St w0 w k q bl bm bx nb F LN XS YS TS) {p : Nat} (hp : p < q) {L' Y' : List (Vk × Nat)} (hM : MpN w' (nb p) L') (hC : CtsOf L' Y') (hK : Ky (fun z => z = nb p) w w') :
    St w0 w' k q bl bm bx nb F (up LN p L') XS (up YS p Y') TS := by
  have hb : Below w0.heap.size w0 w' := h.bel.trans (hK.below (fun z hz => by rw [hz]; exact (h.nb0 p hp).1) h.bel.size)
  refine ⟨hb, h.l.of_block (hK.block bl h.l.lt fun e => (h.nb0 p hp).2.1 e.symm), h.m.of_block (hK.block bm h.m.lt fun e => (h.nb0 p hp).2.2 e.symm), h.nl, h.nm, fun i hi => (h.sk i hi).keep fun z hz => hK.block z ((h.sk i hi).lt hz) ((h.ft i hi z hz).2.2.2 p hp), fun i hi => ?_, h.cl, h.ft, h.far, h.nb0, h.nbn⟩
  by_cases e : i = p
  · subst e; rw [up_same, up_same]; exact ⟨hM, hC⟩
  · rw [up_ne e, up_ne e]
    exact ⟨(h.mp i hi).1.keep (hK.block _ (h.mp i hi).1.lt (h.nbn i p hi hp e)), (h.mp i hi).2⟩

/-- A total has been written. -/
theorem St.total (h : St w0 w k q bl bm bx nb F LN XS YS TS) {p : Nat} (hp : p < 3) {t : Int} {T : Nat} (ht : t = (T : Int)) : St w0 (w.setCell ⟨bm, p * 2 + 1, none⟩ (.int .i64 t)) k q bl bm bx nb F LN XS YS (up TS p T) := by
  subst ht
  have hlm : bl ≠ bm := fun e => by
    obtain ⟨c1, h1, _⟩ := h.l; obtain ⟨c2, h2, _⟩ := h.m
    rw [e, h2] at h1; simp at h1
  refine ⟨h.bel.setCell (by simpa using h.nm) _, h.l.setOther hlm _, (h.m.set (p * 2 + 1) _).congr fun i hi => ?_, h.nl, h.nm, fun i hi => (h.sk i hi).keep fun z hz => Below.heap_setCell _ _ _ _ (h.ft i hi z hz).2.2.1, fun i hi => ⟨(h.mp i hi).1.keep (Below.heap_setCell _ _ _ _ (h.nb0 i hi).2.2), (h.mp i hi).2⟩, h.cl, h.ft, h.far, h.nb0, h.nbn⟩
  by_cases e : i = p * 2 + 1
  · rw [if_pos e, e]; unfold mC; rw [if_neg (by omega), show (p * 2 + 1) / 2 = p by omega, up_same]
  · rw [if_neg e]; unfold mC
    by_cases e2 : i % 2 = 0
    · rw [if_pos e2, if_pos e2]
    · rw [if_neg e2, if_neg e2, up_ne (by omega)]

/-- One more is made. -/
theorem St.make (h : St w0 w k q bl bm bx nb F LN XS YS TS) (hq : q < 3) (hb : Below w.heap.size w w') {b : Nat} {Fq : Ft} (hS : SkO w' b k Fq []) (hF : ∀ z, foot b Fq z → w.heap.size ≤ z) (hT : TS q = 0) :
    St w0 (((w'.setCell ⟨bl, q, none⟩ (.pointer (some ⟨b, 0, none⟩))).setCell ⟨bm, q * 2, none⟩ (.map (some w'.heap.size))).alloc (.map #[] 0)) k (q + 1) bl bm (up bx q b) (up nb q w'.heap.size) (up F q Fq) (up LN q []) (up XS q []) (up YS q []) TS := by
  have h' := h.later hb
  have hlm : bl ≠ bm := fun e => by
    obtain ⟨c1, h1, _⟩ := h.l; obtain ⟨c2, h2, _⟩ := h.m
    rw [e, h2] at h1; simp at h1
  have hsz := hb.size
  obtain ⟨X, hX⟩ : ∃ X, (w'.setCell ⟨bl, q, none⟩ (.pointer (some ⟨b, 0, none⟩))).setCell ⟨bm, q * 2, none⟩ (.map (some w'.heap.size)) = X := ⟨_, rfl⟩
  have hXs : X.heap.size = w'.heap.size := by rw [← hX]; simp [World.setCell]
  have hXo : ∀ z, z ≠ bl → z ≠ bm → X.heap[z]? = w'.heap[z]? := fun z h1 h2 => by rw [← hX, Below.heap_setCell _ _ _ _ h2, Below.heap_setCell _ _ _ _ h1]
  have hA : ∀ z, z < w'.heap.size → z ≠ bl → z ≠ bm → (X.alloc (.map #[] 0)).heap[z]? = w'.heap[z]? := fun z h0 h1 h2 => by
    rw [(below_alloc (Below.refl _ X) _).block z (by omega)]; exact hXo z h1 h2
  rw [hX]
  have old : ∀ i, i < q → up bx q b i = bx i ∧ up nb q w'.heap.size i = nb i ∧ up F q Fq i = F i ∧ up LN q [] i = LN i ∧ up XS q [] i = XS i ∧ up YS q [] i = YS i := fun i hi => ⟨up_ne (by omega), up_ne (by omega), up_ne (by omega), up_ne (by omega), up_ne (by omega), up_ne (by omega)⟩
  have hll := h.l.lt
  have hml := h.m.lt
  have hwb := h.bel.size
  have hFl : ∀ z, foot b Fq z → z < w'.heap.size := fun z hz => hS.lt hz
  have hnew : ∀ z, foot b Fq z → w0.heap.size ≤ z ∧ z ≠ bl ∧ z ≠ bm ∧ ∀ j, j < q + 1 → z ≠ up nb q w'.heap.size j := fun z hz => by
    have h1 := hF z hz
    have h2 := hFl z hz
    refine ⟨by omega, by omega, by omega, fun j hj => ?_⟩
    by_cases e : j = q
    · subst e; rw [up_same]; omega
    · rw [up_ne e]; have := (h.mp j (by omega)).1.lt; omega
  have hlX : X.rowIs bl 24 3 (fun i => if i < q + 1 then .pointer (some ⟨up bx q b i, 0, none⟩) else .pointer none) := by
    rw [← hX]
    refine ((h'.l.set q (.pointer (some ⟨b, 0, none⟩))).setOther hlm _).congr fun i hi => ?_
    by_cases e : i = q
    · subst e; rw [if_pos rfl, if_pos (by omega), up_same]
    · rw [if_neg e]
      by_cases e' : i < q
      · rw [if_pos e', if_pos (by omega), up_ne e]
      · rw [if_neg e', if_neg (by omega)]
  have hmX : X.rowIs bm 28 6 (mC (q + 1) (up nb q w'.heap.size) TS) := by
    rw [← hX]
    refine ((h'.m.setOther (Ne.symm hlm) (.pointer (some ⟨b, 0, none⟩))).set (q * 2) _).congr fun i hi => ?_
    unfold mC
    by_cases e : i = q * 2
    · subst e; rw [if_pos rfl, if_pos (by omega), show q * 2 / 2 = q by omega, if_pos (by omega), up_same]
    · rw [if_neg e]
      by_cases e1 : i % 2 = 0
      · rw [if_pos e1, if_pos e1]
        by_cases e2 : i / 2 < q
        · rw [if_pos e2, if_pos (by omega), up_ne (by omega)]
        · rw [if_neg e2, if_neg (by omega)]
      · rw [if_neg e1, if_neg e1]
  refine ⟨?_, World.rowIs.alloc hlX _, World.rowIs.alloc hmX _, h.nl, h.nm, fun i hi => ?_, fun i hi => ?_, fun i hi => ?_, fun i hi z hz => ?_, fun i j hi hj hn z hz hz' => ?_, fun i hi => ?_, fun i j hi hj hn => ?_⟩
  · rw [← hX]
    exact below_alloc ((h'.bel.setCell (by exact h.nl) _).setCell (by exact h.nm) _) _
  · by_cases e : i = q
    · subst e; rw [up_same, up_same, up_same]
      exact hS.keep fun z hz => hA z (hFl z hz) (hnew z hz).2.1 (hnew z hz).2.2.1
    · obtain ⟨e1, _, e3, _, e5, _⟩ := old i (by omega)
      rw [e1, e3, e5]
      have hi' : i < q := by omega
      exact (h'.sk i hi').keep fun z hz => hA z ((h'.sk i hi').lt hz) (h.ft i hi' z hz).2.1 (h.ft i hi' z hz).2.2.1
  · by_cases e : i = q
    · subst e; rw [up_same, up_same, up_same]
      refine ⟨⟨#[], 0, ?_, by simp [EntsN], by simp, by simp⟩, ctsOf_nil⟩
      rw [← hXs]; exact heap_alloc_new _ _
    · obtain ⟨_, e2, _, e4, _, e6⟩ := old i (by omega)
      rw [e2, e4, e6]
      have hi' : i < q := by omega
      exact ⟨(h'.mp i hi').1.keep (hA _ (h'.mp i hi').1.lt (h.nb0 i hi').2.1 (h.nb0 i hi').2.2), (h.mp i hi').2⟩
  · by_cases e : i = q
    · subst e; rw [up_same]; intro z hz; cases hz
    · rw [(old i (by omega)).2.2.2.2.1]; exact h.cl i (by omega)
  · by_cases e : i = q
    · subst e; rw [up_same, up_same] at hz; exact hnew z hz
    · obtain ⟨e1, _, e3, _⟩ := old i (by omega)
      rw [e1, e3] at hz
      obtain ⟨f1, f2, f3, f4⟩ := h.ft i (by omega) z hz
      refine ⟨f1, f2, f3, fun j hj => ?_⟩
      by_cases e' : j = q
      · subst e'; rw [up_same]; have := (h'.sk i (by omega)).lt hz; omega
      · rw [up_ne e']; exact f4 j (by omega)
  · by_cases e : i = q
    · subst e
      obtain ⟨e1, _, e3, _⟩ := old j (by omega)
      rw [up_same, up_same] at hz
      rw [e1, e3] at hz'
      have := (h.sk j (by omega)).lt hz'; have := hF z hz; omega
    · obtain ⟨e1, _, e3, _⟩ := old i (by omega)
      rw [e1, e3] at hz
      by_cases e' : j = q
      · subst e'
        rw [up_same, up_same] at hz'
        have := (h.sk i (by omega)).lt hz; have := hF z hz'; omega
      · obtain ⟨f1, _, f3, _⟩ := old j (by omega)
        rw [f1, f3] at hz'
        exact h.far i j (by omega) (by omega) hn z hz hz'
  · by_cases e : i = q
    · subst e; rw [up_same]; exact ⟨by omega, by omega, by omega⟩
    · rw [(old i (by omega)).2.1]; exact h.nb0 i (by omega)
  · by_cases e : i = q
    · subst e
      rw [up_same, up_ne (Ne.symm hn)]
      have := (h'.mp j (by omega)).1.lt; omega
    · rw [up_ne e]
      by_cases e' : j = q
      · subst e'; rw [up_same]; have := (h'.mp i (by omega)).1.lt; omega
      · rw [up_ne e']; exact h.nbn i j (by omega) (by omega) hn
theorem St.start (w0 : World) (k : Nat) : St w0 ((w0.alloc (.cells #[.pointer none, .pointer none, .pointer none] 24)).alloc (.cells #[.map none, .int .i64 0, .map none, .int .i64 0, .map none, .int .i64 0] 28)) k 0 w0.heap.size (w0.heap.size + 1) (fun _ => 0) (fun _ => 0) (fun _ => ⟨0, .slice none 0 0, 0, fun _ => (0, default)⟩) (fun _ => []) (fun _ => []) (fun _ => []) (fun _ => 0) := by
  refine ⟨below_alloc (below_alloc (Below.refl _ _) _) _, ?_, ?_, Nat.le_refl _, by omega, fun i hi => absurd hi (Nat.not_lt_zero _), fun i hi => absurd hi (Nat.not_lt_zero _), fun i hi => absurd hi (Nat.not_lt_zero _), fun i hi => absurd hi (Nat.not_lt_zero _), fun i j hi => absurd hi (Nat.not_lt_zero _), fun i hi => absurd hi (Nat.not_lt_zero _), fun i j hi => absurd hi (Nat.not_lt_zero _)⟩
  · refine World.rowIs.alloc (World.rowIs_alloc w0 _ 24 _ fun i hi => ?_) _
    match i, hi with
    | 0, _ => rfl
    | 1, _ => rfl
    | 2, _ => rfl
  · have := World.rowIs_alloc (w0.alloc (.cells #[.pointer none, .pointer none, .pointer none] 24)) #[.map none, .int .i64 0, .map none, .int .i64 0, .map none, .int .i64 0] 28 (mC 0 (fun _ => 0) (fun _ => 0)) fun i hi => by
      match i, hi with
      | 0, _ => rfl
      | 1, _ => rfl
      | 2, _ => rfl
      | 3, _ => rfl
      | 4, _ => rfl
      | 5, _ => rfl
    have e : (w0.alloc (.cells #[.pointer none, .pointer none, .pointer none] 24)).heap.size = w0.heap.size + 1 := by simp
    rw [e] at this
    exact this
/-- The law's state between two rows. -/
def At (w0 w : World) (k bl bm : Nat) : Prop := ∃ bx nb F LN XS, St w0 w k 3 bl bm bx nb F LN XS XS (fun i => tot (XS i))
end Go.Proofs.Ytgmfbjehdcdioaa

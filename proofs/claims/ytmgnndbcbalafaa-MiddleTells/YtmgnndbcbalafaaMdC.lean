import Derived.Test.YtmgnndbcbalafaaMdB
set_option linter.unusedSimpArgs false
set_option linter.unusedVariables false
namespace Go.Proofs.Ytmgnndbcbalafaa
open Go.RowKit Go.Sort

theorem Try.info2 : (Try.prog.info? 2).map (fun i => (i.zero, i.size, i.bytes)) = some (some (.int .i64 0), 1, 8) := by kernel_rfl
theorem Try.info23 : (Try.prog.info? 23).map (fun i => (i.zero, i.size, i.bytes)) = some (some (.slice none 0 0), 1, 24) := by kernel_rfl

/-- All blocks are as they were, but those of F. -/
structure Ky (F : Nat → Prop) (w w' : World) : Prop where
  os : w'.os = w.os
  tape : w'.tape = w.tape
  output : w'.output = w.output
  size : w.heap.size ≤ w'.heap.size
  block : ∀ k, k < w.heap.size → ¬ F k → w'.heap[k]? = w.heap[k]?
theorem Ky.refl (F : Nat → Prop) (w : World) : Ky F w w := ⟨rfl, rfl, rfl, Nat.le_refl _, fun _ _ _ => rfl⟩
theorem Ky.trans {F G : Nat → Prop} {a b c : World} (h : Ky F a b) (k : Ky G b c) (hG : ∀ i, G i → F i ∨ a.heap.size ≤ i) : Ky F a c :=
  ⟨k.os.trans h.os, k.tape.trans h.tape, k.output.trans h.output, Nat.le_trans h.size k.size, fun i hi hn =>
    (k.block i (Nat.lt_of_lt_of_le hi h.size) (fun g => by rcases hG i g with g | g; exact hn g; omega)).trans (h.block i hi hn)⟩
theorem Ky.less {F G : Nat → Prop} {a b : World} (h : Ky F a b) (hG : ∀ i, i < a.heap.size → F i → G i) : Ky G a b := ⟨h.os, h.tape, h.output, h.size, fun i hi hn => h.block i hi fun f => hn (hG i hi f)⟩
theorem Ky.of_below {F : Nat → Prop} {w w' : World} (h : Below w.heap.size w w') : Ky F w w' := ⟨h.os, h.tape, h.output, h.size, fun k hk _ => h.block k hk⟩
theorem Ky.of_grown {F : Nat → Prop} {w w' : World} {row : Option Nat} (h : w.grownBy w' row) (hF : ∀ k, row = some k → F k) : Ky F w w' :=
  ⟨h.os, h.tape, h.output, h.size, fun k hk hn => h.block k hk fun e => hn (hF k e.symm)⟩
theorem Ky.below {F : Nat → Prop} {w w' : World} (h : Ky F w w') {n : Nat} (hn : ∀ k, F k → n ≤ k) (hs : n ≤ w.heap.size) : Below n w w' := ⟨h.os, h.tape, h.output, h.size, fun k hk => h.block k (by omega) (fun f => by have := hn k f; omega)⟩
theorem Ky.cell {F : Nat → Prop} {w w' : World} (h : Ky F w w') {b o : Nat} {v : Value} (hc : w.cell? ⟨b, o, none⟩ = some v) (hn : ¬ F b) : w'.cell? ⟨b, o, none⟩ = some v := by
  have hl := World.block_lt_of_cell? _ _ hc
  rw [← hc]; unfold World.cell?; rw [h.block b hl hn]
theorem Ky.num {F : Nat → Prop} {w w' : World} (h : Ky F w w') {a : Option Addr} {zs : List Int} (hc : NumAt w a zs) (hn : ∀ ad, a = some ad → ¬ F ad.block) : NumAt w' a zs := by
  rcases hc with hc | ⟨b, off, ha, hc⟩
  · exact .inl hc
  · exact .inr ⟨b, off, ha, fun i x hx => h.cell (hc i x hx) (hn _ ha)⟩

theorem rowIs_later {w w' : World} {g t n : Nat} {F : Nat → Value} (h : w.rowIs g t n F) (hb : Below w.heap.size w w') : w'.rowIs g t n F := h.of_block (hb.block _ h.lt)
theorem rowIs_grown {w w' : World} {g t n : Nat} {F : Nat → Value} {row : Option Nat} (h : w.rowIs g t n F) (hg : w.grownBy w' row) (hne : some g ≠ row) : w'.rowIs g t n F := h.of_block (hg.block _ h.lt hne)
theorem own_block {w : World} {base e size : Nat} {v : Value} {m : Nat} {xs : List Value} (h : w.ownsRow base e size v m xs) {g : Nat} (hg : v.ownBlock = some g) : ∃ cur, w.heap[g]? = some (.cells cur e (0, 0)) := by
  rcases h.2 with ⟨rfl, _⟩ | ⟨g', cap, cur, rfl, _, hh, _⟩
  · simp [Value.ownBlock] at hg
  · simp [Value.ownBlock] at hg; subst hg; exact ⟨cur, hh⟩
theorem own_ne {w : World} {g t n : Nat} {F : Nat → Value} {base e size : Nat} {v : Value} {m : Nat} {xs : List Value} (h : w.rowIs g t n F) (ho : w.ownsRow base e size v m xs) (hte : t ≠ e) : some g ≠ v.ownBlock := by
  intro hg
  obtain ⟨cur, hc⟩ := own_block ho hg.symm
  obtain ⟨c, hb, _⟩ := h
  rw [hc] at hb
  simp at hb
  exact hte hb.2.symm
theorem own_own {w : World} {base e size base' e' size' : Nat} {v v' : Value} {m m' : Nat} {xs xs' : List Value} (h : w.ownsRow base e size v m xs) (h' : w.ownsRow base' e' size' v' m' xs') (hne : e ≠ e') : v.ownBlock = none ∨ v.ownBlock ≠ v'.ownBlock := by
  cases hv : v.ownBlock with
  | none => exact .inl rfl
  | some g =>
    right
    intro hg
    obtain ⟨c, hc⟩ := own_block h hv
    obtain ⟨c', hc'⟩ := own_block h' hg.symm
    rw [hc] at hc'
    simp at hc'
    exact hne hc'.2
theorem own_keep {w w1 : World} {base e size : Nat} {v : Value} {m : Nat} {xs : List Value} (h : w.ownsRow base e size v m xs) (hb : ∀ g, v.ownBlock = some g → w1.heap[g]? = w.heap[g]?) : w1.ownsRow base e size v m xs := by
  refine ⟨h.1, ?_⟩
  rcases h.2 with h2 | ⟨g, cap, cur, rfl, h3, h4, h5⟩
  · exact .inl h2
  · exact .inr ⟨g, cap, cur, rfl, h3, by rw [hb g rfl]; exact h4, h5⟩
theorem own_later {w w1 : World} {base e size : Nat} {v : Value} {m : Nat} {xs : List Value} (h : w.ownsRow base e size v m xs) (hb : Below w.heap.size w w1) : w1.ownsRow base e size v m xs :=
  own_keep h fun g hg => hb.block g (h.lt g hg).2
theorem num_of_own {w : World} {base e : Nat} {v : Value} {zs : List Int} (h : w.ownsRow base e 1 v zs.length (ints zs)) : ∃ a c, v = .slice a zs.length c ∧ NumAt w a zs ∧ (∀ ad, a = some ad → v.ownBlock = some ad.block) := by
  have hcell := @World.ownsRow.cells w base e 1 v zs.length (ints zs) h
  rcases h.2 with ⟨rfl, h0⟩ | ⟨g, cap, cur, rfl, hb, _⟩
  · have : zs = [] := List.eq_nil_of_length_eq_zero h0
    subst this
    exact ⟨none, 0, rfl, .inl rfl, by simp⟩
  · refine ⟨some ⟨g, 0, none⟩, cap, rfl, .inr ⟨g, 0, rfl, fun i x hx => ?_⟩, by intro ad e; cases e; rfl⟩
    have := hcell (g := g) rfl i (.int .i64 x) (by simp [ints, hx])
    rw [Addr.add_lit, Nat.zero_add] at this
    rw [Nat.zero_add]; exact this
theorem own_cell {w : World} {base e g n cap : Nat} {xs : List Value} (h : w.ownsRow base e 1 (.slice (some ⟨g, 0, none⟩) n cap) n xs) {i : Nat} {v : Value} (hi : xs[i]? = some v) : w.cell? ⟨g, i, none⟩ = some v := by
  have := @World.ownsRow.cells w base e 1 _ n xs h g rfl i v hi
  rw [Addr.add_lit, Nat.zero_add] at this
  exact this
theorem own_frozen {w : World} {base e size g n cap : Nat} {xs : List Value} (h : w.ownsRow base e size (.slice (some ⟨g, 0, none⟩) n cap) n xs) (i : Nat) : w.frozen? ⟨g, i, none⟩ = false := by
  obtain ⟨cur, hc⟩ := own_block h (g := g) rfl
  simp [World.frozen?, hc]
/-- A store into an own list. -/
theorem own_store {w : World} {base e g n cap : Nat} {xs : List Value} (h : w.ownsRow base e 1 (.slice (some ⟨g, 0, none⟩) n cap) n xs) {i : Nat} (hi : i < n) (v : Value) : (w.setCell ⟨g, i, none⟩ v).ownsRow base e 1 (.slice (some ⟨g, 0, none⟩) n cap) n (xs.set i v) := by
  refine ⟨by simpa using h.1, .inr ?_⟩
  rcases h.2 with ⟨h1, _⟩ | ⟨g', cap', cur, he, h3, h4, h5, h6, h7, h8⟩
  · cases h1
  · cases he
    refine ⟨g, cap, cur.setIfInBounds i v, rfl, h3, ?_, h5, h6, by simpa using h7, ?_⟩
    · simp [World.setCell, Array.getElem?_modify, h4]
    · rw [← h8, Array.toList_setIfInBounds]
      rw [Nat.mul_one]
      rw [List.take_set]
theorem own_setO {w : World} {base e size : Nat} {v : Value} {m : Nat} {xs : List Value} (h : w.ownsRow base e size v m xs) {a : Addr} (ha : v.ownBlock ≠ some a.block) (u : Value) : (w.setCell a u).ownsRow base e size v m xs :=
  own_keep h fun g hg => Below.heap_setCell _ _ _ _ (fun e => ha (by rw [hg, e]))

def box4 (a b c d : Value) : Nat → Value
  | 0 => a
  | 1 => b
  | 2 => c
  | _ => d
theorem box4_arr (a b c d : Value) : ∀ i, i < #[a, b, c, d].size → #[a, b, c, d][i]? = some (box4 a b c d i) := by
  intro i hi
  match i, hi with
  | 0, _ => rfl
  | 1, _ => rfl
  | 2, _ => rfl
  | 3, _ => rfl

/-- A sketch in memory: its box b, its levels. -/
structure Mid (w : World) (b c tot sl : Nat) (S : Value) (Ls : List Value) (lv : Nat → List Int) : Prop where
  box : w.rowIs b 41 4 (box4 (.int .i64 c) (.int .i64 tot) (.int .i64 sl) S)
  lst : w.ownsRow 0 23 1 S Ls.length Ls
  own : ∀ (j : Nat) (s : Value), Ls[j]? = some s → w.ownsRow 0 2 1 s (lv j).length (ints (lv j))
  apart : ∀ (i j : Nat) (s t : Value), Ls[i]? = some s → Ls[j]? = some t → i ≠ j → s.ownBlock = none ∨ s.ownBlock ≠ t.ownBlock
  pos : 1 ≤ Ls.length
  beyond : ∀ j, Ls.length ≤ j → lv j = []
/-- What memory it has. -/
def foot (b : Nat) (S : Value) (Ls : List Value) (k : Nat) : Prop := k = b ∨ S.ownBlock = some k ∨ ∃ s ∈ Ls, s.ownBlock = some k

variable {w w' : World} {b c tot sl : Nat} {S : Value} {Ls : List Value} {lv : Nat → List Int}

theorem Mid.keep (h : Mid w b c tot sl S Ls lv) (hk : ∀ k, foot b S Ls k → w'.heap[k]? = w.heap[k]?) : Mid w' b c tot sl S Ls lv :=
  ⟨h.box.of_block (hk b (.inl rfl)), own_keep h.lst fun g hg => hk g (.inr (.inl hg)), fun j s hs => own_keep (h.own j s hs) fun g hg => hk g (.inr (.inr ⟨s, List.mem_of_getElem? hs, hg⟩)), h.apart, h.pos, h.beyond⟩
theorem Mid.lt (h : Mid w b c tot sl S Ls lv) {k : Nat} (hk : foot b S Ls k) : k < w.heap.size := by
  rcases hk with rfl | hk | ⟨s, hs, hk⟩
  · exact h.box.lt
  · exact (h.lst.lt k hk).2
  · obtain ⟨j, hj⟩ := List.getElem?_of_mem hs
    exact ((h.own j s hj).lt k hk).2
theorem Mid.later (h : Mid w b c tot sl S Ls lv) (hb : Below w.heap.size w w') : Mid w' b c tot sl S Ls lv := h.keep fun k hk => hb.block k (h.lt hk)
theorem Mid.ky {F : Nat → Prop} (h : Mid w b c tot sl S Ls lv) (hb : Ky F w w') (hF : ∀ k, foot b S Ls k → ¬ F k) : Mid w' b c tot sl S Ls lv := h.keep fun k hk => hb.block k (h.lt hk) (hF k hk)
theorem Mid.slice (h : Mid w b c tot sl S Ls lv) : ∃ lb cap, S = .slice (some ⟨lb, 0, none⟩) Ls.length cap := by
  rcases h.lst.2 with ⟨_, h0⟩ | ⟨g, cap, cur, he, _⟩
  · have := h.pos; omega
  · exact ⟨g, cap, he⟩
theorem Mid.facts (h : Mid w b c tot sl S Ls lv) : w.cell? ⟨b, 0, none⟩ = some (.int .i64 c) ∧ w.cell? ⟨b, 1, none⟩ = some (.int .i64 tot) ∧ w.cell? ⟨b, 2, none⟩ = some (.int .i64 sl) ∧ w.cell? ⟨b, 3, none⟩ = some S ∧
    w.frozen? ⟨b, 0, none⟩ = false ∧ w.frozen? ⟨b, 1, none⟩ = false ∧ w.frozen? ⟨b, 2, none⟩ = false ∧ w.frozen? ⟨b, 3, none⟩ = false :=
  ⟨h.box.cell (i := 0) (by omega), h.box.cell (i := 1) (by omega), h.box.cell (i := 2) (by omega), h.box.cell (i := 3) (by omega), h.box.frozen _, h.box.frozen _, h.box.frozen _, h.box.frozen _⟩
/-- The box is none of the lists, nor is the list of levels one of them. -/
theorem Mid.boxS (h : Mid w b c tot sl S Ls lv) : some b ≠ S.ownBlock := own_ne h.box h.lst (by decide)
theorem Mid.boxL (h : Mid w b c tot sl S Ls lv) {j : Nat} {s : Value} (hs : Ls[j]? = some s) : some b ≠ s.ownBlock := own_ne h.box (h.own j s hs) (by decide)
theorem Mid.lstL (h : Mid w b c tot sl S Ls lv) {j : Nat} {s : Value} (hs : Ls[j]? = some s) : s.ownBlock ≠ S.ownBlock := by
  intro e
  rcases own_own (h.own j s hs) h.lst (by decide) with k | k
  · obtain ⟨lb, cap, rfl⟩ := h.slice
    rw [k] at e; cases e
  · exact k e
/-- A store into the box. -/
theorem Mid.put (h : Mid w b c tot sl S Ls lv) (i : Nat) (v : Value) {c' tot' sl' : Nat} (he : ∀ j, j < 4 → (if j = i then v else box4 (.int .i64 c) (.int .i64 tot) (.int .i64 sl) S j) = box4 (.int .i64 c') (.int .i64 tot') (.int .i64 sl') S j) :
    Mid (w.setCell ⟨b, i, none⟩ v) b c' tot' sl' S Ls lv :=
  ⟨(h.box.set i v).congr he, own_setO h.lst (fun e => h.boxS e.symm) v, fun j s hs => own_setO (h.own j s hs) (fun e => h.boxL hs e.symm) v, h.apart, h.pos, h.beyond⟩
theorem ky_set {F : Nat → Prop} (w : World) (a : Addr) (v : Value) (hF : F a.block) : Ky F w (w.setCell a v) :=
  ⟨rfl, rfl, rfl, by simp [World.setCell], fun k _ hn => Below.heap_setCell _ _ _ _ (fun e => hn (by rw [e]; exact hF))⟩

/-- One level more: the list of levels has been appended to, and its box's cell is written. -/
theorem Mid.push (h : Mid w b c tot sl S Ls lv) {w1 : World} {S' : Value} {g cap : Nat} (hS : S' = .slice (some ⟨g, 0, none⟩) (Ls.length + 1) cap) (ho : w1.ownsRow 0 23 1 S' (Ls.length + 1) (Ls ++ [.slice none 0 0])) (hg : w.grownBy w1 S.ownBlock) :
    Mid (w1.setCell ⟨b, 3, none⟩ S') b c tot sl S' (Ls ++ [.slice none 0 0]) lv ∧ Ky (foot b S Ls) w (w1.setCell ⟨b, 3, none⟩ S') := by
  have hb1 : w1.rowIs b 41 4 (box4 (.int .i64 c) (.int .i64 tot) (.int .i64 sl) S) := rowIs_grown h.box hg h.boxS
  have hne : some b ≠ S'.ownBlock := own_ne hb1 ho (by decide)
  refine ⟨⟨(hb1.set 3 S').congr fun i hi => ?_, ?_, fun j s hs => ?_, fun i j s t hi hj hn => ?_, by simp, fun j hj => h.beyond j (by simp at hj; omega)⟩, ?_⟩
  · match i, hi with
    | 0, _ => rfl
    | 1, _ => rfl
    | 2, _ => rfl
    | 3, _ => rfl
  · rw [List.length_append]; exact own_setO ho (fun e => hne e.symm) _
  · rcases Nat.lt_or_ge j Ls.length with hj | hj
    · rw [List.getElem?_append_left hj] at hs
      have h1 := own_keep (h.own j s hs) (w1 := w1) fun g hg' => hg.block g ((h.own j s hs).lt g hg').2 (fun e => h.lstL hs (by rw [hg', e]))
      exact own_setO h1 (fun e => h.boxL hs e.symm) _
    · have hj' : j = Ls.length := by
        have := (List.getElem?_eq_some_iff.1 hs).1
        simp at this; omega
      subst hj'
      simp at hs; subst hs
      rw [h.beyond _ (Nat.le_refl _)]
      exact World.ownsRow_nil _ _ _ _
  · have key : ∀ (i : Nat) (s : Value), (Ls ++ [Value.slice none 0 0])[i]? = some s → Ls[i]? = some s ∨ (s.ownBlock = none) := fun i s hi => by
      rcases Nat.lt_or_ge i Ls.length with hj | hj
      · rw [List.getElem?_append_left hj] at hi; exact .inl hi
      · rw [List.getElem?_append_right hj] at hi
        have : i - Ls.length = 0 := by
          have := (List.getElem?_eq_some_iff.1 hi).1
          simp at this; omega
        rw [this] at hi; simp at hi; subst hi; exact .inr rfl
    rcases key i s hi with h1 | h1
    · rcases key j t hj with h2 | h2
      · exact h.apart i j s t h1 h2 hn
      · rw [h2]; cases hh : s.ownBlock with
        | none => exact .inl rfl
        | some k => exact .inr (by simp)
    · exact .inl h1
  · exact (Ky.of_grown (F := foot b S Ls) hg fun k hk => .inr (.inl hk)).trans (ky_set (F := foot b S Ls) w1 ⟨b, 3, none⟩ S' (.inl rfl)) fun i hi => .inl hi
/-- A level has been written. -/
theorem Mid.level (h : Mid w b c tot sl S Ls lv) {w1 : World} {lb cap i : Nat} {s s' : Value} {zs : List Int} (hS : S = .slice (some ⟨lb, 0, none⟩) Ls.length cap) (hs : Ls[i]? = some s)
    (ho : w1.ownsRow 0 2 1 s' zs.length (ints zs)) (hg : w.grownBy w1 s.ownBlock) (hb : s'.ownBlock = s.ownBlock ∨ ∃ k, s'.ownBlock = some k ∧ w.heap.size ≤ k) :
    Mid (w1.setCell ⟨lb, i, none⟩ s') b c tot sl S (Ls.set i s') (up lv i zs) ∧ Ky (foot b S Ls) w (w1.setCell ⟨lb, i, none⟩ s') := by
  have hi : i < Ls.length := (List.getElem?_eq_some_iff.1 hs).1
  have hSo : S.ownBlock = some lb := by rw [hS]; rfl
  have hb1 : w1.rowIs b 41 4 (box4 (.int .i64 c) (.int .i64 tot) (.int .i64 sl) S) := rowIs_grown h.box hg (h.boxL hs)
  have hl1 : w1.ownsRow 0 23 1 S Ls.length Ls := own_keep h.lst fun g hg' => hg.block g (h.lst.lt g hg').2 (fun e => h.lstL hs (by rw [hg', e]))
  have hne : s'.ownBlock ≠ some lb := by
    intro e
    rcases own_own ho hl1 (by decide) with k | k
    · rw [k] at e; cases e
    · exact k (by rw [e, hSo])
  refine ⟨⟨hb1.setOther (fun e => h.boxS (by rw [hSo]; exact congrArg some e)) s', ?_, fun j t ht => ?_, fun j k t u hj hk hn => ?_, by simpa using h.pos, fun j hj => ?_⟩, ?_⟩
  · rw [List.length_set]; subst hS; exact own_store hl1 hi s'
  · by_cases e : j = i
    · subst e
      rw [List.getElem?_set_self hi] at ht
      cases ht
      rw [up_same]
      exact own_setO ho hne _
    · rw [List.getElem?_set_ne (by omega)] at ht
      rw [up_ne e]
      have h1 := own_keep (h.own j t ht) (w1 := w1) fun g hg' => hg.block g ((h.own j t ht).lt g hg').2 (fun e' => by
        rcases h.apart j i t s ht hs e with k | k
        · rw [k] at hg'; cases hg'
        · exact k (by rw [hg', e']))
      exact own_setO h1 (fun e' => h.lstL ht (by rw [hSo]; exact e')) _
  · have key : ∀ (j : Nat) (t : Value), j ≠ i → Ls[j]? = some t → (t.ownBlock = none ∨ t.ownBlock ≠ s'.ownBlock) := fun j t hj ht => by
      rcases hb with hb | ⟨g, hb, hge⟩
      · rw [hb]; exact h.apart j i t s ht hs hj
      · cases ht' : t.ownBlock with
        | none => exact .inl rfl
        | some q =>
          right; rw [hb]
          have := ((h.own j t ht).lt q ht').2
          intro e; cases e; omega
    by_cases e : j = i
    · subst e
      rw [List.getElem?_set_self hi] at hj; cases hj
      rw [List.getElem?_set_ne (by omega)] at hk
      rcases key k u (by omega) hk with q | q
      · rw [q]; cases s'.ownBlock with
        | none => exact .inl rfl
        | some _ => exact .inr (by simp)
      · exact .inr fun e => q e.symm
    · rw [List.getElem?_set_ne (by omega)] at hj
      by_cases e' : k = i
      · subst e'
        rw [List.getElem?_set_self hi] at hk; cases hk
        exact key j t e hj
      · rw [List.getElem?_set_ne (by omega)] at hk
        exact h.apart j k t u hj hk hn
  · rw [List.length_set] at hj; rw [up_ne (by omega)]; exact h.beyond j hj
  · exact (Ky.of_grown (F := foot b S Ls) hg fun k hk => .inr (.inr ⟨s, List.mem_of_getElem? hs, hk⟩)).trans (ky_set (F := foot b S Ls) w1 ⟨lb, i, none⟩ s' (.inr (.inl hSo))) fun i hi => .inl hi
end Go.Proofs.Ytmgnndbcbalafaa

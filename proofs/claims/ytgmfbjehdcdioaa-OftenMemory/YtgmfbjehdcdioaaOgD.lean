import Derived.Test.YtgmfbjehdcdioaaOgC
set_option linter.unusedSimpArgs false
set_option linter.unusedVariables false
set_option maxRecDepth 100000
namespace Go.Proofs.Ytgmfbjehdcdioaa
open Go.RowKit Go.Sort

theorem own_zero {w : World} {base e size n : Nat} {v : Value} {xs : List Value} (h : w.ownsRow base e size v n xs) : w.ownsRow 0 e size v n xs :=
  ⟨h.1, by
    rcases h.2 with h2 | ⟨g, cap, cur, h3, _, h5⟩
    · exact .inl h2
    · exact .inr ⟨g, cap, cur, h3, Nat.zero_le _, h5⟩⟩
theorem grown_below {w wc w' : World} {r : Option Nat} (hb : Below w.heap.size w wc) (hg : wc.grownBy w' r) (hr : ∀ g, r = some g → w.heap.size ≤ g) : Below w.heap.size w w' :=
  ⟨hg.os.trans hb.os, hg.tape.trans hb.tape, hg.output.trans hb.output, Nat.le_trans hb.size hg.size, fun k hk => by
    have := hb.size
    rw [hg.block k (by omega) (fun e => by have := hr k e.symm; omega)]; exact hb.block k hk⟩

/-- Merge, under way: new counters in a list of its own, the floor in a box of its own. -/
structure MgS (w wc : World) (T : Value) (m : Nat) (G : Nat → Nat × Cn) (fb fl : Nat) : Prop where
  own : wc.ownsRow w.heap.size 57 1 T m (ptrs G m)
  ctr : ∀ i, i < m → wc.rowIs (G i).1 60 6 (box6 (G i).2 0)
  new : ∀ i, i < m → w.heap.size ≤ (G i).1
  nod : ∀ i j, i < m → j < m → (G i).1 = (G j).1 → i = j
  box : wc.rowIs fb 2 1 (fun _ => .int .i64 fl)
  fnew : w.heap.size ≤ fb
  bel : Below w.heap.size w wc
theorem MgS.later {w wc w' : World} {T : Value} {m fb fl : Nat} {G : Nat → Nat × Cn} (h : MgS w wc T m G fb fl) (hb : Below wc.heap.size wc w') : MgS w w' T m G fb fl :=
  ⟨own_later h.own hb, fun i hi => rowIs_later (h.ctr i hi) hb, h.new, h.nod, rowIs_later h.box hb, h.fnew, below_step h.bel hb⟩
theorem MgS.slice {w wr : World} {T : Value} {m fb fl : Nat} {G : Nat → Nat × Cn} (h : MgS w wr T m G fb fl) : ∃ a c, T = .slice a m c := by
  rcases h.own.2 with ⟨e, h0⟩ | ⟨g, cap, cur, he, _⟩
  · rw [← h0] at e; exact ⟨_, _, e⟩
  · exact ⟨_, _, he⟩
theorem MgS.ne {w wr : World} {T : Value} {m fb fl : Nat} {G : Nat → Nat × Cn} (h : MgS w wr T m G fb fl) : (∀ i, i < m → T.ownBlock ≠ some (G i).1) ∧ T.ownBlock ≠ some fb ∧ ∀ i, i < m → (G i).1 ≠ fb := by
  refine ⟨fun i hi e => own_ne (h.ctr i hi) h.own (by decide) e.symm, fun e => own_ne h.box h.own (by decide) e.symm, fun i hi e => ?_⟩
  obtain ⟨c, hc, _⟩ := h.ctr i hi
  obtain ⟨c', hc', _⟩ := h.box
  rw [e, hc'] at hc
  simp at hc
theorem MgS.high {w wr : World} {T : Value} {m fb fl : Nat} {G : Nat → Nat × Cn} (h : MgS w wr T m G fb fl) {i : Nat} (hi : i < m) : wr.cell? ⟨(G i).1, 4, none⟩ = some (.int .i64 (G i).2.hi) := (h.ctr i hi).cell (i := 4) (by omega)
theorem MgS.floor {w wr : World} {T : Value} {m fb fl : Nat} {G : Nat → Nat × Cn} (h : MgS w wr T m G fb fl) : wr.cell? ⟨fb, 0, none⟩ = some (.int .i64 fl) ∧ wr.frozen? ⟨fb, 0, none⟩ = false := ⟨h.box.cell (i := 0) (by omega), h.box.frozen 0⟩
theorem box1_alloc (W : World) {c : Int} {fl : Nat} (hc : c = (fl : Int)) : (W.alloc (.cells #[.int .i64 c] 2)).rowIs W.heap.size 2 1 (fun _ => .int .i64 fl) := by
  subst hc
  refine World.rowIs_alloc W _ 2 _ fun i hi => ?_
  match i, hi with
  | 0, _ => rfl
/-- together first, then the box. -/
theorem MgS.first {w w2 : World} {T : Value} {m fl : Nat} {G : Nat → Nat × Cn} {l : List (Ct Vk)} (h : TgS w w2 T m G l) {c : Int} (hc : c = (fl : Int)) : MgS w (w2.alloc (.cells #[.int .i64 c] 2)) T m G w2.heap.size fl :=
  let h1 := h.later (below_alloc (Below.refl _ w2) (.cells #[.int .i64 c] 2))
  ⟨h1.own, h1.ctr, h1.new, h1.nod, box1_alloc w2 hc, h.bel.size, h1.bel⟩
/-- The box first. -/
theorem MgS.last {w W w2 : World} {T : Value} {m fl bx : Nat} {G : Nat → Nat × Cn} {l : List (Ct Vk)} (h : TgS W w2 T m G l) (hW : Below w.heap.size w W) (hbx : ∃ c0 : Int, W.rowIs bx 2 1 (fun _ => .int .i64 c0)) (hn : w.heap.size ≤ bx) {c : Int} (hc : c = (fl : Int)) : MgS w (w2.setCell ⟨bx, 0, none⟩ (.int .i64 c)) T m G bx fl := by
  subst hc
  obtain ⟨c0, hbx⟩ := hbx
  have hb2 : w2.rowIs bx 2 1 (fun _ => .int .i64 c0) := hbx.of_block (h.bel.block _ hbx.lt)
  have hwW := hW.size
  have hlt := hbx.lt
  refine ⟨?_, fun i hi => (h.ctr i hi).setOther (fun e => by have h9 := h.new i hi; rw [e] at h9; exact absurd hlt (Nat.not_lt.2 h9)) _, fun i hi => Nat.le_trans hwW (h.new i hi), h.nod, ?_, hn, ?_⟩
  · refine own_setO ⟨h.own.1, ?_⟩ (fun e => by have := (h.own.lt _ e).1; simp at this; omega) _
    rcases h.own.2 with h2 | ⟨g, cap, cur, h3, h4, h5⟩
    · exact .inl h2
    · exact .inr ⟨g, cap, cur, h3, Nat.le_trans hwW h4, h5⟩
  · refine (hb2.set 0 _).congr fun i hi => ?_
    match i, hi with
    | 0, _ => rfl
  · have h1 : Below w.heap.size w w2 := hW.trans (h.bel.mono hwW)
    exact h1.setCell (by exact hn) _
/-- Sorted. -/
theorem MgS.sorted {w wc w4 : World} {T : Value} {m fb fl : Nat} {G : Nat → Nat × Cn} {σ : Nat → Nat} (h : MgS w wc T m G fb fl) (hs : SrtA wc w4 w.heap.size T m G σ) : MgS w w4 T m (fun i => G (σ i)) fb fl := by
  obtain ⟨n1, n2, _⟩ := h.ne
  refine ⟨hs.own, fun i hi => ?_, fun i hi => h.new _ (hs.inn i hi), fun i j hi hj e => hs.inj i j hi hj (h.nod _ _ (hs.inn i hi) (hs.inn j hj) e), ?_, h.fnew, grown_below h.bel hs.grown fun g hg => (h.own.lt g hg).1⟩
  · have hr := h.ctr _ (hs.inn i hi)
    exact hr.of_block (hs.grown.block _ hr.lt fun e => n1 _ (hs.inn i hi) e.symm)
  · exact h.box.of_block (hs.grown.block _ h.box.lt fun e => n2 e.symm)
/-- The floor rises. -/
theorem MgS.raised {w wc : World} {T : Value} {m fb fl f' : Nat} {G : Nat → Nat × Cn} (h : MgS w wc T m G fb fl) : MgS w (wc.setCell ⟨fb, 0, none⟩ (.int .i64 f')) T m G fb f' := by
  obtain ⟨n1, n2, n3⟩ := h.ne
  refine ⟨own_setO h.own (a := ⟨fb, 0, none⟩) n2 _, fun i hi => (h.ctr i hi).setOther (a := ⟨fb, 0, none⟩) (n3 i hi) _, h.new, h.nod, ?_, h.fnew, h.bel.setCell (by exact h.fnew) _⟩
  refine (h.box.set 0 _).congr fun i hi => ?_
  match i, hi with
  | 0, _ => rfl
/-- The first d go. -/
theorem MgS.cut {w wc w5 : World} {g cap m fb fl d : Nat} {G : Nat → Nat × Cn} {e : Ending} (h : MgS w wc (.slice (some ⟨g, 0, none⟩) m cap) m G fb fl) (hd : DlA wc w.heap.size g cap m G d e w5) : MgS w w5 (.slice (some ⟨g, 0, none⟩) (m - d) cap) (m - d) (fun i => G (i + d)) fb fl := by
  obtain ⟨n1, n2, n3⟩ := h.ne
  obtain ⟨_, h2, h3⟩ := hd
  refine ⟨h2, fun i hi => ?_, fun i hi => h.new _ (by omega), fun i j hi hj e => ?_, ?_, h.fnew, grown_below h.bel h3 fun q hq => (h.own.lt q hq).1⟩
  · have hr := h.ctr (i + d) (by omega)
    exact hr.of_block (h3.block _ hr.lt fun e => n1 (i + d) (by omega) (by rw [e]; rfl))
  · have := h.nod (i + d) (j + d) (by omega) (by omega) e
    omega
  · exact h.box.of_block (h3.block _ h.box.lt fun e => n2 (by rw [e]; rfl))

theorem cut_ex (h : Nat → Nat) (fl : Nat) : ∀ (m : Nat), (∀ i j, i < j → j < m → h i ≤ h j) → ∃ d, d ≤ m ∧ (∀ i, i < d → h i ≤ fl) ∧ ∀ i, d ≤ i → i < m → fl < h i
  | 0, _ => ⟨0, Nat.le_refl _, fun i hi => absurd hi (Nat.not_lt_zero _), fun i _ hi => absurd hi (Nat.not_lt_zero _)⟩
  | m + 1, hr => by
    obtain ⟨d, hd, h1, h2⟩ := cut_ex h fl m fun i j hij hj => hr i j hij (by omega)
    by_cases e : d = m
    · by_cases e2 : h m ≤ fl
      · exact ⟨m + 1, Nat.le_refl _, fun i hi => by
          by_cases e3 : i = m
          · rw [e3]; exact e2
          · exact h1 i (by omega), fun i hi hi' => by omega⟩
      · exact ⟨m, by omega, fun i hi => h1 i (by omega), fun i hi hi' => by
          have : i = m := by omega
          rw [this]; omega⟩
    · refine ⟨d, by omega, h1, fun i hi hi' => ?_⟩
      by_cases e3 : i = m
      · rw [e3]
        have := h2 (m - 1) (by omega) (by omega)
        have := hr (m - 1) m (by omega) (by omega)
        omega
      · exact h2 i hi (by omega)
theorem lisE_split (F : Nat → Nat × Cn) {d m : Nat} (hd : d ≤ m) : lisE F m = lisE F d ++ lisE (fun i => F (i + d)) (m - d) := by
  apply List.ext_getElem?
  intro q
  by_cases hq : q < m
  · rw [lisE_at _ hq]
    by_cases h1 : q < d
    · rw [List.getElem?_append_left (by rw [lisE_len]; exact h1), lisE_at _ h1]
    · rw [List.getElem?_append_right (by rw [lisE_len]; omega), lisE_len, lisE_at _ (by omega)]
      show some (F q) = some (F (q - d + d))
      rw [Nat.sub_add_cancel (by omega)]
  · rw [List.getElem?_eq_none (by simp [lisE_len]; omega), List.getElem?_eq_none (by simp [lisE_len]; omega)]
/-- Those that are left of counters that rise are just those above the floor. -/
theorem cts_cut (F : Nat → Nat × Cn) {d m fl : Nat} (hd : d ≤ m) (h1 : ∀ i, i < d → (F i).2.hi ≤ fl) (h2 : ∀ i, d ≤ i → i < m → fl < (F i).2.hi) : (cts F m).filter (fun c => decide (fl < c.hi)) = cts (fun i => F (i + d)) (m - d) := by
  unfold cts
  rw [lisE_split F hd, List.map_append, List.filter_append]
  have e1 : ((lisE F d).map ctOf).filter (fun c => decide (fl < c.hi)) = [] := by
    rw [List.filter_eq_nil_iff]
    intro c hc
    obtain ⟨e, he, rfl⟩ := List.mem_map.1 hc
    obtain ⟨i, hi, rfl⟩ := List.mem_map.1 he
    have := h1 i (List.mem_range.1 hi)
    simp only [decide_eq_true_eq]; show ¬ fl < (F i).2.hi; omega
  have e2 : ((lisE (fun i => F (i + d)) (m - d)).map ctOf).filter (fun c => decide (fl < c.hi)) = (lisE (fun i => F (i + d)) (m - d)).map ctOf := by
    rw [List.filter_eq_self]
    intro c hc
    obtain ⟨e, he, rfl⟩ := List.mem_map.1 hc
    obtain ⟨i, hi, rfl⟩ := List.mem_map.1 he
    have hi' := List.mem_range.1 hi
    exact decide_eq_true (h2 (i + d) (by omega) (by omega))
  rw [e1, e2]; rfl
theorem cts_many (F : Nat → Nat × Cn) {s m fl : Nat} (hs : s ≤ m) (h2 : ∀ i, s ≤ i → i < m → fl ≤ (F i).2.hi) : m - s ≤ (cts F m).countP (fun c => decide (fl ≤ c.hi)) := by
  unfold cts
  rw [lisE_split F hs, List.map_append, List.countP_append]
  have e2 : ((lisE (fun i => F (i + s)) (m - s)).map ctOf).countP (fun c => decide (fl ≤ c.hi)) = m - s := by
    have : ((lisE (fun i => F (i + s)) (m - s)).map ctOf).length = m - s := by rw [List.length_map, lisE_len]
    refine (List.countP_eq_length.2 ?_).trans this
    intro c hc
    obtain ⟨e, he, rfl⟩ := List.mem_map.1 hc
    obtain ⟨i, hi, rfl⟩ := List.mem_map.1 he
    have hi' := List.mem_range.1 hi
    exact decide_eq_true (h2 (i + s) (by omega) (by omega))
  omega
theorem heap_rises {F : Nat → Nat × Cn} {m : Nat} (h : ∀ i j, i < j → j < m → (F i).2.hi ≤ (F j).2.hi) : Heap m (keyE F) := fun c h0 hc => h _ _ (by omega) hc

/-- What Merge leaves. -/
def MgA (w : World) (bo k : Nat) (zs : List (Vk × Nat)) (w' : World) : Prop := ∃ F', SkO w' bo k F' zs ∧ Ky (fun q => q = bo) w w' ∧ ∀ q, foot bo F' q → q = bo ∨ w.heap.size ≤ q

/-- keep, at the end. -/
theorem merge_end {w wc W : World} {bo k To fo mo no tt fl fb n : Nat} {So T : Value} {Eo E : Nat → Nat × Cn} {Lo zs : List (Vk × Nat)} (ho : Of w bo k To fo mo So no Eo Lo) (hm : MgS w wc T n E fb fl) (hl : Loose k fl (cts E n) zs) (hn : n ≤ k) (hk : k ≤ 1024) (hH : Heap n (keyE E)) (ht : tot zs = tt) (ht2 : tt ≤ 4611686018427387904)
    (hW : Below ((wc.setCell ⟨bo, 1, none⟩ (.int .i64 tt)).setCell ⟨bo, 2, none⟩ (.int .i64 fl)).heap.size ((wc.setCell ⟨bo, 1, none⟩ (.int .i64 tt)).setCell ⟨bo, 2, none⟩ (.int .i64 fl)) W) :
    Calls Try.prog 22 #[.pointer (some ⟨bo, 0, none⟩), T] W fun e w' => e = .returned (.tuple #[]) ∧ MgA w bo k zs w' := by
  have hbl := ho.box.lt
  have hbx : W.rowIs bo 54 5 (box5 (.int .i64 k) (.int .i64 tt) (.int .i64 fl) (.map (some mo)) So) := by
    have h1 : wc.rowIs bo 54 5 _ := ho.box.of_block (hm.bel.block bo hbl)
    refine rowIs_later (((h1.set 1 (.int .i64 tt)).set 2 (.int .i64 fl)).congr fun i hi => ?_) hW
    match i, hi with
    | 0, _ => rfl
    | 1, _ => rfl
    | 2, _ => rfl
    | 3, _ => rfl
    | 4, _ => rfl
  have hbT : T.ownBlock ≠ some bo := fun e => by have := (hm.own.lt bo e).1; omega
  have hls : W.ownsRow 0 57 1 T n (ptrs E n) := own_zero (own_later (own_setO (own_setO hm.own (a := ⟨bo, 1, none⟩) hbT _) (a := ⟨bo, 2, none⟩) hbT _) hW)
  have hbE : ∀ j, j < n → (E j).1 ≠ bo := fun j hj e => by have := hm.new j hj; omega
  have hct : ∀ j, j < n → ∃ pl : Nat, W.rowIs (E j).1 60 6 (box6 (E j).2 pl) := fun j hj => ⟨0, rowIs_later (((hm.ctr j hj).setOther (a := ⟨bo, 1, none⟩) (hbE j hj) _).setOther (a := ⟨bo, 2, none⟩) (hbE j hj) _) hW⟩
  have hne : ∀ q, fq T n E q → q ≠ bo := fun q hq => by
    rcases hq with hq | ⟨i, hi, rfl⟩
    · exact fun e => hbT (by rw [hq, e])
    · exact hbE i hi
  have hWk : Ky (fun q => q = bo) w W := by
    have k1 : Ky (fun q => q = bo) w wc := Ky.of_below hm.bel
    have k2 : Ky (fun q => q = bo) wc ((wc.setCell ⟨bo, 1, none⟩ (.int .i64 tt)).setCell ⟨bo, 2, none⟩ (.int .i64 fl)) := (ky_set (F := fun q => q = bo) wc ⟨bo, 1, none⟩ _ rfl).trans (ky_set (F := fun q => q = bo) _ ⟨bo, 2, none⟩ _ rfl) fun i hi => .inl hi
    exact (k1.trans k2 fun i hi => .inl hi).trans (Ky.of_below (F := fun q => q = bo) hW) fun i hi => .inl hi
  refine (keep_any hbx hls hct hne hm.nod (once_of hl) hH (by omega)).mono ?_
  rintro e w' ⟨rfl, mb, hmb, h1, h2⟩
  have hsz := hWk.size
  refine ⟨rfl, ⟨mb, T, n, E⟩, ⟨⟨fl, entsE E n, by rw [ht]; exact h1, hl, hn⟩, by rw [ht]; exact ht2⟩, hWk.trans h2 fun q hq => ?_, fun q hq => ?_⟩
  · rcases hq with hq | ⟨j, hj, rfl⟩
    · exact .inl hq
    · exact .inr (hm.new j hj)
  · rcases hq with hq | hq | hq | ⟨j, hj, rfl⟩
    · exact .inl hq
    · exact .inr (by show w.heap.size ≤ q; rw [hq]; exact Nat.le_trans hsz hmb)
    · exact .inr (hm.own.lt q hq).1
    · exact .inr (hm.new j hj)
end Go.Proofs.Ytgmfbjehdcdioaa

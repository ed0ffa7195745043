import Derived.Test.YtmjeiepljlepbacGreatFdD
import Derived.Test.YtmjeiepljlepbacGreatRmJ
import Derived.Lib.SlicesCompact
import Derived.Sort.OwnSortedInts
import Derived.Lib.OwnBridge
import Derived.Test.YtmjeiepljlepbacGreatExO
set_option linter.unusedSimpArgs false
set_option linter.unusedVariables false
set_option maxRecDepth 100000
namespace Go.Proofs.YtmjeiepljlepbacGreat
open Go.RowKit Go.Sort

/-- What lies in the blocks from lo on, but N. -/
def ExN (lo : Nat) (N : List Nat) (w : World) (a : Option Addr) (l : List Ex) : Prop := ∀ W', Kept lo N w W' → Ex.all W' a l
/-- What Parts answers: a list of its own. -/
def PartsG (w : World) (e : Ex) (K : Nat → World → Nd → Prop) (r : Ending) (w' : World) : Prop := ∃ (g cap : Nat) (L : List Nd), r = .returned (.slice (some ⟨g, 0, none⟩) L.length cap) ∧ OwnE w' w.heap.size (.slice (some ⟨g, 0, none⟩) L.length cap) L ∧ L.map (·.1) = partsE e ∧ (∀ q ∈ L, K g w' q) ∧ Below w.heap.size w w'
/-- It holds where elder memory is as it was. -/
def PartsOk (w : World) (e : Ex) : Ending → World → Prop := PartsG w e fun g w' q => ExL w [g] w' q.2.1 q.1.args
/-- It holds whatever becomes of elder memory. -/
def PartsK (w : World) (e : Ex) : Ending → World → Prop := PartsG w e fun g w' q => ExN w.heap.size [g] w' q.2.1 q.1.args
theorem PartsK.ok {w : World} {e : Ex} {r : Ending} {w' : World} (h : PartsK w e r w') : PartsOk w e r w' := by
  obtain ⟨g, cap, L, h1, h2, h3, h4, h5⟩ := h
  exact ⟨g, cap, L, h1, h2, h3, fun q hq W' _ hk => h4 q hq W' hk, h5⟩
theorem below_between {w w1 w3 W' : World} {N : List Nat} (h1 : Below w.heap.size w w1) (h3 : Below w1.heap.size w1 w3) (hW : Below w.heap.size w W') (hK : Kept w.heap.size N w3 W') (hN : ∀ b ∈ N, w1.heap.size ≤ b) : Below w1.heap.size w1 W' := by
  refine ⟨by rw [hW.os, h1.os], by rw [hW.tape, h1.tape], by rw [hW.output, h1.output], Nat.le_trans h3.size hK.size, fun b hb => ?_⟩
  by_cases hlo : b < w.heap.size
  · rw [hW.block b hlo, h1.block b hlo]
  · rw [hK.block b (by omega) (Nat.lt_of_lt_of_le hb h3.size) (fun h => by have := hN b h; omega), h3.block b hb]
theorem own_one (w : World) (base : Nat) (hb : base ≤ w.heap.size) (q : Nd) : OwnE (w.alloc (.cells #[.int .i64 q.1.op, .int .i64 q.1.n, .int .i64 q.1.v.k, .int .i64 q.1.v.n, .string q.1.v.s, .slice q.2.1 q.1.args.length q.2.2] 59)) base (.slice (some ⟨w.heap.size, 0, none⟩) 1 1) [q] :=
  ⟨rfl, .inr ⟨w.heap.size, 1, _, rfl, hb, Go.Deep.blk_alloc_new _ _, Nat.le_refl _, by unfold maxLen; omega, rfl, rfl⟩⟩
theorem leaf_ok {w w1 w2 : World} {e : Ex} {a2 : Option Addr} {c2 : Nat} (h1 : Below w.heap.size w w1) (hb : Below w1.heap.size w1 w2) (hL : ExL w1 [] w2 a2 (copyT e).args) (hp : partsE e = [copyT e]) :
    PartsOk w e (.returned (.slice (some ⟨w2.heap.size, 0, none⟩) 1 1)) (w2.alloc (.cells #[.int .i64 (copyT e).op, .int .i64 (copyT e).n, .int .i64 (copyT e).v.k, .int .i64 (copyT e).v.n, .string (copyT e).v.s, .slice a2 (copyT e).args.length c2] 59)) := by
  have hs := h1.size
  have hs2 := hb.size
  refine ⟨w2.heap.size, 1, [(copyT e, a2, c2)], rfl, own_one w2 w.heap.size (by omega) (copyT e, a2, c2), by rw [hp]; rfl, ?_, below_alloc (below_step h1 hb) _⟩
  intro q hq W' hW hK
  rw [List.mem_singleton] at hq
  subst hq
  refine hL W' (below_between h1 (below_alloc hb _) hW hK (by simp; omega)) ?_
  refine ⟨Nat.le_trans (below_alloc (Below.refl _ w2) _).size hK.size, fun b g1 g2 _ => ?_⟩
  rw [hK.block b (by omega) (by simp [go_sem]; omega) (by simp; omega), (below_alloc (Below.refl _ w2) _).block b g2]
theorem leaf_k2 {w w1 w2 : World} {e : Ex} {a2 : Option Addr} {c2 : Nat} (h1 : Below w.heap.size w w1) (hb : Below w1.heap.size w1 w2) (hL : ExK w1.heap.size w2 a2 (copyT e).args) (hp : partsE e = [copyT e]) :
    PartsK w e (.returned (.slice (some ⟨w2.heap.size, 0, none⟩) 1 1)) (w2.alloc (.cells #[.int .i64 (copyT e).op, .int .i64 (copyT e).n, .int .i64 (copyT e).v.k, .int .i64 (copyT e).v.n, .string (copyT e).v.s, .slice a2 (copyT e).args.length c2] 59)) := by
  have hs := h1.size
  have hs2 := hb.size
  refine ⟨w2.heap.size, 1, [(copyT e, a2, c2)], rfl, own_one w2 w.heap.size (by omega) (copyT e, a2, c2), by rw [hp]; rfl, ?_, below_alloc (below_step h1 hb) _⟩
  intro q hq W' hK
  rw [List.mem_singleton] at hq
  subst hq
  refine hL W' ⟨Nat.le_trans (below_alloc (Below.refl _ w2) _).size hK.size, fun b g1 g2 _ => ?_⟩
  rw [hK.block b (by omega) (by simp [go_sem]; omega) (by simp; omega), (below_alloc (Below.refl _ w2) _).block b g2]
set_option maxHeartbeats 400000 in
set_option maxRecDepth 100000 in
theorem parts_leaf (e : Ex) (hf : e.fin) (hp : partsE e = [copyT e]) (hn : e.op ≠ 19 ∨ builtE e = false) (a : Option Addr) (c : Nat) (w : World) (ha : Ex.all w a e.args) :
    Calls Tryz.prog 36 #[e.val a c] w fun r w' => PartsOk w e r w' ∧ (builtE e = true → PartsK w e r w') := by
  have HB := hide (fun (W : World) (hW : Below w.heap.size w W) => built_any e hf a c W (Ex.all_later _ ha hW))
  have HC := hide (fun (W : World) (hW : Below w.heap.size w W) => copied_any e hf a c W (Ex.all_later _ ha hW))
  have HB0 := hide (below_alloc (Below.refl _ w) (.cells #[.int .i64 e.op, .int .i64 e.n, .int .i64 e.v.k, .int .i64 e.v.n, .string e.v.s, .slice a e.args.length c] 59))
  have H6 : Hid (Six (w.alloc (.cells #[.int .i64 e.op, .int .i64 e.n, .int .i64 e.v.k, .int .i64 e.v.n, .string e.v.s, .slice a e.args.length c] 59)) w.heap.size e a c) := Six.new w e a c
  have HP := hide hp
  have HBE := hide (built_ends (e := e))
  rw [Ex.val_open] at HB HC ⊢
  clear ha hp
  by_cases h19 : e.op = 19
  · have hb : builtE e = false := by rcases hn with h | h; exact absurd h19 h; exact h
    rw [hb] at HB
    rw [h19] at HB HC HB0 H6 ⊢
    have HBF := hide hb
    clear hn hb
    go_enter Tryz.func36, Tryz.ntmps36
    go_wp2_with (first
      | (go_at_call 64; refine (unhide HB _ (unhide HB0)).mono ?_; rintro r w1 ⟨rfl, hb1⟩; have hB1 := below_step (unhide HB0) hb1; obtain ⟨b0, b1, b2, b3, b4, b5⟩ := (unhide H6).later hb1)
      | (go_at_call 78; refine (unhide HC _ hB1).mono ?_; rintro r w2 ⟨a2, c2, rfl, hK2, hL2, hb2⟩; have HK2 := hide hK2; have HL2 := hide hL2; clear hK2 hL2; rw [Ex.val_open]))
    go_ret
    exact ⟨leaf_ok hB1 hb2 (unhide HL2) (unhide HP), fun h => by rw [unhide HBF] at h; cases h⟩
  · clear hn
    go_enter Tryz.func36, Tryz.ntmps36
    go_wp2_with (go_at_call 78; refine (unhide HC _ (unhide HB0)).mono ?_; rintro r w2 ⟨a2, c2, rfl, hK2, hL2, hb2⟩; have HK2 := hide hK2; have HL2 := hide hL2; clear hK2 hL2; rw [Ex.val_open])
    go_ret
    exact ⟨leaf_ok (unhide HB0) hb2 (unhide HL2) (unhide HP), fun h => leaf_k2 (unhide HB0) hb2 (unhide HK2 (unhide HBE h)) (unhide HP)⟩
end Go.Proofs.YtmjeiepljlepbacGreat
set_option linter.unusedSimpArgs false
set_option linter.unusedVariables false
set_option maxRecDepth 100000
namespace Go.Proofs.YtmjeiepljlepbacGreat
open Go.RowKit Go.Sort

/-- What Compact leaves of numbers that rise rises, and is the same numbers. -/
theorem comp_upto (d : Array Int) (h : ∀ i j, i ≤ j → j < d.size → d[i]! ≤ d[j]!) : ∀ m, m ≤ d.size → (Lib.compactUpTo d m).Pairwise (· < ·) ∧ ∀ x, x ∈ Lib.compactUpTo d m ↔ ∃ i, i < m ∧ d[i]! = x
  | 0, _ => ⟨by show List.Pairwise _ []; exact .nil, fun x => ⟨fun hx => (by cases hx), fun ⟨i, hi, _⟩ => absurd hi (by omega)⟩⟩
  | m + 1, hm => by
    obtain ⟨h1, h2⟩ := comp_upto d h m (by omega)
    rw [Lib.compactUpTo_succ]
    cases hk : Lib.keeps d m with
    | true =>
      rw [if_pos rfl]
      have hne : m = 0 ∨ d[m]! ≠ d[m - 1]! := by simpa [Lib.keeps] using hk
      refine ⟨List.pairwise_append.2 ⟨h1, List.pairwise_singleton _ _, fun x hx y hy => ?_⟩, fun x => ⟨fun hx => ?_, fun ⟨i, hi, e⟩ => ?_⟩⟩
      · rw [List.mem_singleton] at hy
        subst hy
        obtain ⟨i, hi, rfl⟩ := (h2 x).1 hx
        have a1 := h i (m - 1) (by omega) (by omega)
        have a2 := h (m - 1) m (by omega) (by omega)
        have : d[m]! ≠ d[m - 1]! := hne.resolve_left (by omega)
        omega
      · rcases List.mem_append.1 hx with hx | hx
        · obtain ⟨i, hi, e⟩ := (h2 x).1 hx
          exact ⟨i, by omega, e⟩
        · rw [List.mem_singleton] at hx
          exact ⟨m, by omega, hx.symm⟩
      · by_cases hm' : i = m
        · subst hm'
          exact List.mem_append.2 (.inr (by rw [e]; exact List.mem_singleton.2 rfl))
        · exact List.mem_append.2 (.inl ((h2 x).2 ⟨i, by omega, e⟩))
    | false =>
      rw [if_neg (by decide), List.append_nil]
      have hne : m ≠ 0 ∧ d[m]! = d[m - 1]! := by
        have : ¬ (m = 0 ∨ d[m]! ≠ d[m - 1]!) := by simpa [Lib.keeps] using hk
        refine ⟨fun h => this (.inl h), ?_⟩
        by_cases e : d[m]! = d[m - 1]!
        · exact e
        · exact absurd (.inr e) this
      refine ⟨h1, fun x => ⟨fun hx => ?_, fun ⟨i, hi, e⟩ => ?_⟩⟩
      · obtain ⟨i, hi, e⟩ := (h2 x).1 hx
        exact ⟨i, by omega, e⟩
      · by_cases hm' : i = m
        · subst hm'
          exact (h2 x).2 ⟨i - 1, by omega, by rw [← e, hne.2]⟩
        · exact (h2 x).2 ⟨i, by omega, e⟩
theorem comp_len (d : Array Int) : ∀ m, (Lib.compactUpTo d m).length ≤ m
  | 0 => Nat.le_refl _
  | m + 1 => by
    have := comp_len d m
    rw [Lib.compactUpTo_succ, List.length_append]
    cases Lib.keeps d m <;> simp <;> omega
/-- The numbers of a list, each once, as they rise. -/
def uniqI (l : List Int) : List Int := Lib.compact (l.mergeSort fun x y => decide (x ≤ y))
theorem uniq_sd (l : List Int) : Sd (uniqI l) l := by
  have hp := List.mergeSort_perm l fun x y => decide (x ≤ y)
  have hs : (l.mergeSort fun x y => decide (x ≤ y)).Pairwise (fun x y => decide (x ≤ y) = true) := List.pairwise_mergeSort (fun a b c h1 h2 => by simp at *; omega) (fun a b => by simp; omega) l
  unfold uniqI
  obtain ⟨s, hse⟩ : ∃ s, s = l.mergeSort fun x y => decide (x ≤ y) := ⟨_, rfl⟩
  rw [← hse] at hp hs ⊢
  have hle : ∀ i j, i ≤ j → j < s.toArray.size → s.toArray[i]! ≤ s.toArray[j]! := by
    intro i j hij hj
    have hj' : j < s.length := by simpa using hj
    have hi' : i < s.length := by omega
    simp only [List.getElem!_toArray]
    rw [getElem!_pos s i hi', getElem!_pos s j hj']
    by_cases e : i = j
    · subst e; exact Int.le_refl _
    · have := List.pairwise_iff_getElem.1 hs i j hi' hj' (by omega)
      simpa using this
  obtain ⟨h1, h2⟩ := comp_upto s.toArray hle s.length (by simp)
  refine ⟨h1, fun x => ?_, ?_⟩
  · rw [← hp.mem_iff]
    refine (h2 x).trans ⟨fun ⟨i, hi, e⟩ => ?_, fun hx => ?_⟩
    · simp only [List.getElem!_toArray] at e
      rw [getElem!_pos s i hi] at e
      rw [← e]; exact List.getElem_mem _
    · obtain ⟨i, hi, e⟩ := List.getElem_of_mem hx
      refine ⟨i, hi, ?_⟩
      simp only [List.getElem!_toArray]
      rw [getElem!_pos s i hi, e]
  · have := comp_len s.toArray s.length
    rw [← hp.length_eq]
    exact this
theorem rises_one : ∀ (l m : List Int), l.Pairwise (· < ·) → m.Pairwise (· < ·) → (∀ x, x ∈ l ↔ x ∈ m) → l = m
  | [], [], _, _, _ => rfl
  | [], y :: m, _, _, h => absurd ((h y).2 (by simp)) (by simp)
  | x :: l, [], _, _, h => absurd ((h x).1 (by simp)) (by simp)
  | x :: l, y :: m, h1, h2, h => by
    rw [List.pairwise_cons] at h1 h2
    have hxy : x = y := by
      rcases List.mem_cons.1 ((h x).1 (by simp)) with e | hx
      · exact e
      · rcases List.mem_cons.1 ((h y).2 (by simp)) with e | hy
        · exact e.symm
        · have a1 := h2.1 x hx
          have a2 := h1.1 y hy
          omega
    subst hxy
    rw [rises_one l m h1.2 h2.2 fun z => ⟨fun hz => ?_, fun hz => ?_⟩]
    · rcases List.mem_cons.1 ((h z).1 (by simp [hz])) with e | hz'
      · subst e; exact absurd (h1.1 z hz) (by omega)
      · exact hz'
    · rcases List.mem_cons.1 ((h z).2 (by simp [hz])) with e | hz'
      · subst e; exact absurd (h2.1 z hz) (by omega)
      · exact hz'
theorem sd_uniq {L S : List Int} (h : Sd L S) : L = uniqI S :=
  rises_one L (uniqI S) h.1 (uniq_sd S).1 fun x => (h.2.1 x).trans ((uniq_sd S).2.1 x).symm
end Go.Proofs.YtmjeiepljlepbacGreat
set_option linter.unusedSimpArgs false
set_option linter.unusedVariables false
set_option maxRecDepth 100000
namespace Go.Proofs.YtmjeiepljlepbacGreat
open Go.RowKit Go.Sort Go.Shelf

/-- slices.Sort (75) of numbers of the call's own. -/
theorem isort_any (base : Nat) (xs : List Int) (v : Value) (w : World) (hl : xs.length ≤ 1048576) (hown : OwnI w base v xs) (hb : base ≤ w.heap.size) :
    Calls Tryz.prog 75 #[v] w fun e w' => e = .returned (.tuple #[]) ∧ OwnI w' base v (xs.mergeSort fun x y => decide (x ≤ y)) ∧ Below base w w' := by
  have hml : (xs.mergeSort fun x y => decide (x ≤ y)).length = xs.length := List.length_mergeSort xs
  rcases hown.2 with ⟨rfl, h0⟩ | ⟨g, cap, cur, rfl, hge, hh, hnc, hcm, hcs, htake⟩
  · have hx : xs = [] := List.eq_nil_of_length_eq_zero h0
    subst hx
    have hcon := Any.slices_Sort_int_none Tryz.sortI none 0 w
    change Calls Tryz.prog 75 _ _ _ at hcon
    refine hcon.mono ?_
    rintro e w' ⟨rfl, rfl⟩
    exact ⟨rfl, by rw [List.mergeSort_nil]; exact hown, Below.refl _ _⟩
  · obtain ⟨g', cap', e', _, hgl, _, _, _, hH⟩ := Lib.holds_of_ownsRow hown (by simp)
    injection e' with e1 _ e3
    injection e1 with e1
    injection e1 with e1
    subst e1 e3
    have hcon := Any.slices_Sort_int Tryz.sortI g 0 cap xs w hH hgl (by omega)
    change Calls Tryz.prog 75 _ _ _ at hcon
    refine hcon.mono ?_
    rintro e w' ⟨rfl, n, os, rfl⟩
    refine ⟨rfl, ?_, (Below.refl base w).grown (grownBy_sortedI _) hb fun j hj => by cases hj; exact hge⟩
    unfold OwnI
    rw [hml]
    exact ownsRow_sortedI hml hge hh hnc hcm hcs
/-- slices.Compact (76), likewise. -/
theorem icompact_any (base : Nat) (xs : List Int) (v : Value) (w : World) (hl : xs.length ≤ 1048576) (hown : OwnI w base v xs) (hb : base ≤ w.heap.size) :
    Calls Tryz.prog 76 #[v] w fun e w' => ∃ v', e = .returned v' ∧ OwnI w' base v' (Lib.compact xs) ∧ Below base w w' := by
  rcases hown.2 with ⟨rfl, h0⟩ | ⟨g, cap, cur, rfl, hge, hh, hnc, hcm, hcs, htake⟩
  · have hx : xs = [] := List.eq_nil_of_length_eq_zero h0
    subst hx
    have hcon := Any.slices_Compact_int_empty Tryz.compI none 0 w
    change Calls Tryz.prog 76 _ _ _ at hcon
    refine hcon.mono ?_
    rintro e w' ⟨rfl, rfl⟩
    exact ⟨_, rfl, hown, Below.refl _ _⟩
  · obtain ⟨g', cap', e', _, hgl, _, _, _, hH⟩ := Lib.holds_of_ownsRow hown (by simp)
    injection e' with e1 _ e3
    injection e1 with e1
    injection e1 with e1
    subst e1 e3
    have hcon := Any.slices_Compact_int Tryz.compI g 0 cap xs w hH (by omega) hnc
    change Calls Tryz.prog 76 _ _ _ at hcon
    refine hcon.mono ?_
    rintro e w' ⟨rfl, q, rfl⟩
    have hle := Lib.compact_length_le xs
    refine ⟨_, rfl, ?_, Lib.below_putRow (Below.refl _ _) hge⟩
    have hc := Lib.ownsRow_putRow (q := q) (k := (Lib.compact xs).length) (ys := Lib.compact xs ++ List.replicate (xs.length - (Lib.compact xs).length) 0) hown (by simp; omega) (by omega)
    rw [List.take_left] at hc
    exact hc
set_option maxHeartbeats 1000000 in
/-- Columns (33). -/
theorem cols_any (e : Ex) (hf : e.fin) (a : Option Addr) (c : Nat) (w : World) (ha : Ex.all w a e.args) :
    Calls Tryz.prog 33 #[e.val a c] w fun r w' => ∃ v, r = .returned v ∧ OwnI w' w.heap.size v (if builtE e then uniqI (colsE e) else []) ∧ Below w.heap.size w w' := by
  have HB := hide (fun (W : World) (hW : Below w.heap.size w W) => built_any e hf a c W (Ex.all_later _ ha hW))
  have HC := hide (fun (hb : builtE e = true) (W : World) (hW : Below w.heap.size w W) => columns_all e.size e (Nat.le_refl _) (built_good hb) hf (built_bounds hb).1 a c W (Ex.all_later _ ha hW))
  have HB0 := hide (below_alloc (Below.refl _ w) (.cells #[.int .i64 e.op, .int .i64 e.n, .int .i64 e.v.k, .int .i64 e.v.n, .string e.v.s, .slice a e.args.length c] 59))
  have H6 := hide (Six.new w e a c)
  have hsz : builtE e = true → (colsE e).length ≤ 400 := fun hb => by have h1 := cols_size e; have h2 := (built_bounds hb).1; omega
  rw [Ex.val_open] at HB HC ⊢
  clear ha
  unfold uniqI
  cases hb : builtE e with
  | false =>
    rw [hb] at HB
    clear hb HC hsz
    go_enter Tryz.func33, Tryz.ntmps33
    go_wp2_with (go_at_call 64; refine (unhide HB _ (unhide HB0)).mono ?_; rintro r w1 ⟨rfl, hb1⟩)
    go_ret
    exact ⟨_, rfl, own_nil _ _, below_step (unhide HB0) hb1⟩
  | true =>
    rw [hb] at HB
    have HC := hide (unhide HC hb)
    have HZ := hide (hsz hb)
    clear hb hsz
    generalize colsE e = S at *
    go_enter Tryz.func33, Tryz.ntmps33
    go_wp2_with (first
      | (go_at_call 76; refine (unhide HX4).mono ?_; rintro r w4 ⟨v4, rfl, hO4, hb4⟩)
      | (go_at_call 75; refine (unhide HX3).mono ?_; rintro r w3 ⟨rfl, hO3, hb3⟩; have HX4 := hide (icompact_any w.heap.size _ v2 w3 (by rw [List.length_mergeSort]; have := unhide HZ; omega) hO3 (hB2.trans hb3).size); have hB3 := hB2.trans hb3)
      | (go_at_call 74; refine (unhide HC w1 hB1).mono ?_; rintro r w2 ⟨v2, rfl, hO2, hb2⟩; have hB2 := below_step hB1 hb2; have HX3 := hide (isort_any w.heap.size _ v2 w2 (by have := unhide HZ; omega) (hO2.base_le hB1.size) hB2.size))
      | (go_at_call 64; refine (unhide HB _ (unhide HB0)).mono ?_; rintro r w1 ⟨rfl, hb1⟩; obtain ⟨b0, b1, b2, b3, b4, b5⟩ := (unhide H6).later hb1; have hB1 := below_step (unhide HB0) hb1))
    go_ret
    exact ⟨_, rfl, hO4, hB3.trans hb4⟩
end Go.Proofs.YtmjeiepljlepbacGreat
set_option linter.unusedSimpArgs false
set_option linter.unusedVariables false
set_option maxRecDepth 100000
namespace Go.Proofs.YtmjeiepljlepbacGreat
open Go.ChangeShapes Go.WideShapes Go.ChangeAt Go.RowKit Go.Joins Go.Deep

theorem ownT : ownKnob Tryz.prog.godebug = none := by kernel_rfl
theorem laidT : laidOutB Tryz.prog = true := by kernel_rfl
theorem bytes3 : Tryz.prog.bytesOf 3 = 8 := by kernel_rfl
theorem bytes23 : Tryz.prog.bytesOf 38 = 32 := by kernel_rfl
section
variable {H : Type} {enc : TypeId × Value → H} {w : World} {base : Nat} {spare : Nat → Bool} {held : Bool}
theorem addr_lit (b o n : Nat) : (⟨b, o, none⟩ : Addr).add n = ⟨b, o + n, none⟩ := by
  by_cases h : n = 0 <;> simp [Addr.add, h]
set_option maxRecDepth 100000 in
/-- A list of numbers that came in, laid open. -/
theorem open_ints {r : Reach} {b0 : Nat} {v : Value} {d : DataW H} {p : List MemPlace} (hv : Value.okWide Tryz.prog w r b0 23 v) (h : DataW.Trod enc Tryz.prog w base spare held 23 v d p) (hw : ∀ n ∈ d.weights Tryz.prog (23), n ≤ reachBytes) :
    ∃ (a : Option Addr) (c : Nat) (xs : List Int), v = .slice a xs.length c ∧ IntsAt w a xs ∧ xs.length ≤ 140737488355328 := by
  obtain ⟨a0, len, cap, rfl⟩ := okWide_slice Tryz.underlying23 hv
  obtain ⟨fuel, hf⟩ := h
  rcases open_slice Tryz.underlying23 hf with ⟨hcs, hx⟩ | ⟨a, len', cap', m, n, D, Pl, hcs, hb, hl, hm, hmm, hx, hel⟩
  · simp [Value.cells] at hcs
    obtain ⟨rfl, rfl, rfl⟩ := hcs
    exact ⟨none, 0, [], rfl, .inl rfl, Nat.zero_le _⟩
  · simp [Value.cells] at hcs
    obtain ⟨rfl, rfl, rfl⟩ := hcs
    simp only [Prod.mk.injEq] at hx
    have hlm : len ≤ m := by rw [hmm]; split <;> omega
    have hbyt : len ≤ 140737488355328 := by
      have := hw ((((List.range len).map D).length + ((List.range (m - len)).map fun j => D (len + j)).length) * Tryz.prog.bytesOf 3) (by rw [hx.1]; simp [DataW.weights, Tryz.underlying23])
      rw [bytes3] at this
      have h2 := reachBytes_lt
      simp only [List.length_map, List.length_range] at this
      omega
    have hel2 : ∀ i, i < len → ∃ x : Int, w.cells? base (a.add (i * 1)) 1 = some [.int .i64 x] := by
      intro i hi
      obtain ⟨cs', h1, h2⟩ := hel i (by omega)
      rw [cells3] at h1
      obtain ⟨x, rfl, _⟩ := DataW.trod_int Tryz.underlying3 h2
      exact ⟨x, h1⟩
    obtain ⟨f, hfx⟩ := choose_lt (α := Int) (n := len) hel2
    have hlen : ((List.range len).map f).length = len := by simp
    refine ⟨some a, cap, (List.range len).map f, by rw [hlen], ?_, by rw [hlen]; exact hbyt⟩
    by_cases h0 : len = 0
    · left; subst h0; rfl
    · right
      obtain ⟨b, off, spot⟩ := a
      have hc0 := (World.cells?_some (hfx 0 (by omega))).2.2 0 (by omega)
      have hspot : spot = none := by simpa [Addr.add] using World.cell?_spot hc0
      subst hspot
      refine ⟨b, off, rfl, fun i x hx => ?_⟩
      obtain ⟨hi, rfl⟩ := List.getElem?_eq_some_iff.1 hx
      have hi' : i < len := by simpa using hi
      have e0 := (World.cells?_some (hfx i hi')).2.2 0 (by omega)
      rw [addr_lit, addr_lit] at e0
      simp only [List.getElem_map, List.getElem_range]
      simpa using e0
set_option maxRecDepth 100000 in
/-- A row that came in, laid open. -/
theorem open_row {r : Reach} {b0 : Nat} {v : Value} {d : DataW H} {p : List MemPlace} (hv : Value.okWide Tryz.prog w r b0 22 v) (h : DataW.Trod enc Tryz.prog w base spare held 22 v d p) (hw : ∀ n ∈ d.weights Tryz.prog (22), n ≤ reachBytes) :
    ∃ (a : Option Addr) (c : Nat) (xs : List Val), v = .slice a xs.length c ∧ RowAt w a xs ∧ (∀ x ∈ xs, VOk x) ∧ xs.length ≤ 4398046511104 ∧ (a = none → xs = [] ∧ c = 0) := by
  obtain ⟨a0, len, cap, rfl⟩ := okWide_slice Tryz.underlying22 hv
  obtain ⟨fuel, hf⟩ := h
  rcases open_slice Tryz.underlying22 hf with ⟨hcs, hx⟩ | ⟨a, len', cap', m, n, D, Pl, hcs, hb, hl, hm, hmm, hx, hel⟩
  · simp [Value.cells] at hcs
    obtain ⟨rfl, rfl, rfl⟩ := hcs
    exact ⟨none, 0, [], rfl, .inl rfl, by simp, Nat.zero_le _, fun _ => ⟨rfl, rfl⟩⟩
  · simp [Value.cells] at hcs
    obtain ⟨rfl, rfl, rfl⟩ := hcs
    simp only [Prod.mk.injEq] at hx
    have hlm : len ≤ m := by rw [hmm]; split <;> omega
    have hbyt : len ≤ 4398046511104 := by
      have := hw ((((List.range len).map D).length + ((List.range (m - len)).map fun j => D (len + j)).length) * Tryz.prog.bytesOf 38) (by rw [hx.1]; simp [DataW.weights, Tryz.underlying22])
      rw [bytes23] at this
      have h2 := reachBytes_lt
      simp only [List.length_map, List.length_range] at this
      omega
    have hel2 : ∀ i, i < len → ∃ x : Val, w.cells? base (a.add (i * 3)) 3 = some [.int .i64 x.k, .int .i64 x.n, .string x.s] ∧ VOk x := by
      intro i hi
      obtain ⟨cs, g1, g2⟩ := hel i (by omega)
      rw [cells23] at g1
      have hwi : ∀ n ∈ (D i).weights Tryz.prog (38), n ≤ reachBytes := fun n hn => hw n (by
        rw [hx.1]
        simp only [DataW.weights, Tryz.underlying22, List.mem_cons, List.mem_append]
        exact .inr (.inl (weights_all (List.mem_map.2 ⟨i, List.mem_range.2 hi, rfl⟩) n hn)))
      obtain ⟨z0, z1, z2, n2, hz, hzl, h0, h1, h2⟩ := trod_struct3 Tryz.underlying38 g2
      rw [cells23] at hzl
      match cs, hzl with
      | [c0, c1, c2], _ =>
        simp only [cells3, cells2, cells9, List.drop_zero, List.take_succ_cons, List.take_zero, List.drop_succ_cons] at h0 h1 h2
        obtain ⟨vk, e2, r0, wk⟩ := DataW.trod_int Tryz.underlying3 h0
        obtain ⟨vn, e3, r1, wn⟩ := DataW.trod_int Tryz.underlying2 h1
        obtain ⟨vs, e4, r2, ws⟩ := DataW.trod_string Tryz.underlying9 h2
        simp only [List.cons.injEq, and_true] at e2 e3 e4
        subst e2 e3 e4
        have hD : D i = .agg [z0.1, z1.1, z2.1] := by simp only [Prod.mk.injEq] at hz; exact hz.1
        refine ⟨⟨vk, vn, vs⟩, g1, in64_of wn, ?_⟩
        have := hwi vs.data.toList.length (by rw [hD]; simp [DataW.weights, DataW.weightsEach, Tryz.underlying38, r2])
        have h2 := reachBytes_lt
        rw [Array.length_toList] at this
        have e : vs.data.size = vs.size := rfl
        show vs.size ≤ _
        omega
    have inst : Inhabited Val := ⟨Val.null⟩
    obtain ⟨f, hfx⟩ := choose_lt (α := Val) (n := len) hel2
    have hlen : ((List.range len).map f).length = len := by simp
    refine ⟨some a, cap, (List.range len).map f, by rw [hlen], ?_, ?_, by rw [hlen]; exact hbyt, fun h => by cases h⟩
    · by_cases h0 : len = 0
      · left; subst h0; rfl
      · right
        obtain ⟨b, off, spot⟩ := a
        have hc0 := (World.cells?_some (hfx 0 (by omega)).1).2.2 0 (by omega)
        have hspot : spot = none := by simpa [Addr.add] using World.cell?_spot hc0
        subst hspot
        refine ⟨b, off, rfl, fun i x hx => ?_⟩
        obtain ⟨hi, rfl⟩ := List.getElem?_eq_some_iff.1 hx
        have hi' : i < len := by simpa using hi
        have hc := (World.cells?_some (hfx i hi').1).2.2
        have e0 := hc 0 (by omega)
        have e1 := hc 1 (by omega)
        have e2 := hc 2 (by omega)
        rw [addr_lit, addr_lit] at e0 e1 e2
        simp only [List.getElem_map, List.getElem_range]
        exact ⟨by simpa using e0, by simpa using e1, by simpa using e2⟩
    · intro x hx
      obtain ⟨i, hi, rfl⟩ := List.mem_map.1 hx
      exact (hfx i (by simpa using hi)).2
end
end Go.Proofs.YtmjeiepljlepbacGreat

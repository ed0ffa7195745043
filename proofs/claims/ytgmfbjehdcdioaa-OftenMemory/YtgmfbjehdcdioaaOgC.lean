import Derived.Test.YtgmfbjehdcdioaaOgB
import Derived.Laws.OwnMore
set_option linter.unusedSimpArgs false
set_option linter.unusedVariables false
set_option maxRecDepth 100000
namespace Go.Proofs.Ytgmfbjehdcdioaa
open Go.RowKit Go.Sort

set_option maxHeartbeats 1000000 in
theorem pred21 {w : World} {p fb : Nat} {x y : Nat} {bb : Bool} (hp : w.cell? ⟨p, 4, none⟩ = some (.int .i64 x)) (hf : w.cell? ⟨fb, 0, none⟩ = some (.int .i64 y)) (hbb : decide ((x : Int) ≤ (y : Int)) = bb) :
    Calls Try.prog 21 #[.pointer (some ⟨p, 0, none⟩), .pointer (some ⟨fb, 0, none⟩)] w fun e w' => e = .returned (.bool bb) ∧ Below w.heap.size w w' := by
  go_enter Try.func21, Try.ntmps21
  go_upto_region 1 with fail
  have k1 := cell_regrown hp
  have k2 := cell_regrown hf
  clear hp hf
  refine wp_region_quiet_below (by kernel_rfl) (by kernel_rfl) ?_
  repeat (go_big_quiet_step (fail))
  refine wpQuiet_nil ?_
  intro w' hw'
  have hB : Below w.heap.size w w' := by obtain ⟨p, rfl⟩ := hw'; exact below_regrown _ _ _
  clear hw' k1 k2
  have HBB := hide hbb
  clear hbb
  go_wp2
  go_ret
  exact ⟨by rw [← unhide HBB]; simp, hB⟩

theorem own_clear {w : World} {base g m cap i : Nat} {xs : List Value} (h : w.ownsRow base 57 1 (.slice (some ⟨g, 0, none⟩) m cap) m xs) (hi : i < m) (ty : TypeId) :
    ∃ w', (Builtin.clear_ #[51] ty #[.slice (some ⟨g, i, none⟩) (m - i) (cap - i)]).run Try.prog w = .ok (.tuple #[]) w' ∧ w'.ownsRow base 57 1 (.slice (some ⟨g, 0, none⟩) i cap) i (xs.take i) ∧ w.grownBy w' (some g) := by
  rcases h.2 with ⟨e, _⟩ | ⟨g', cap', cur, e, hb, hh, hnc, hcm, hcs, htake⟩
  · cases e
  injection e with e1 e2 e3
  injection e1 with e1
  injection e1 with e1
  subst e1 e3
  have hl := h.1
  have hst := run_storeCells_at (P := Try.prog) g i 57 (Builtin.zeroCells #[.pointer none] (m - i)).toList 0 cur w hh (by simp [Builtin.zeroCells, hcs]; omega) (by
    intro v hv
    simp only [Builtin.zeroCells, Array.toList_map, List.mem_map] at hv
    obtain ⟨q, _, rfl⟩ := hv
    have : q % 1 = 0 := Nat.mod_one q
    simp [this]; rfl)
  refine ⟨w.setRow g (cur.toList.take (i + 0) ++ (Builtin.zeroCells #[.pointer none] (m - i)).toList ++ cur.toList.drop (i + 0 + (Builtin.zeroCells #[.pointer none] (m - i)).toList.length)).toArray, ?_, ?_, ?_⟩
  · obtain ⟨q, hq⟩ : ∃ q, m - i = q + 1 := ⟨m - i - 1, by omega⟩
    rw [hq] at hst ⊢
    have hv : ∀ w, (zeroValue 57).run Try.prog w = .ok (.pointer none) w := fun w => by kernel_rfl
    simp [Builtin.clear_, run_underlying Try.underlying51, hv, hst, Value.cells]
  · refine ⟨by rw [List.length_take]; omega, .inr ⟨g, cap, _, rfl, hb, setRow_heap w g cur _ 57 _ hh, by omega, hcm, ?_, ?_⟩⟩
    · have hz : (Builtin.zeroCells #[.pointer none] (m - i)).size = m - i := by simp [Builtin.zeroCells]
      simp only [List.size_toArray, List.length_append, List.length_take, List.length_drop, Array.length_toList, hcs, hz]
      omega
    · rw [← htake, List.append_assoc, List.take_append_of_le_length (by simp [hcs]; omega), List.take_take, List.take_take]
      congr 1
      omega
  · exact ⟨rfl, rfl, rfl, by simp, fun k hk hne => setRow_other w g k _ (fun e => hne (by rw [e]))⟩

set_option maxHeartbeats 1000000 in
theorem index35 {w : World} {g m cap fb : Nat} {p x fl : Nat} (hm : 0 < m) (hc : w.cell? ⟨g, 0, none⟩ = some (.pointer (some ⟨p, 0, none⟩))) (hp : w.cell? ⟨p, 4, none⟩ = some (.int .i64 x)) (hf : w.cell? ⟨fb, 0, none⟩ = some (.int .i64 fl)) (hx : x ≤ fl) (hmm : m ≤ 4096) :
    Calls Try.prog 35 #[.slice (some ⟨g, 0, none⟩) m cap, .func (.func 21) #[] #[.pointer (some ⟨fb, 0, none⟩)]] w fun e w' => e = .returned (.int .i64 0) ∧ Below w.heap.size w w' := by
  have HP := hide (pred21 (bb := true) hp hf (by simp; omega))
  have i1 : (0 : Int) < (m : Int) := by omega
  clear hp hf hx
  go_enter Try.func35, Try.ntmps35
  go_wp2_with fail
  go_loopw [8] (fun s wr => s = .int .i64 0 ∧ wr = w) (fun _ _ => 0)
  case atStart => exact ⟨rfl, rfl⟩
  case round =>
    obtain ⟨rfl, rfl⟩ := hrel
    go_wp2_with (go_at_call 21; refine (unhide HP).mono ?_; rintro e w1 ⟨rfl, hb1⟩)
    go_ret
    exact ⟨rfl, hb1⟩

def shE (G : Nat → Nat × Cn) (d j q : Nat) : Nat × Cn := if q + d < j then G (q + d) else G q
theorem ptrs_congr {E E' : Nat → Nat × Cn} {n : Nat} (h : ∀ i, i < n → E i = E' i) : ptrs E n = ptrs E' n := List.map_congr_left fun i hi => by rw [h i (List.mem_range.1 hi)]
structure DlS (w wr : World) (base g cap m : Nat) (G : Nat → Nat × Cn) (d j : Nat) : Prop where
  own : wr.ownsRow base 57 1 (.slice (some ⟨g, 0, none⟩) m cap) m (ptrs (shE G d j) m)
  grown : w.grownBy wr (some g)
theorem grownBy_below {w w1 w2 : World} {r : Option Nat} (h : w.grownBy w1 r) (hb : Below w1.heap.size w1 w2) : w.grownBy w2 r :=
  ⟨hb.os.trans h.os, hb.tape.trans h.tape, hb.output.trans h.output, Nat.le_trans h.size hb.size, fun k hk hn => (hb.block k (Nat.lt_of_lt_of_le hk h.size)).trans (h.block k hk hn)⟩
theorem grownBy_trans {w w1 w2 : World} {r : Option Nat} (h : w.grownBy w1 r) (k : w1.grownBy w2 r) : w.grownBy w2 r :=
  ⟨k.os.trans h.os, k.tape.trans h.tape, k.output.trans h.output, Nat.le_trans h.size k.size, fun q hq hn => (k.block q (Nat.lt_of_lt_of_le hq h.size) hn).trans (h.block q hq hn)⟩
theorem grownBy_set (w : World) (g i : Nat) (v : Value) : w.grownBy (w.setCell ⟨g, i, none⟩ v) (some g) :=
  ⟨rfl, rfl, rfl, by simp [World.setCell], fun k _ hn => Below.heap_setCell _ _ _ _ (fun e => hn (by rw [e]))⟩
theorem grownBy_cell {w w' : World} {g b o : Nat} {v : Value} (h : w.grownBy w' (some g)) (hc : w.cell? ⟨b, o, none⟩ = some v) (hn : b ≠ g) : w'.cell? ⟨b, o, none⟩ = some v := by
  have hl := World.block_lt_of_cell? _ _ hc
  rw [← hc]; unfold World.cell?; rw [h.block b hl (fun e => hn (by injection e))]
theorem DlS.later {w wr w2 : World} {base g cap m d j : Nat} {G : Nat → Nat × Cn} (h : DlS w wr base g cap m G d j) (hb : Below wr.heap.size wr w2) : DlS w w2 base g cap m G d j := ⟨own_later h.own hb, grownBy_below h.grown hb⟩
theorem DlS.skip {w wr : World} {base g cap m d j : Nat} {G : Nat → Nat × Cn} (h : DlS w wr base g cap m G d j) (hj : j < d) : DlS w wr base g cap m G d (j + 1) :=
  ⟨by rw [ptrs_congr (E' := shE G d j) fun i _ => by unfold shE; rw [if_neg (by omega), if_neg (by omega)]]; exact h.own, h.grown⟩
theorem DlS.put {w wr : World} {base g cap m d j i : Nat} {G : Nat → Nat × Cn} (h : DlS w wr base g cap m G d j) (hj : d ≤ j) (hjm : j < m) (hd : 1 ≤ d) (hi : i = j - d) : DlS w (wr.setCell ⟨g, i, none⟩ (pv (G j).1)) base g cap m G d (j + 1) := by
  refine ⟨?_, grownBy_trans h.grown (grownBy_set _ _ _ _)⟩
  have h1 := own_store h.own (i := i) (by omega) (pv (G j).1)
  have e : (ptrs (shE G d j) m).set i (pv (G j).1) = ptrs (shE G d (j + 1)) m := by
    apply List.ext_getElem?
    intro q
    by_cases hq : q < m
    · rw [ptrs_at _ hq]
      by_cases e1 : q = i
      · subst e1
        rw [List.getElem?_set_self (by simp [ptrs_len, hq])]
        unfold shE; rw [if_pos (by omega)]
        rw [show q + d = j by omega]
      · rw [List.getElem?_set_ne (Ne.symm e1), ptrs_at _ hq]
        unfold shE
        by_cases e2 : q + d < j
        · rw [if_pos e2, if_pos (by omega)]
        · rw [if_neg e2, if_neg (by omega)]
    · rw [List.getElem?_eq_none (by simp [ptrs_len]; omega), List.getElem?_eq_none (by simp [ptrs_len]; omega)]
  rw [e] at h1
  exact h1
theorem shE_end (G : Nat → Nat × Cn) {d m : Nat} (hd : d ≤ m) : (ptrs (shE G d m) m).take (m - d) = ptrs (fun i => G (i + d)) (m - d) := by
  apply List.ext_getElem?
  intro q
  rw [List.getElem?_take]
  by_cases hq : q < m - d
  · rw [if_pos hq, ptrs_at _ (by omega), ptrs_at _ hq]
    unfold shE; rw [if_pos (by omega)]
  · rw [if_neg hq, List.getElem?_eq_none (by simp [ptrs_len]; omega)]

/-- What DeleteFunc leaves of counters that rise, of which the first d go. -/
def DlA (w : World) (base g cap m : Nat) (G : Nat → Nat × Cn) (d : Nat) (e : Ending) (w' : World) : Prop :=
  e = .returned (.slice (some ⟨g, 0, none⟩) (m - d) cap) ∧ w'.ownsRow base 57 1 (.slice (some ⟨g, 0, none⟩) (m - d) cap) (m - d) (ptrs (fun i => G (i + d)) (m - d)) ∧ w.grownBy w' (some g)

set_option maxHeartbeats 4000000 in
theorem delete20 {w : World} {base g cap m fb fl d : Nat} {G : Nat → Nat × Cn} (hown : w.ownsRow base 57 1 (.slice (some ⟨g, 0, none⟩) m cap) m (ptrs G m)) (hct : ∀ i, i < m → w.cell? ⟨(G i).1, 4, none⟩ = some (.int .i64 (G i).2.hi)) (hne : ∀ i, i < m → (G i).1 ≠ g) (hf : w.cell? ⟨fb, 0, none⟩ = some (.int .i64 fl)) (hfg : fb ≠ g)
    (hd : 1 ≤ d) (hdm : d ≤ m) (hlow : ∀ i, i < d → (G i).2.hi ≤ fl) (hhigh : ∀ i, d ≤ i → i < m → fl < (G i).2.hi) (hm : m ≤ 4096) :
    Calls Try.prog 20 #[.slice (some ⟨g, 0, none⟩) m cap, .func (.func 21) #[] #[.pointer (some ⟨fb, 0, none⟩)]] w fun e w' => DlA w base g cap m G d e w' := by
  have hcap : m ≤ cap ∧ cap ≤ 9223372036854775807 := by
    rcases hown.2 with ⟨e, h0⟩ | ⟨g', cap', cur, he, _, _, h3, h4, _⟩
    · omega
    · cases he; exact ⟨h3, by unfold maxLen at h4; omega⟩
  have HI := hide (index35 (fl := fl) (cap := cap) (m := m) (fb := fb) (g := g) (by omega) (own_cell hown (ptrs_at G (by omega))) (hct 0 (by omega)) hf (hlow 0 (by omega)) hm)
  have HST : Hid (DlS w w base g cap m G d 1) := ⟨by rw [ptrs_congr (E' := G) fun i _ => by unfold shE; rw [if_neg (by omega)]]; exact hown, ⟨rfl, rfl, rfl, Nat.le_refl _, fun _ _ _ => rfl⟩⟩
  have HPR : Hid (∀ W j bb, w.grownBy W (some g) → j < m → decide (((G j).2.hi : Int) ≤ (fl : Int)) = bb → Calls Try.prog 21 #[.pointer (some ⟨(G j).1, 0, none⟩), .pointer (some ⟨fb, 0, none⟩)] W fun e w' => e = .returned (.bool bb) ∧ Below W.heap.size W w') := fun W j bb hW hj hbb =>
    pred21 (grownBy_cell hW (hct j hj) (hne j hj)) (grownBy_cell hW hf hfg) hbb
  have HLO := hide hlow
  have HHI := hide hhigh
  clear hown hct hne hf hlow hhigh
  go_enter Try.func20, Try.ntmps20
  go_wp2_with (go_at_call 35; refine (unhide HI).mono ?_; rintro e w1 ⟨rfl, hb1⟩; replace hb1 := hide hb1)
  go_loopw [5, 6] (fun s5 s6 wr => ∃ (i j : Nat), s5 = .int .i64 (i : Int) ∧ s6 = .int .i64 (j : Int) ∧ 1 ≤ j ∧ j ≤ m ∧ Hid (i = j - d) ∧ Hid (DlS w wr base g cap m G d j)) (fun _ s _ => m - (intOf s).toNat)
  case atStart => exact ⟨0, 1, rfl, rfl, by omega, by omega, by show _ = _; omega, (unhide HST).later (unhide hb1)⟩
  case round =>
    obtain ⟨i, j, rfl, rfl, hj1, hjm, HIJ, HD⟩ := hrel
    clear HI HST
    by_cases hj : j < m
    · have c0 := own_cell (unhide HD).own (ptrs_at (shE G d j) hj)
      have e0 : shE G d j j = G j := by unfold shE; rw [if_neg (by omega)]
      rw [e0] at c0
      simp only [pv] at c0
      clear e0
      have i3 : (j : Int) < (m : Int) := by omega
      by_cases hjd : j < d
      · have HP := hide (unhide HPR wr j true (unhide HD).grown hj (by have := unhide HLO j hjd; simp; omega))
        have HN := hide (unhide HD |>.skip hjd)
        have HI2 : Hid (i = j + 1 - d) := by have := unhide HIJ; show _ = _; omega
        obtain ⟨p, hp⟩ : ∃ p, (G j).1 = p := ⟨_, rfl⟩
        rw [hp] at c0 HP
        clear hp HPR
        go_wp2_with (go_at_call 21; refine (unhide HP).mono ?_; rintro e w2 ⟨rfl, hb2⟩; replace hb2 := hide hb2)
        go_roundw
        case rel => exact ⟨i, j + 1, rfl, by go_num, by omega, by omega, HI2, (unhide HN).later (unhide hb2)⟩
        case measure => simp [intOf]; omega
      · have hjd' : d ≤ j := by omega
        have HP := hide (unhide HPR wr j false (unhide HD).grown hj (by have := unhide HHI j hjd' hj; simp; omega))
        have him : (i : Int) < (m : Int) := by have := unhide HIJ; omega
        have HNX : Hid (∀ W, Below wr.heap.size wr W → W.frozen? ⟨g, i, none⟩ = false ∧ (∃ v, W.cell? ⟨g, i, none⟩ = some v) ∧ Hid (DlS w (W.setCell ⟨g, i, none⟩ (pv (G j).1)) base g cap m G d (j + 1))) := fun W hW => by
          have h1 := (unhide HD).later hW
          exact ⟨own_frozen h1.own i, ⟨_, own_cell h1.own (ptrs_at (shE G d j) (by omega))⟩, h1.put hjd' hj hd (unhide HIJ)⟩
        have HI2 : Hid (i + 1 = j + 1 - d) := by have := unhide HIJ; show _ = _; omega
        obtain ⟨p, hp⟩ : ∃ p, (G j).1 = p := ⟨_, rfl⟩
        simp only [pv] at HNX
        rw [hp] at c0 HP HNX
        clear hp HPR
        go_wp2_with (go_at_call 21; refine (unhide HP).mono ?_; rintro e w2 ⟨rfl, hb2⟩; obtain ⟨f2, ⟨v2, d2⟩, HN⟩ := unhide HNX w2 hb2; clear hb2)
        go_roundw
        case rel => exact ⟨i + 1, j + 1, by go_num, by go_num, by omega, by omega, HI2, HN⟩
        case measure => simp [intOf]; omega
    · obtain rfl : j = m := by omega
      have hi' := unhide HIJ
      obtain ⟨wc, hrun, hoc, hgc⟩ := own_clear (unhide HD).own (i := i) (by omega) 0
      have HF : Hid (DlA w base g cap j G d (.returned (.slice (some ⟨g, 0, none⟩) i cap)) wc) := by
        rw [hi', shE_end G hdm] at hoc
        rw [hi']
        exact ⟨rfl, hoc, grownBy_trans (unhide HD).grown hgc⟩
      have i1 : (i : Int) ≤ (j : Int) := by omega
      have i2 : (j : Int) ≤ (cap : Int) := by omega
      have i3 : (i : Int) ≤ (cap : Int) := by omega
      have i4 : (cap : Int) ≤ 9223372036854775807 := by omega
      have i5 : i < j := by omega
      have i6 : i < cap := by omega
      have i7 : ¬ cap = i := by omega
      have i8 : ¬ cap - i = 0 := by omega
      clear hi' hoc hgc HPR HLO HHI
      go_wp2
      go_ret
      exact unhide HF
end Go.Proofs.Ytgmfbjehdcdioaa

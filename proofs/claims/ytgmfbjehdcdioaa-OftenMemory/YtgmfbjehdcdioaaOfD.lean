import Derived.Test.YtgmfbjehdcdioaaOfC
set_option linter.unusedSimpArgs false
set_option linter.unusedVariables false
namespace Go.Proofs.Ytgmfbjehdcdioaa
open Go.RowKit Go.Sort

theorem Try.info57 : (Try.prog.info? 57).map (fun i => (i.zero, i.size, i.bytes)) = some (some (.pointer none), 1, 8) := by kernel_rfl

/-- A counter. -/
structure Cn where
  k : Int
  n : Int
  s : ByteArray
  lo : Nat
  hi : Nat
def box6 (x : Cn) (p : Nat) : Nat → Value
  | 0 => .int .i64 x.k
  | 1 => .int .i64 x.n
  | 2 => .string x.s
  | 3 => .int .i64 x.lo
  | 4 => .int .i64 x.hi
  | _ => .int .i64 p
def pv (p : Nat) : Value := .pointer (some ⟨p, 0, none⟩)
def ptrs (E : Nat → Nat × Cn) (n : Nat) : List Value := (List.range n).map fun i => pv (E i).1
theorem ptrs_len (E : Nat → Nat × Cn) (n : Nat) : (ptrs E n).length = n := by simp [ptrs]
theorem ptrs_at (E : Nat → Nat × Cn) {n i : Nat} (h : i < n) : (ptrs E n)[i]? = some (pv (E i).1) := by simp [ptrs, h]

/-- A queue in memory: the slice at place 4 of the box b, the counters by their places. -/
structure Qu (w : World) (b : Nat) (S : Value) (n : Nat) (E : Nat → Nat × Cn) : Prop where
  cell : w.cell? ⟨b, 4, none⟩ = some S
  lst : w.ownsRow 0 57 1 S n (ptrs E n)
  ctr : ∀ i, i < n → w.rowIs (E i).1 60 6 (box6 (E i).2 i)
  nod : ∀ i j, i < n → j < n → (E i).1 = (E j).1 → i = j
/-- Its memory, but for the box. -/
def fq (S : Value) (n : Nat) (E : Nat → Nat × Cn) (k : Nat) : Prop := S.ownBlock = some k ∨ ∃ i, i < n ∧ k = (E i).1

variable {w w' : World} {b n : Nat} {S : Value} {E : Nat → Nat × Cn}
theorem Qu.slice (h : Qu w b S n E) (hn : 0 < n) : ∃ lb cap, S = .slice (some ⟨lb, 0, none⟩) n cap := by
  rcases h.lst.2 with ⟨_, h0⟩ | ⟨g, cap, cur, he, _⟩
  · omega
  · exact ⟨g, cap, he⟩
theorem Qu.at (h : Qu w b S n E) {lb cap i : Nat} (hS : S = .slice (some ⟨lb, 0, none⟩) n cap) (hi : i < n) : w.cell? ⟨lb, i, none⟩ = some (.pointer (some ⟨(E i).1, 0, none⟩)) ∧ w.frozen? ⟨lb, i, none⟩ = false := by
  have hl := h.lst
  rw [hS] at hl
  exact ⟨own_cell hl (ptrs_at E hi), own_frozen hl i⟩
theorem Qu.high (h : Qu w b S n E) {i : Nat} (hi : i < n) : w.cell? ⟨(E i).1, 4, none⟩ = some (.int .i64 (E i).2.hi) := (h.ctr i hi).cell (i := 4) (by omega)
theorem Qu.lb_ne (h : Qu w b S n E) {lb cap i : Nat} (hS : S = .slice (some ⟨lb, 0, none⟩) n cap) (hi : i < n) : (E i).1 ≠ lb := fun e => own_ne (h.ctr i hi) h.lst (by decide) (by rw [hS, e]; rfl)
theorem Qu.keep (h : Qu w b S n E) (hb : w'.heap[b]? = w.heap[b]?) (hk : ∀ k, fq S n E k → w'.heap[k]? = w.heap[k]?) : Qu w' b S n E := by
  refine ⟨?_, own_keep h.lst fun g hg => hk g (.inl hg), fun i hi => (h.ctr i hi).of_block (hk _ (.inr ⟨i, hi, rfl⟩)), h.nod⟩
  rw [← h.cell]; unfold World.cell?; rw [hb]
theorem Qu.later (h : Qu w b S n E) (hb : Below w.heap.size w w') : Qu w' b S n E := by
  have hbl := World.block_lt_of_cell? _ _ h.cell
  refine h.keep (hb.block b hbl) fun k hk => hb.block k ?_
  rcases hk with hk | ⟨i, hi, rfl⟩
  · exact (h.lst.lt k hk).2
  · exact (h.ctr i hi).lt

set_option maxRecDepth 100000 in
theorem len_any (a : Option Addr) (n c : Nat) (w : World) : Calls Try.prog 93 #[.slice a n c] w fun e w' => e = .returned (.int .i64 n) ∧ w' = w := by
  go_enter Try.func93, Try.ntmps93
  go_wp2
  go_ret
  exact ⟨rfl, rfl⟩

set_option maxHeartbeats 1000000 in
set_option maxRecDepth 100000 in
theorem less_any (h : Qu w b S n E) {i j : Nat} (hi : i < n) (hj : j < n) (hn : n ≤ 2000) : Calls Try.prog 94 #[S, .int .i64 i, .int .i64 j] w fun e w' => e = .returned (.bool (decide ((E i).2.hi < (E j).2.hi))) ∧ Below w.heap.size w w' := by
  obtain ⟨lb, cap, hS⟩ := h.slice (by omega)
  have c1 := (h.at hS hi).1
  have c2 := (h.at hS hj).1
  have c3 := h.high hi
  have c4 := h.high hj
  obtain ⟨p, hp⟩ : ∃ p, (E i).1 = p := ⟨_, rfl⟩
  obtain ⟨q, hq⟩ : ∃ q, (E j).1 = q := ⟨_, rfl⟩
  obtain ⟨x, hx⟩ : ∃ x, (E i).2.hi = x := ⟨_, rfl⟩
  obtain ⟨y, hy⟩ : ∃ y, (E j).2.hi = y := ⟨_, rfl⟩
  rw [hp] at c1 c3
  rw [hq] at c2 c4
  rw [hx] at c3
  rw [hy] at c4
  rw [hx, hy, hS]
  have i1 : (i : Int) < (n : Int) := by omega
  have i2 : (j : Int) < (n : Int) := by omega
  clear h hp hq hx hy
  go_enter Try.func94, Try.ntmps94
  go_upto_region 1 with fail
  have k1 := cell_regrown c1
  have k2 := cell_regrown c2
  have k3 := cell_regrown c3
  have k4 := cell_regrown c4
  clear c1 c2 c3 c4
  refine wp_region_quiet_below (by kernel_rfl) (by kernel_rfl) ?_
  repeat (go_big_quiet_step (fail))
  refine wpQuiet_nil ?_
  intro w' hw'
  have hB : Below w.heap.size w w' := by obtain ⟨p, rfl⟩ := hw'; exact below_regrown _ _ _
  clear hw' k1 k2 k3 k4
  go_wp2
  go_ret
  exact ⟨by simp, hB⟩

/-- Behind a swap. -/
theorem Qu.swapped (h : Qu w b S n E) {lb cap i j : Nat} (hS : S = .slice (some ⟨lb, 0, none⟩) n cap) (hi : i < n) (hj : j < n) (hb : ∀ k, fq S n E k → k ≠ b) :
    Qu ((((w.setCell ⟨lb, i, none⟩ (pv (E j).1)).setCell ⟨lb, j, none⟩ (pv (E i).1)).setCell ⟨(E j).1, 5, none⟩ (.int .i64 i)).setCell ⟨(E i).1, 5, none⟩ (.int .i64 j)) b S n (sw E i j) ∧
    Ky (fq S n E) w ((((w.setCell ⟨lb, i, none⟩ (pv (E j).1)).setCell ⟨lb, j, none⟩ (pv (E i).1)).setCell ⟨(E j).1, 5, none⟩ (.int .i64 i)).setCell ⟨(E i).1, 5, none⟩ (.int .i64 j)) ∧ ∀ k, fq S n (sw E i j) k → fq S n E k := by
  have hSo : S.ownBlock = some lb := by rw [hS]; rfl
  have hlbb : lb ≠ b := hb lb (.inl hSo)
  have hpb : ∀ m, m < n → (E m).1 ≠ b := fun m hm => hb _ (.inr ⟨m, hm, rfl⟩)
  have hswp : ∀ m, m < n → ∃ m', m' < n ∧ sw E i j m = E m' := fun m hm => by
    unfold sw
    by_cases e1 : m = i
    · rw [if_pos e1]; exact ⟨j, hj, rfl⟩
    · rw [if_neg e1]
      by_cases e2 : m = j
      · rw [if_pos e2]; exact ⟨i, hi, rfl⟩
      · rw [if_neg e2]; exact ⟨m, hm, rfl⟩
  have hbig : ∀ k, k ≠ lb → k ≠ (E i).1 → k ≠ (E j).1 → ((((w.setCell ⟨lb, i, none⟩ (pv (E j).1)).setCell ⟨lb, j, none⟩ (pv (E i).1)).setCell ⟨(E j).1, 5, none⟩ (.int .i64 i)).setCell ⟨(E i).1, 5, none⟩ (.int .i64 j)).heap[k]? = w.heap[k]? := fun k h1 h2 h3 => by
    rw [Below.heap_setCell _ _ _ _ h2, Below.heap_setCell _ _ _ _ h3, Below.heap_setCell _ _ _ _ h1, Below.heap_setCell _ _ _ _ h1]
  refine ⟨⟨?_, ?_, fun m hm => ?_, fun m m' hm hm' e => ?_⟩, ?_, fun k hk => ?_⟩
  · rw [← h.cell]; unfold World.cell?; rw [hbig b (Ne.symm hlbb) (Ne.symm (hpb i hi)) (Ne.symm (hpb j hj))]
  · have hl := h.lst
    rw [hS] at hl ⊢
    have h1 := own_store (own_store hl hi (pv (E j).1)) hj (pv (E i).1)
    have h2 := own_setO (own_setO h1 (a := ⟨(E j).1, 5, none⟩) (fun e => h.lb_ne hS hj (by simpa [Value.ownBlock] using e.symm)) (.int .i64 i)) (a := ⟨(E i).1, 5, none⟩) (fun e => h.lb_ne hS hi (by simpa [Value.ownBlock] using e.symm)) (.int .i64 j)
    have e : ((ptrs E n).set i (pv (E j).1)).set j (pv (E i).1) = ptrs (sw E i j) n := by
      apply List.ext_getElem?
      intro m
      by_cases hm : m < n
      · rw [ptrs_at _ hm]
        by_cases e2 : m = j
        · subst e2
          rw [List.getElem?_set_self (by simp [ptrs_len, hm]), sw_r]
        · rw [List.getElem?_set_ne (Ne.symm e2)]
          by_cases e1 : m = i
          · subst e1
            rw [List.getElem?_set_self (by simp [ptrs_len, hm]), sw_l]
          · rw [List.getElem?_set_ne (Ne.symm e1), ptrs_at _ hm, sw_o e1 e2]
      · rw [List.getElem?_eq_none (by simp [ptrs_len]; omega), List.getElem?_eq_none (by simp [ptrs_len]; omega)]
    rw [e] at h2
    exact h2
  · by_cases e1 : m = i
    · subst e1
      rw [sw_l]
      by_cases e2 : m = j
      · subst e2
        have := ((((h.ctr m hm).setOther (a := ⟨lb, m, none⟩) (h.lb_ne hS hm) (pv (E m).1)).setOther (a := ⟨lb, m, none⟩) (h.lb_ne hS hm) (pv (E m).1)).set 5 (.int .i64 m)).set 5 (.int .i64 m)
        refine this.congr fun q hq => ?_
        match q, hq with
        | 0, _ => rfl
        | 1, _ => rfl
        | 2, _ => rfl
        | 3, _ => rfl
        | 4, _ => rfl
        | 5, _ => rfl
      · have hne : (E j).1 ≠ (E m).1 := fun e => e2 (h.nod m j hm hj e.symm)
        have := ((((h.ctr j hj).setOther (a := ⟨lb, m, none⟩) (h.lb_ne hS hj) (pv (E j).1)).setOther (a := ⟨lb, j, none⟩) (h.lb_ne hS hj) (pv (E m).1)).set 5 (.int .i64 m)).setOther (a := ⟨(E m).1, 5, none⟩) hne (.int .i64 j)
        refine this.congr fun q hq => ?_
        match q, hq with
        | 0, _ => rfl
        | 1, _ => rfl
        | 2, _ => rfl
        | 3, _ => rfl
        | 4, _ => rfl
        | 5, _ => rfl
    · by_cases e2 : m = j
      · subst e2
        rw [sw_r]
        have hne : (E i).1 ≠ (E m).1 := fun e => e1 (h.nod m i hm hi e.symm)
        have := ((((h.ctr i hi).setOther (a := ⟨lb, i, none⟩) (h.lb_ne hS hi) (pv (E m).1)).setOther (a := ⟨lb, m, none⟩) (h.lb_ne hS hi) (pv (E i).1)).setOther (a := ⟨(E m).1, 5, none⟩) hne (.int .i64 i)).set 5 (.int .i64 m)
        refine this.congr fun q hq => ?_
        match q, hq with
        | 0, _ => rfl
        | 1, _ => rfl
        | 2, _ => rfl
        | 3, _ => rfl
        | 4, _ => rfl
        | 5, _ => rfl
      · rw [sw_o e1 e2]
        exact (h.ctr m hm).of_block (hbig _ (h.lb_ne hS hm) (fun e => e1 (h.nod m i hm hi e)) (fun e => e2 (h.nod m j hm hj e)))
  · have key : ∀ m, sw E i j m = E (if m = i then j else if m = j then i else m) := fun m => by
      unfold sw; split
      · rfl
      · split <;> rfl
    rw [key, key] at e
    have := h.nod _ _ (by split; exact hj; split; exact hi; exact hm) (by split; exact hj; split; exact hi; exact hm') e
    split at this <;> split at this <;> (try split at this) <;> (try split at this) <;> omega
  · refine ⟨rfl, rfl, rfl, by simp [World.setCell], fun k _ hn => hbig k (fun e => hn (.inl (by rw [e]; exact hSo))) (fun e => hn (.inr ⟨i, hi, e⟩)) (fun e => hn (.inr ⟨j, hj, e⟩))⟩
  · rcases hk with hk | ⟨m, hm, rfl⟩
    · exact .inl hk
    · obtain ⟨m', hm', e⟩ := hswp m hm
      rw [e]; exact .inr ⟨m', hm', rfl⟩
end Go.Proofs.Ytgmfbjehdcdioaa

import Derived.Test.YtgmfbjehdcdioaaOfM
set_option linter.unusedSimpArgs false
set_option linter.unusedVariables false
set_option maxRecDepth 100000
namespace Go.Proofs.Ytgmfbjehdcdioaa
open Go.RowKit Go.Sort

def box5 (a b c d e : Value) : Nat → Value
  | 0 => a
  | 1 => b
  | 2 => c
  | 3 => d
  | _ => e
def Cn.key (x : Cn) : Vk := ⟨x.k, x.n, x.s⟩
def entsE (E : Nat → Nat × Cn) (n : Nat) : List (Vk × Nat) := (lisE E n).map fun e => (e.2.key, e.1)

/-- A sketch in memory. -/
structure Of (w : World) (b k tot fl mb : Nat) (S : Value) (n : Nat) (E : Nat → Nat × Cn) (L : List (Vk × Nat)) : Prop where
  box : w.rowIs b 54 5 (box5 (.int .i64 k) (.int .i64 tot) (.int .i64 fl) (.map (some mb)) S)
  qu : Qu w b S n E
  ne : ∀ i, fq S n E i → i ≠ b
  map : MapAt w mb L
  same : L.Perm (entsE E n)
  heap : Heap n (keyE E)

theorem atK_some {L : List (Vk × Nat)} {x : Vk} {j p : Nat} (h : atK L x = some (j, p)) : L[j]? = some (x, p) := by
  unfold atK at h
  cases hf : L.findIdx? fun q => decide (x = q.1) with
  | none => rw [hf] at h; simp at h
  | some i =>
    rw [hf] at h
    simp only [Option.bind_some, Option.map_eq_some_iff] at h
    obtain ⟨q, hq, he⟩ := h
    cases he
    have := List.findIdx?_eq_some_iff_getElem.1 hf
    obtain ⟨hi, h1, _⟩ := this
    rw [List.getElem?_eq_getElem hi] at hq
    cases hq
    simp only [decide_eq_true_eq] at h1
    rw [List.getElem?_eq_getElem hi]
    congr 1
    exact Prod.ext h1.symm rfl
theorem atK_none {L : List (Vk × Nat)} {x : Vk} (h : atK L x = none) : ∀ q ∈ L, q.1 ≠ x := by
  unfold atK at h
  cases hf : L.findIdx? fun q => decide (x = q.1) with
  | none =>
    intro q hq e
    have := List.findIdx?_eq_none_iff.1 hf q hq
    simp only [decide_eq_false_iff_not] at this
    exact this e.symm
  | some i =>
    rw [hf] at h
    have := List.findIdx?_eq_some_iff_getElem.1 hf
    obtain ⟨hi, _⟩ := this
    simp [List.getElem?_eq_getElem hi] at h
theorem Of.found {w : World} {b k tot fl mb n : Nat} {S : Value} {E : Nat → Nat × Cn} {L : List (Vk × Nat)} (h : Of w b k tot fl mb S n E L) {x : Vk} {j p : Nat} (hx : atK L x = some (j, p)) : ∃ i, i < n ∧ (E i).1 = p ∧ (E i).2.key = x := by
  have h1 := List.mem_of_getElem? (atK_some hx)
  have h2 := h.same.mem_iff.1 h1
  obtain ⟨e, he, heq⟩ := List.mem_map.1 h2
  obtain ⟨i, hi, rfl⟩ := List.mem_map.1 he
  simp only [Prod.mk.injEq] at heq
  exact ⟨i, List.mem_range.1 hi, heq.2, heq.1⟩
theorem Of.missing {w : World} {b k tot fl mb n : Nat} {S : Value} {E : Nat → Nat × Cn} {L : List (Vk × Nat)} (h : Of w b k tot fl mb S n E L) {x : Vk} (hx : atK L x = none) : ∀ i, i < n → (E i).2.key ≠ x := fun i hi e =>
  atK_none hx (((E i).2.key), (E i).1) (h.same.mem_iff.2 (List.mem_map.2 ⟨E i, List.mem_map.2 ⟨i, List.mem_range.2 hi, rfl⟩, rfl⟩)) e

theorem Of.facts {w : World} {b k tot fl mb n : Nat} {S : Value} {E : Nat → Nat × Cn} {L : List (Vk × Nat)} (h : Of w b k tot fl mb S n E L) : w.cell? ⟨b, 0, none⟩ = some (.int .i64 k) ∧ w.cell? ⟨b, 1, none⟩ = some (.int .i64 tot) ∧ w.cell? ⟨b, 2, none⟩ = some (.int .i64 fl) ∧ w.cell? ⟨b, 3, none⟩ = some (.map (some mb)) ∧ w.cell? ⟨b, 4, none⟩ = some S ∧
    w.frozen? ⟨b, 1, none⟩ = false ∧ w.frozen? ⟨b, 2, none⟩ = false ∧ w.frozen? ⟨b, 3, none⟩ = false ∧ w.frozen? ⟨b, 4, none⟩ = false :=
  ⟨h.box.cell (i := 0) (by omega), h.box.cell (i := 1) (by omega), h.box.cell (i := 2) (by omega), h.box.cell (i := 3) (by omega), h.box.cell (i := 4) (by omega), h.box.frozen _, h.box.frozen _, h.box.frozen _, h.box.frozen _⟩

theorem total_any {w : World} {b k tot fl mb n : Nat} {S : Value} {E : Nat → Nat × Cn} {L : List (Vk × Nat)} (h : Of w b k tot fl mb S n E L) : Calls Try.prog 12 #[.pointer (some ⟨b, 0, none⟩)] w fun e w' => e = .returned (.int .i64 tot) ∧ w' = w := by
  obtain ⟨c0, c1, c2, c3, c4, f1, f2, f3, f4⟩ := h.facts
  clear h
  go_enter Try.func12, Try.ntmps12
  go_wp2
  go_ret
  exact ⟨rfl, rfl⟩

/-- What bounds answers. -/
def BdA (fl n : Nat) (E : Nat → Nat × Cn) (x : Vk) (e : Ending) : Prop :=
  (∃ i, i < n ∧ (E i).2.key = x ∧ e = .returned (.tuple #[.int .i64 (E i).2.lo, .int .i64 (E i).2.hi])) ∨ ((∀ i, i < n → (E i).2.key ≠ x) ∧ e = .returned (.tuple #[.int .i64 0, .int .i64 fl]))

set_option maxHeartbeats 1000000 in
theorem bounds_any {w : World} {b k tot fl mb n : Nat} {S : Value} {E : Nat → Nat × Cn} {L : List (Vk × Nat)} (h : Of w b k tot fl mb S n E L) (x : Vk) : Calls Try.prog 31 #[.pointer (some ⟨b, 0, none⟩), x.v] w fun e w' => BdA fl n E x e ∧ Below w.heap.size w w' := by
  obtain ⟨c0, c1, c2, c3, c4, f1, f2, f3, f4⟩ := h.facts
  obtain ⟨v, hv⟩ : ∃ v, x.v = v := ⟨_, rfl⟩
  have hvo : v = .agg #[.int .i64 x.k, .int .i64 x.n, .string x.s] := by rw [← hv]; rfl
  have HM : Hid (∀ W, (∀ q, q < w.heap.size → W.heap[q]? = w.heap[q]?) → MapAt W mb L) := fun W hW => by
    obtain ⟨es, clk, hh, he⟩ := h.map
    exact ⟨es, clk, by rw [hW mb (Array.getElem?_eq_some_iff.1 hh).1]; exact hh, he⟩
  have hal : ∀ q, q < w.heap.size → (w.alloc (.cells #[.int .i64 x.k, .int .i64 x.n, .string x.s] 34)).heap[q]? = w.heap[q]? := fun q hq => (below_alloc (Below.refl _ _) _).block q hq
  have HAB : Hid (Below w.heap.size w (w.alloc (.cells #[.int .i64 x.k, .int .i64 x.n, .string x.s] 34))) := below_alloc (Below.refl _ _) _
  have g2 := cell_later (unhide HAB) c2
  have g3 := cell_later (unhide HAB) c3
  have hbn : ¬ w.heap.size = b := by have := h.box.lt; omega
  have hbn' : ¬ b = w.heap.size := by have := h.box.lt; omega
  cases hx : atK L x with
  | none =>
    have HB : Hid (BdA fl n E x (.returned (.tuple #[.int .i64 0, .int .i64 fl]))) := .inr ⟨h.missing hx, rfl⟩
    have hlk : ∀ W : World, (∀ q, q < w.heap.size → W.heap[q]? = w.heap[q]?) → (Instr.lookup 50 (.map (some mb)) (.agg #[.int .i64 x.k, .int .i64 x.n, .string x.s]) true).run Try.prog W = .ok (.tuple #[.pointer none, .bool false]) W := fun W hW => look_no (unhide HM W hW) hx
    have hlk1 := hlk (w.alloc (.cells #[.int .i64 x.k, .int .i64 x.n, .string x.s] 34)).drew hal
    clear h hlk
    rw [hv, hvo]
    go_enter Try.func31, Try.ntmps31
    go_upto_region 1 with fail
    go_region_law (fail)
    all_goals
      go_upto_region 4 with fail
      go_region_law (fail)
      all_goals
        go_wp2
        refine bodyPost_ret (v := .tuple #[.int .i64 0, .int .i64 fl]) (by simp [results, Try.results31, go_sem]) rfl ⟨unhide HB, (unhide HAB).drew.drew⟩
  | some jp =>
    obtain ⟨j, p⟩ := jp
    obtain ⟨i, hi, hp, hkey⟩ := h.found hx
    have hc := h.qu.ctr i hi
    rw [hp] at hc
    have d3 := hc.cell (i := 3) (by omega)
    have d4 := hc.cell (i := 4) (by omega)
    have e3 := cell_later (unhide HAB) d3
    have e4 := cell_later (unhide HAB) d4
    have HB : Hid (BdA fl n E x (.returned (.tuple #[.int .i64 (E i).2.lo, .int .i64 (E i).2.hi]))) := .inl ⟨i, hi, hkey, rfl⟩
    have hlk : ∀ W : World, (∀ q, q < w.heap.size → W.heap[q]? = w.heap[q]?) → (Instr.lookup 50 (.map (some mb)) (.agg #[.int .i64 x.k, .int .i64 x.n, .string x.s]) true).run Try.prog W = .ok (.tuple #[.pointer (some ⟨p, 0, none⟩), .bool true]) W := fun W hW => look_yes (unhide HM W hW) hx
    have hlk1 := hlk (w.alloc (.cells #[.int .i64 x.k, .int .i64 x.n, .string x.s] 34)).drew hal
    simp only [box6] at d3 d4 e3 e4
    obtain ⟨lo, hlo⟩ : ∃ lo, (E i).2.lo = lo := ⟨_, rfl⟩
    obtain ⟨hi', hhi⟩ : ∃ hi', (E i).2.hi = hi' := ⟨_, rfl⟩
    rw [hlo] at d3 e3 HB
    rw [hhi] at d4 e4 HB
    have hpl : p < w.heap.size := hc.lt
    have hpn : ¬ w.heap.size = p := by omega
    have hpn' : ¬ p = w.heap.size := by omega
    clear h hlk hc hp hkey hlo hhi
    rw [hv, hvo]
    go_enter Try.func31, Try.ntmps31
    go_upto_region 1 with fail
    go_region_law (fail)
    all_goals
      go_upto_region 3 with fail
      go_region_law (fail)
      all_goals
        go_wp2
        refine bodyPost_ret (v := .tuple #[.int .i64 lo, .int .i64 hi']) (by simp [results, Try.results31, go_sem]) rfl ⟨unhide HB, (unhide HAB).drew.drew⟩
end Go.Proofs.Ytgmfbjehdcdioaa

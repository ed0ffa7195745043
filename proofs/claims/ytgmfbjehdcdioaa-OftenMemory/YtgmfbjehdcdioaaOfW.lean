import Derived.Test.YtgmfbjehdcdioaaOfV
set_option linter.unusedSimpArgs false
set_option linter.unusedVariables false
set_option maxRecDepth 100000
namespace Go.Proofs.Ytgmfbjehdcdioaa
open Go.RowKit Go.Sort

theorem Vk.open_ (x : Vk) : x.v = .agg #[.int .i64 x.k, .int .i64 x.n, .string x.s] := rfl
def Vk.null : Vk := ⟨0, 0, ⟨#[]⟩⟩
def Vk.num (n : Int) : Vk := ⟨1, n, ⟨#[]⟩⟩
def Vk.str (s : ByteArray) : Vk := ⟨2, 0, s⟩
def cleanK (x : Vk) : Vk := if x.k == 1 then .num x.n else if x.k == 2 then .str x.s else .null
theorem clean_clean (x : Vk) : cleanK (cleanK x) = cleanK x := by
  unfold cleanK
  by_cases h1 : x.k == 1
  · simp [h1, Vk.num]
  · by_cases h2 : x.k == 2
    · simp [h1, h2, Vk.str]
    · simp [h1, h2, Vk.null]

theorem number_any (n : Int) (w : World) : Calls Try.prog 24 #[.int .i64 n] w fun e w' => e = .returned (Vk.num n).v ∧ Below w.heap.size w w' := by
  unfold Vk.v Vk.num
  go_enter Try.func24, Try.ntmps24
  go_wp2
  exact bodyPost_ret (v := .agg #[.int .i64 1, .int .i64 n, .string ⟨#[]⟩]) (by simp [results, Try.results24, go_sem]) rfl ⟨rfl, (Below.refl _ _).alloc (Nat.le_refl _) _⟩
theorem text_any (s : ByteArray) (w : World) : Calls Try.prog 25 #[.string s] w fun e w' => e = .returned (Vk.str s).v ∧ Below w.heap.size w w' := by
  unfold Vk.v Vk.str
  go_enter Try.func25, Try.ntmps25
  go_wp2
  exact bodyPost_ret (v := .agg #[.int .i64 2, .int .i64 0, .string s]) (by simp [results, Try.results25, go_sem]) rfl ⟨rfl, (Below.refl _ _).alloc (Nat.le_refl _) _⟩

set_option maxHeartbeats 1000000 in
theorem clean_any (x : Vk) (w : World) : Calls Try.prog 9 #[x.v] w fun e w' => e = .returned (cleanK x).v ∧ Below w.heap.size w w' := by
  rw [x.open_]
  rcases Bool.eq_false_or_eq_true (x.k == 1) with k1 | k1
  · have hv : cleanK x = .num x.n := by simp [cleanK, k1]
    rw [hv]
    clear hv
    go_enter Try.func9, Try.ntmps9
    go_wp2_with (go_at_call 24; refine (number_any _ _).mono ?_; rintro e w1 ⟨rfl, hb1⟩; obtain ⟨hc1, hf1⟩ := bcell hb1; rw [Vk.open_])
    refine bodyPost_ret (v := (Vk.num x.n).v) (by simp [results, Try.results9, go_sem, Vk.v, Vk.num, hc1, hf1]) rfl ⟨rfl, ?_⟩
    (repeat (first | exact Below.refl _ _ | refine Below.alloc ?_ (by simp <;> omega) _ | refine Below.setCell ?_ (by simp <;> omega) _ | refine Below.trans ?_ (Below.mono (by assumption) (by first | omega | (simp; omega)))))
  · rcases Bool.eq_false_or_eq_true (x.k == 2) with k2 | k2
    · have hv : cleanK x = .str x.s := by simp [cleanK, k1, k2]
      rw [hv]
      clear hv
      go_enter Try.func9, Try.ntmps9
      go_wp2_with (go_at_call 25; refine (text_any _ _).mono ?_; rintro e w1 ⟨rfl, hb1⟩; obtain ⟨hc1, hf1⟩ := bcell hb1; rw [Vk.open_])
      refine bodyPost_ret (v := (Vk.str x.s).v) (by simp [results, Try.results9, go_sem, Vk.v, Vk.str, hc1, hf1]) rfl ⟨rfl, ?_⟩
      (repeat (first | exact Below.refl _ _ | refine Below.alloc ?_ (by simp <;> omega) _ | refine Below.setCell ?_ (by simp <;> omega) _ | refine Below.trans ?_ (Below.mono (by assumption) (by first | omega | (simp; omega)))))
    · have hv : cleanK x = .null := by simp [cleanK, k1, k2]
      rw [hv]
      clear hv
      go_enter Try.func9, Try.ntmps9
      go_wp2
      refine bodyPost_ret (v := Vk.null.v) (by simp [results, Try.results9, go_sem, Vk.v, Vk.null]) rfl ⟨rfl, ?_⟩
      (repeat (first | exact Below.refl _ _ | refine Below.alloc ?_ (by simp <;> omega) _ | refine Below.setCell ?_ (by simp <;> omega) _))

theorem Of.put1 {w : World} {b k tot T' fl mb n : Nat} {S : Value} {E : Nat → Nat × Cn} {L : List (Vk × Nat)} (h : Of w b k tot fl mb S n E L) : Of (w.setCell ⟨b, 1, none⟩ (.int .i64 T')) b k T' fl mb S n E L ∧ Ky (footO b mb S n E) w (w.setCell ⟨b, 1, none⟩ (.int .i64 T')) := by
  obtain ⟨n1, n2⟩ := h.mapne
  have hbx := (h.box.set 1 (.int .i64 T')).congr (g := box5 (.int .i64 k) (.int .i64 T') (.int .i64 fl) (.map (some mb)) S) fun i hi => by
    match i, hi with
    | 0, _ => rfl
    | 1, _ => rfl
    | 2, _ => rfl
    | 3, _ => rfl
    | 4, _ => rfl
  refine ⟨⟨hbx, ⟨?_, own_keep h.qu.lst fun g hg => Below.heap_setCell _ _ _ _ (h.ne g (.inl hg)), fun i hi => (h.qu.ctr i hi).setOther (h.ne _ (.inr ⟨i, hi, rfl⟩)) _, h.qu.nod⟩, h.ne, ?_, h.same, h.heap⟩, ky_set _ _ _ (.inl rfl)⟩
  · exact hbx.cell (i := 4) (by omega)
  · obtain ⟨es, clk, hh, he⟩ := h.map
    exact ⟨es, clk, by rw [Below.heap_setCell _ _ _ _ n2]; exact hh, he⟩
theorem cnt_zero {α : Type} [DecidableEq α] (xs : List (α × Nat)) (x v : α) : cnt (xs ++ [(x, 0)]) v = cnt xs v := by
  rw [cnt_app, cnt_one]; split <;> rfl
theorem Loose.zero {α : Type} [DecidableEq α] {k fl : Nat} {cs : List (Ct α)} {xs : List (α × Nat)} (h : Loose k fl cs xs) (x : α) : Loose k fl cs (xs ++ [(x, 0)]) :=
  ⟨h.once, h.above, h.near, h.pos, fun c hc => by rw [cnt_zero]; exact h.low c hc, fun c hc => by rw [cnt_zero]; exact h.high c hc, fun v hv => by rw [cnt_zero]; exact h.rest v hv, by rw [tot_app, tot_one]; exact h.sum⟩
theorem SkT.later {w w' : World} {b k T : Nat} {F : Ft} {xs : List (Vk × Nat)} (h : SkT w b k T F xs) (hb : Below w.heap.size w w') : SkT w' b k T F xs := by
  obtain ⟨fl, L, h1, h2⟩ := h
  exact ⟨fl, L, h1.later hb, h2⟩
theorem SkT.put {w : World} {b k T T' : Nat} {F : Ft} {xs : List (Vk × Nat)} (h : SkT w b k T F xs) : SkT (w.setCell ⟨b, 1, none⟩ (.int .i64 T')) b k T' F xs ∧ Ky (foot b F) w (w.setCell ⟨b, 1, none⟩ (.int .i64 T')) := by
  obtain ⟨fl, L, h1, h2⟩ := h
  exact ⟨⟨fl, L, h1.put1.1, h2⟩, h1.put1.2⟩
theorem Aft.refl (w : World) (b : Nat) (F : Ft) : Aft w w b F F := ⟨Ky.refl _ _, fun q hq => .inl hq⟩
theorem Aft.of_below {w w' : World} {b : Nat} {F : Ft} (h : Below w.heap.size w w') : Aft w w' b F F := ⟨Ky.of_below h, fun q hq => .inl hq⟩
theorem Aft.trans {w w1 w2 : World} {b : Nat} {F F1 F2 : Ft} (h : Aft w w1 b F F1) (k : Aft w1 w2 b F1 F2) : Aft w w2 b F F2 :=
  ⟨h.1.trans k.1 fun q hq => h.2 q hq, fun q hq => by
    rcases k.2 q hq with g | g
    · exact h.2 q g
    · exact .inr (Nat.le_trans h.1.size g)⟩

/-- What Add answers. -/
def AdA (w : World) (b k : Nat) (F : Ft) (xs : List (Vk × Nat)) (x : Vk) (n : Int) (e : Ending) (w' : World) : Prop :=
  (n < 0 ∧ e = .returned (.int .i64 1) ∧ Below w.heap.size w w') ∨ (0 ≤ n ∧ 4611686018427387904 - (tot xs : Int) < n ∧ e = .returned (.int .i64 3) ∧ Below w.heap.size w w') ∨
  (0 ≤ n ∧ n ≤ 4611686018427387904 - (tot xs : Int) ∧ e = .returned (.int .i64 0) ∧ ∃ F', SkO w' b k F' (xs ++ [(cleanK x, n.toNat)]) ∧ Aft w w' b F F')

set_option maxHeartbeats 1000000 in
theorem add_any {w : World} {b k : Nat} {F : Ft} {xs : List (Vk × Nat)} (h : SkO w b k F xs) (hk : k ≤ 1024) (x : Vk) (n : Int) :
    Calls Try.prog 8 #[.pointer (some ⟨b, 0, none⟩), x.v, .int .i64 n] w fun e w' => AdA w b k F xs x n e w' := by
  obtain ⟨W1, hW1⟩ : ∃ W1, w.alloc (.cells #[.int .i64 x.k, .int .i64 x.n, .string x.s] 34) = W1 := ⟨_, rfl⟩
  have hB1 : Below w.heap.size w W1 := by rw [← hW1]; exact below_alloc (Below.refl _ _) _
  have h1 := h.1.later hB1
  have v0 : W1.cell? ⟨w.heap.size, 0, none⟩ = some (.int .i64 x.k) := by rw [← hW1]; simp [go_sem]
  have v1 : W1.cell? ⟨w.heap.size, 1, none⟩ = some (.int .i64 x.n) := by rw [← hW1]; simp [go_sem]
  have v2 : W1.cell? ⟨w.heap.size, 2, none⟩ = some (.string x.s) := by rw [← hW1]; simp [go_sem]
  obtain ⟨T, hT⟩ : ∃ T, tot xs = T := ⟨_, rfl⟩
  have hT2 := h.2
  rw [hT] at hT2
  have hbl : b < w.heap.size := by obtain ⟨fl, L, q, _⟩ := h.1; exact q.box.lt
  have hbn : ¬ b = w.heap.size := by omega
  have hbn' : ¬ w.heap.size = b := by omega
  obtain ⟨c1, f1⟩ : W1.cell? ⟨b, 1, none⟩ = some (.int .i64 T) ∧ W1.frozen? ⟨b, 1, none⟩ = false := by
    obtain ⟨fl, L, q, _⟩ := h1
    rw [← hT]
    exact ⟨q.facts.2.1, q.facts.2.2.2.2.2.1⟩
  have HB1 := hide hB1
  have hT0 : (0 : Int) ≤ (T : Int) := by omega
  have hT3 : (T : Int) ≤ 4611686018427387904 := by omega
  by_cases n0 : n < 0
  · have HR : Hid (AdA w b k F xs x n (.returned (.int .i64 1)) W1) := .inl ⟨n0, rfl, hB1⟩
    clear h h1
    rw [x.open_]
    go_enter Try.func8, Try.ntmps8
    go_wp2
    go_ret
    exact unhide HR
  · by_cases n1 : 4611686018427387904 - (T : Int) < n
    · have HR : Hid (AdA w b k F xs x n (.returned (.int .i64 3)) W1) := .inr (.inl ⟨by omega, by rw [hT]; exact n1, rfl, hB1⟩)
      clear h h1
      have n0' : 0 ≤ n := by omega
      rw [x.open_]
      go_enter Try.func8, Try.ntmps8
      go_wp2
      go_ret
      exact unhide HR
    · obtain ⟨m, rfl⟩ : ∃ m : Nat, n = (m : Int) := ⟨n.toNat, by omega⟩
      have hp := h1.put (T' := T + m)
      have hmT : (T : Int) + (m : Int) ≤ 4611686018427387904 := by omega
      have eTm : (((T + m : Nat)) : Int) = (T : Int) + (m : Int) := by omega
      rw [eTm] at hp
      have hA1 : Aft w (W1.setCell ⟨b, 1, none⟩ (.int .i64 ((T : Int) + (m : Int)))) b F F := (Aft.of_below hB1).trans ⟨hp.2, fun q hq => .inl hq⟩
      by_cases hm : 0 < m
      · have HCT : Hid (∀ W2, Below (W1.setCell ⟨b, 1, none⟩ (.int .i64 ((T : Int) + (m : Int)))).heap.size (W1.setCell ⟨b, 1, none⟩ (.int .i64 ((T : Int) + (m : Int)))) W2 → Calls Try.prog 23 #[.pointer (some ⟨b, 0, none⟩), (cleanK x).v, .int .i64 m] W2 fun e w' => e = .returned (.tuple #[]) ∧ AdA w b k F xs x (m : Int) (.returned (.int .i64 0)) w') := fun W2 hW2 => by
          refine (count_step (hp.1.later hW2) hk hm (by rw [hT]; omega)).mono ?_
          rintro e w' ⟨rfl, F', r1, r2⟩
          refine ⟨rfl, .inr (.inr ⟨by omega, by rw [hT]; omega, rfl, F', ⟨?_, ?_⟩, (hA1.trans (Aft.of_below hW2)).trans r2⟩)⟩
          · rw [tot_app, tot_one, hT]; exact r1
          · rw [tot_app, tot_one, hT]; simp; omega
        have n0' : (0 : Int) < (m : Int) := by omega
        have n1' : ¬ 4611686018427387904 - (T : Int) < (m : Int) := n1
        clear h h1 hp hA1 n0 n1 eTm hm hT
        rw [x.open_]
        have HCL : Hid (∀ W, Calls Try.prog 9 #[.agg #[.int .i64 x.k, .int .i64 x.n, .string x.s]] W fun e w' => e = .returned (cleanK x).v ∧ Below W.heap.size W w') := fun W => clean_any x W
        go_enter Try.func8, Try.ntmps8
        go_wp2_with (first | (go_at_call 9; refine (unhide HCL _).mono ?_; rintro _ w2 ⟨rfl, hb2⟩; have HC := hide (unhide HCT w2 hb2); clear hb2) | (go_at_call 23; refine (unhide HC).mono ?_; rintro _ w3 ⟨rfl, HR⟩; replace HR := hide HR))
        go_ret
        exact unhide HR
      · obtain rfl : m = 0 := by omega
        have HR : Hid (AdA w b k F xs x ((0 : Nat) : Int) (.returned (.int .i64 0)) (W1.setCell ⟨b, 1, none⟩ (.int .i64 ((T : Int) + 0)))) := by
          refine .inr (.inr ⟨by omega, by rw [hT]; omega, rfl, F, ⟨?_, ?_⟩, hA1⟩)
          · obtain ⟨fl, L, q1, q2, q3⟩ := hp.1
            rw [tot_app, tot_one, hT]
            exact ⟨fl, L, by have := q1; simpa using this, q2.zero _, q3⟩
          · rw [tot_app, tot_one, hT]; simp; omega
        clear h h1 hp hA1 n0 n1 eTm hT
        have n1' : ¬ 4611686018427387904 - (T : Int) < 0 := by omega
        rw [x.open_]
        simp only [Int.ofNat_zero, Int.add_zero, Int.natCast_zero] at HR ⊢
        go_enter Try.func8, Try.ntmps8
        go_wp2
        go_ret
        exact unhide HR

/-- What Tell answers: bounds that hold. -/
def TlA (fl n : Nat) (E : Nat → Nat × Cn) (x : Vk) (e : Ending) : Prop := BdA fl n E (cleanK x) e

set_option maxHeartbeats 1000000 in
theorem tell_any {w : World} {b k tot fl mb n : Nat} {S : Value} {E : Nat → Nat × Cn} {L : List (Vk × Nat)} (h : Of w b k tot fl mb S n E L) (x : Vk) : Calls Try.prog 27 #[.pointer (some ⟨b, 0, none⟩), x.v] w fun e w' => TlA fl n E x e ∧ Below w.heap.size w w' := by
  obtain ⟨W1, hW1⟩ : ∃ W1, w.alloc (.cells #[.int .i64 x.k, .int .i64 x.n, .string x.s] 34) = W1 := ⟨_, rfl⟩
  have hB1 : Below w.heap.size w W1 := by rw [← hW1]; exact below_alloc (Below.refl _ _) _
  have v0 : W1.cell? ⟨w.heap.size, 0, none⟩ = some (.int .i64 x.k) := by rw [← hW1]; simp [go_sem]
  have v1 : W1.cell? ⟨w.heap.size, 1, none⟩ = some (.int .i64 x.n) := by rw [← hW1]; simp [go_sem]
  have v2 : W1.cell? ⟨w.heap.size, 2, none⟩ = some (.string x.s) := by rw [← hW1]; simp [go_sem]
  have HCL : Hid (∀ W, Calls Try.prog 9 #[.agg #[.int .i64 x.k, .int .i64 x.n, .string x.s]] W fun e w' => e = .returned (cleanK x).v ∧ Below W.heap.size W w') := fun W => clean_any x W
  have HBD : Hid (∀ W2, Below W1.heap.size W1 W2 → Calls Try.prog 31 #[.pointer (some ⟨b, 0, none⟩), (cleanK x).v] W2 fun e w' => ∃ a c : Int, e = .returned (.tuple #[.int .i64 a, .int .i64 c]) ∧ TlA fl n E x e ∧ Below w.heap.size w w') := fun W2 hW2 => by
    refine (bounds_any ((h.later hB1).later hW2) (cleanK x)).mono ?_
    rintro e w' ⟨r1, r2⟩
    have hb := below_step (below_step hB1 hW2) r2
    rcases id r1 with ⟨i, _, _, rfl⟩ | ⟨_, rfl⟩
    · exact ⟨_, _, rfl, r1, hb⟩
    · exact ⟨_, _, rfl, r1, hb⟩
  clear h hB1
  rw [x.open_]
  go_enter Try.func27, Try.ntmps27
  go_wp2_with (first | (go_at_call 9; refine (unhide HCL _).mono ?_; rintro _ w2 ⟨rfl, hb2⟩; have HC := hide (unhide HBD w2 hb2); clear hb2) | (go_at_call 31; refine (unhide HC).mono ?_; rintro _ w3 ⟨a, c, rfl, HR⟩; replace HR := hide HR))
  refine bodyPost_ret (v := .tuple #[.int .i64 a, .int .i64 c]) (by simp [results, Try.results27, go_sem]) rfl (unhide HR)

theorem loose_tell {k fl n : Nat} {E : Nat → Nat × Cn} {xs : List (Vk × Nat)} (h : Loose k fl (cts E n) xs) {x : Vk} {e : Ending} (ht : TlA fl n E x e) : e = .returned (.tuple #[.int .i64 (loOf (cts E n) (cleanK x)), .int .i64 (hiOf fl (cts E n) (cleanK x))]) := by
  rcases ht with ⟨i, hi, hk, rfl⟩ | ⟨hk, rfl⟩
  · have hm := cts_mem (E := E) hi
    have e1 := lo_in h.once hm
    have e2 := hi_in (fl := fl) h.once hm
    have e3 : (ctOf (E i)).v = cleanK x := hk
    rw [e3] at e1 e2
    rw [e1, e2]; rfl
  · have hn : ∀ c ∈ cts E n, c.v ≠ cleanK x := fun c hc => by
      obtain ⟨e, he, rfl⟩ := List.mem_map.1 hc
      obtain ⟨i, hi, rfl⟩ := List.mem_map.1 he
      exact hk i (List.mem_range.1 hi)
    rw [lo_out hn, hi_out hn]; rfl

theorem new_bad (k : Int) (w : World) (h : k < 1 ∨ 1024 < k) : Calls Try.prog 5 #[.int .i64 k] w fun e w' => e = .returned (.tuple #[.pointer none, .int .i64 1]) ∧ w' = w := by
  rcases h with h | h
  · have h' : decide (k < 1) = true := by simpa using h
    go_enter Try.func5, Try.ntmps5
    go_wp2
    refine bodyPost_ret (v := .tuple #[.pointer none, .int .i64 1]) (by simp [results, Try.results5, go_sem]) rfl ⟨rfl, rfl⟩
  · have h1 : 1 ≤ k := by omega
    have h' : decide (k < 1) = false := by simpa using h1
    go_enter Try.func5, Try.ntmps5
    go_wp2
    refine bodyPost_ret (v := .tuple #[.pointer none, .int .i64 1]) (by simp [results, Try.results5, go_sem]) rfl ⟨rfl, rfl⟩
end Go.Proofs.Ytgmfbjehdcdioaa

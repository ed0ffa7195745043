import Derived.Test.YtgmfbjehdcdioaaOfU
set_option linter.unusedSimpArgs false
set_option linter.unusedVariables false
set_option maxRecDepth 100000
namespace Go.Proofs.Ytgmfbjehdcdioaa
open Go.RowKit Go.Sort

def ctOf (e : Nat × Cn) : Ct Vk := ⟨e.2.key, e.2.lo, e.2.hi⟩
def cts (E : Nat → Nat × Cn) (n : Nat) : List (Ct Vk) := (lisE E n).map ctOf
theorem cts_mem {E : Nat → Nat × Cn} {n i : Nat} (h : i < n) : ctOf (E i) ∈ cts E n := List.mem_map.2 ⟨E i, List.mem_map.2 ⟨i, List.mem_range.2 h, rfl⟩, rfl⟩

theorem perm_at {β : Type} {l : List β} {i : Nat} {a : β} (h : l[i]? = some a) : l.Perm (a :: l.eraseIdx i) := by
  obtain ⟨hl, he⟩ := List.getElem?_eq_some_iff.1 h
  rw [List.eraseIdx_eq_take_drop_succ]
  refine List.Perm.trans ?_ (List.perm_middle (a := a) (l₁ := l.take i) (l₂ := l.drop (i + 1)))
  rw [← he, List.getElem_cons_drop, List.take_append_drop]
theorem perm_set {β : Type} {l : List β} {i : Nat} (v : β) (h : i < l.length) : (l.set i v).Perm (v :: l.eraseIdx i) := by
  have h1 : (l.set i v)[i]? = some v := by simp [h]
  have h2 := perm_at h1
  rw [List.eraseIdx_set_eq] at h2
  exact h2
theorem lisE_set (E : Nat → Nat × Cn) (n : Nat) {i : Nat} (hi : i < n) (v : Nat × Cn) : lisE (upE E i v) n = (lisE E n).set i v := by
  apply List.ext_getElem?
  intro m
  by_cases hm : m < n
  · rw [lisE_at _ hm]
    by_cases e : m = i
    · subst e; rw [List.getElem?_set_self (by simpa [lisE_len] using hm), upE_s]
    · rw [List.getElem?_set_ne (Ne.symm e), lisE_at _ hm, upE_o e]
  · rw [List.getElem?_eq_none (by simp [lisE_len]; omega), List.getElem?_eq_none (by simp [lisE_len]; omega)]

theorem Loose.hi_le {α : Type} [DecidableEq α] {k fl : Nat} {cs : List (Ct α)} {xs : List (α × Nat)} (h : Loose k fl cs xs) {c : Ct α} (hc : c ∈ cs) : c.hi ≤ tot xs ∧ c.lo ≤ tot xs ∧ fl ≤ tot xs := by
  have h1 := h.sum
  have h2 := h.above c hc
  have h3 : c.hi - fl ≤ over fl cs := by
    obtain ⟨i, hi, rfl⟩ := List.mem_iff_getElem.1 hc
    have := over_perm (fl := fl) (perm_at (l := cs) (List.getElem?_eq_getElem hi))
    rw [this, over_cons]; omega
  have h4 : (k + 1) * fl = k * fl + fl := by rw [Nat.add_mul, Nat.one_mul]
  have h5 := h.low c hc
  have h6 := cnt_le xs c.v
  refine ⟨by omega, by omega, by omega⟩
theorem Loose.fl_le {α : Type} [DecidableEq α] {k fl : Nat} {cs : List (Ct α)} {xs : List (α × Nat)} (h : Loose k fl cs xs) : fl ≤ tot xs := by
  have h1 := h.sum
  have h4 : (k + 1) * fl = k * fl + fl := by rw [Nat.add_mul, Nat.one_mul]
  omega
theorem once_of {k fl n : Nat} {E : Nat → Nat × Cn} {xs : List (Vk × Nat)} (h : Loose k fl (cts E n) xs) : Once E n := by
  rw [once_nodup]
  have := h.once
  unfold cts at this
  rw [List.map_map] at this
  exact this

/-- The memory of a sketch, but for its box. -/
structure Ft where
  mb : Nat
  S : Value
  n : Nat
  E : Nat → Nat × Cn
def foot (b : Nat) (F : Ft) : Nat → Prop := footO b F.mb F.S F.n F.E

/-- A sketch whose total is T, and of what has come xs. -/
def SkT (w : World) (b k T : Nat) (F : Ft) (xs : List (Vk × Nat)) : Prop := ∃ fl L, Of w b k T fl F.mb F.S F.n F.E L ∧ Loose k fl (cts F.E F.n) xs ∧ F.n ≤ k
def SkO (w : World) (b k : Nat) (F : Ft) (xs : List (Vk × Nat)) : Prop := SkT w b k (tot xs) F xs ∧ tot xs ≤ 4611686018427387904
/-- What a call leaves. -/
def Aft (w w' : World) (b : Nat) (F F' : Ft) : Prop := Ky (foot b F) w w' ∧ ∀ q, foot b F' q → foot b F q ∨ w.heap.size ≤ q

theorem count_step {w : World} {b k T : Nat} {F : Ft} {xs : List (Vk × Nat)} (h : SkT w b k T F xs) (hk : k ≤ 1024) {x : Vk} {m : Nat} (hm : 0 < m) (ht : tot xs + m ≤ 4611686018427387904) :
    Calls Try.prog 23 #[.pointer (some ⟨b, 0, none⟩), x.v, .int .i64 m] w fun e w' => e = .returned (.tuple #[]) ∧ ∃ F', SkT w' b k T F' (xs ++ [(x, m)]) ∧ Aft w w' b F F' := by
  obtain ⟨fl, L, hO, hL, hn⟩ := h
  obtain ⟨mb, S, n, E⟩ := F
  dsimp only at hO hL hn
  cases hx : atK L x with
  | none =>
    have hf := hL.fl_le
    refine (count_new hO (once_of hL) hx (by omega) hk (by omega)).mono ?_
    rintro e w' ⟨rfl, p, S', n', E', L', f', h0, h1, h2, h3, h4⟩
    have hfr : Loose k fl (⟨x, m, fl + m⟩ :: cts E n) (xs ++ [(x, m)]) := hL.fresh (fun c hc => by
      obtain ⟨e, he, rfl⟩ := List.mem_map.1 hc
      obtain ⟨i, hi, rfl⟩ := List.mem_map.1 he
      exact hO.missing hx i (List.mem_range.1 hi)) hm
    have hpe : (⟨x, m, fl + m⟩ :: cts E n : List (Ct Vk)).Perm ((lisE E n ++ [(p, (⟨x.k, x.n, x.s, m, fl + m⟩ : Cn))]).map ctOf) := by
      rw [List.map_append]
      exact (List.perm_append_comm (l₁ := [ctOf (p, ⟨x.k, x.n, x.s, m, fl + m⟩)]) (l₂ := (lisE E n).map ctOf))
    refine ⟨rfl, ⟨mb, S', n', E'⟩, ⟨f', L', h1, ?_⟩, h2, fun q hq => ?_⟩
    · rcases h4 with ⟨g1, rfl, g2⟩ | ⟨g1, g2, ⟨e, he, g3⟩, g4⟩
      · refine ⟨hfr.perm (hpe.trans (g2.map ctOf).symm), ?_⟩
        have := g2.length_eq
        simp [lisE_len] at this
        show n' ≤ k
        omega
      · have hfl : fl ≤ f' := by
          have := hfr.above (ctOf e) (hpe.mem_iff.2 (List.mem_map.2 ⟨e, he, rfl⟩))
          rw [← g3]; exact Nat.le_of_lt this
        have hct : k + 1 ≤ (⟨x, m, fl + m⟩ :: cts E n : List (Ct Vk)).countP fun c => decide (f' ≤ c.hi) := by
          have : (⟨x, m, fl + m⟩ :: cts E n : List (Ct Vk)).countP (fun c => decide (f' ≤ c.hi)) = (⟨x, m, fl + m⟩ :: cts E n : List (Ct Vk)).length := by
            rw [List.countP_eq_length]
            intro c hc
            obtain ⟨e', he', rfl⟩ := List.mem_map.1 (hpe.mem_iff.1 hc)
            exact decide_eq_true (g2 e' he')
          rw [this]; simp [cts, lisE_len]; omega
        have h5 := hfr.raise hfl hct
        have h6 : ((⟨x, m, fl + m⟩ :: cts E n : List (Ct Vk)).filter fun c => decide (f' < c.hi)).Perm (cts E' n') := by
          refine (hpe.filter _).trans ?_
          rw [List.filter_map]
          exact (g4.map ctOf).symm
        refine ⟨h5.perm h6, ?_⟩
        have h7 := g4.length_eq
        have h8 : ((lisE E n ++ [(p, (⟨x.k, x.n, x.s, m, fl + m⟩ : Cn))]).filter fun e => decide (f' < e.2.hi)).length < (lisE E n ++ [(p, (⟨x.k, x.n, x.s, m, fl + m⟩ : Cn))]).length := by
          rw [List.length_filter_lt_length_iff_exists]
          exact ⟨e, he, by simp [g3]⟩
        simp only [List.length_append, lisE_len, List.length_singleton] at h7 h8
        show n' ≤ k
        omega
    · rcases hq with hq | hq | hq
      · exact .inl (.inl hq)
      · exact .inl (.inr (.inl hq))
      · rcases h3 q hq with g | g
        · exact .inl (.inr (.inr g))
        · exact .inr g
  | some jp =>
    obtain ⟨j, p⟩ := jp
    obtain ⟨i, hi, hp, hkey⟩ := hO.found hx
    subst hp
    obtain ⟨b1, b2, b3⟩ := hL.hi_le (cts_mem (E := E) hi)
    simp only [ctOf] at b1 b2
    refine (count_old hO hi hx (by omega) (by omega) (by omega)).mono ?_
    rintro e w' ⟨rfl, E', h1, h2, h3, h4⟩
    have hat : (lisE E n)[i]? = some (E i) := lisE_at E hi
    have p1 : (cts E n).Perm (ctOf (E i) :: ((lisE E n).eraseIdx i).map ctOf) := (perm_at hat).map ctOf
    have p2 : (cts E' n).Perm (ctOf ((E i).1, (E i).2.bump m) :: ((lisE E n).eraseIdx i).map ctOf) := by
      refine (h4.map ctOf).trans ?_
      rw [lisE_set E n hi]
      exact (perm_set _ (by rw [lisE_len]; exact hi)).map ctOf
    have h5 := (hL.perm p1).more (n := m)
    have e1 : (⟨(ctOf (E i)).v, (ctOf (E i)).lo + m, (ctOf (E i)).hi + m⟩ : Ct Vk) = ctOf ((E i).1, (E i).2.bump m) := rfl
    have e2 : (ctOf (E i)).v = x := hkey
    rw [e1, e2] at h5
    refine ⟨rfl, ⟨mb, S, n, E'⟩, ⟨fl, L, h1, h5.perm p2.symm, hn⟩, h2, fun q hq => ?_⟩
    rcases hq with hq | hq | hq
    · exact .inl (.inl hq)
    · exact .inl (.inr (.inl hq))
    · exact .inl (.inr (.inr (h3 q hq)))
end Go.Proofs.Ytgmfbjehdcdioaa

import Derived.Test.YtgmfbjehdcdioaaOgG
set_option linter.unusedSimpArgs false
set_option linter.unusedVariables false
set_option maxRecDepth 100000
namespace Go.Proofs.Ytgmfbjehdcdioaa
open Go.RowKit Go.Sort

def newC (x : Vk) (m fl : Nat) : Cn := ⟨x.k, x.n, x.s, m, fl + m⟩
/-- What becomes of the counters cs with the floor fl where m of x come. -/
def DetR (k fl : Nat) (cs : List Cn) (x : Vk) (m fl' : Nat) (cs' : List Cn) : Prop :=
  (∃ c rest, cs.Perm (c :: rest) ∧ c.key = x ∧ fl' = fl ∧ cs'.Perm (c.bump m :: rest)) ∨
  ((∀ c ∈ cs, c.key ≠ x) ∧ cs.length + 1 ≤ k ∧ fl' = fl ∧ cs'.Perm (cs ++ [newC x m fl])) ∨
  ((∀ c ∈ cs, c.key ≠ x) ∧ k < cs.length + 1 ∧ (∀ e ∈ cs ++ [newC x m fl], fl' ≤ e.hi) ∧ (∃ e ∈ cs ++ [newC x m fl], e.hi = fl') ∧ cs'.Perm ((cs ++ [newC x m fl]).filter fun e => decide (fl' < e.hi)))
theorem det_same {k fl m f1 f2 : Nat} {cs ds cs' ds' : List Cn} {x : Vk} (hp : cs.Perm ds) (hn : (cs.map (·.key)).Nodup) (h1 : DetR k fl cs x m f1 cs') (h2 : DetR k fl ds x m f2 ds') : f1 = f2 ∧ cs'.Perm ds' := by
  have hin : ∀ c rest, cs.Perm (c :: rest) → c.key = x → ¬ ∀ d ∈ cs, d.key ≠ x := fun c rest h e g => g c (h.mem_iff.2 List.mem_cons_self) e
  have hno : (∀ c ∈ ds, c.key ≠ x) → ∀ c ∈ cs, c.key ≠ x := fun h c hc => h c (hp.mem_iff.1 hc)
  have hon : (∀ c ∈ cs, c.key ≠ x) → ∀ c ∈ ds, c.key ≠ x := fun h c hc => h c (hp.mem_iff.2 hc)
  have hap : (cs ++ [newC x m fl]).Perm (ds ++ [newC x m fl]) := hp.append_right _
  rcases h1 with ⟨c, rest, p1, e1, rfl, q1⟩ | ⟨n1, l1, rfl, q1⟩ | ⟨n1, l1, a1, ⟨e1, he1, b1⟩, q1⟩
  · rcases h2 with ⟨d, rest', p2, e2, rfl, q2⟩ | ⟨n2, _⟩ | ⟨n2, _⟩
    · have hcd : c = d := by
        have hnc := (p1.map (·.key)).nodup_iff.1 hn
        rw [List.map_cons, List.nodup_cons] at hnc
        have hd : d ∈ c :: rest := p1.mem_iff.1 (hp.mem_iff.2 (p2.mem_iff.2 List.mem_cons_self))
        rcases List.mem_cons.1 hd with e | e
        · exact e.symm
        · exact absurd (List.mem_map.2 ⟨d, e, by rw [e2, e1]⟩) hnc.1
      subst hcd
      have hr : rest.Perm rest' := ((p1.symm.trans hp).trans p2).cons_inv
      exact ⟨rfl, (q1.trans (hr.cons _)).trans q2.symm⟩
    · exact absurd (hno n2) (hin c rest p1 e1)
    · exact absurd (hno n2) (hin c rest p1 e1)
  · rcases h2 with ⟨d, rest', p2, e2, _, _⟩ | ⟨_, _, rfl, q2⟩ | ⟨_, l2, _⟩
    · exact absurd n1 (hin d rest' (hp.trans p2) e2)
    · exact ⟨rfl, (q1.trans hap).trans q2.symm⟩
    · have := hp.length_eq; omega
  · rcases h2 with ⟨d, rest', p2, e2, _, _⟩ | ⟨_, l2, _⟩ | ⟨n2, l2, a2, ⟨e2, he2, b2⟩, q2⟩
    · exact absurd n1 (hin d rest' (hp.trans p2) e2)
    · have := hp.length_eq; omega
    · have hf : f1 = f2 := by
        have h3 := a1 e2 (hap.mem_iff.2 he2)
        have h4 := a2 e1 (hap.mem_iff.1 he1)
        omega
      subst hf
      exact ⟨rfl, (q1.trans (hap.filter _)).trans q2.symm⟩
/-- A sketch, its floor told. -/
def SkF (w : World) (b k T : Nat) (F : Ft) (xs : List (Vk × Nat)) (fl : Nat) : Prop := ∃ L, Of w b k T fl F.mb F.S F.n F.E L ∧ Loose k fl (cts F.E F.n) xs ∧ F.n ≤ k
theorem SkF.t {w : World} {b k T : Nat} {F : Ft} {xs : List (Vk × Nat)} {fl : Nat} (h : SkF w b k T F xs fl) : SkT w b k T F xs := by obtain ⟨L, h⟩ := h; exact ⟨fl, L, h⟩
theorem SkF.later {w w' : World} {b k T : Nat} {F : Ft} {xs : List (Vk × Nat)} {fl : Nat} (h : SkF w b k T F xs fl) (hb : Below w.heap.size w w') : SkF w' b k T F xs fl := by
  obtain ⟨L, h1, h2⟩ := h
  exact ⟨L, h1.later hb, h2⟩
theorem SkF.put {w : World} {b k T T' : Nat} {F : Ft} {xs : List (Vk × Nat)} {fl : Nat} (h : SkF w b k T F xs fl) : SkF (w.setCell ⟨b, 1, none⟩ (.int .i64 T')) b k T' F xs fl ∧ Ky (foot b F) w (w.setCell ⟨b, 1, none⟩ (.int .i64 T')) := by
  obtain ⟨L, h1, h2⟩ := h
  exact ⟨⟨L, h1.put1.1, h2⟩, h1.put1.2⟩

theorem count_det {w : World} {b k T fl : Nat} {F : Ft} {xs : List (Vk × Nat)} (h : SkF w b k T F xs fl) (hk : k ≤ 1024) {x : Vk} {m : Nat} (hm : 0 < m) (ht : tot xs + m ≤ 4611686018427387904) :
    Calls Try.prog 23 #[.pointer (some ⟨b, 0, none⟩), x.v, .int .i64 m] w fun e w' => e = .returned (.tuple #[]) ∧ ∃ F' fl', SkF w' b k T F' (xs ++ [(x, m)]) fl' ∧ Aft w w' b F F' ∧ DetR k fl (tolds F.E F.n) x m fl' (tolds F'.E F'.n) := by
  obtain ⟨L, hO, hL, hn⟩ := h
  obtain ⟨mb, S, n, E⟩ := F
  dsimp only at hO hL hn
  cases hx : atK L x with
  | none =>
    have hf := hL.fl_le
    refine (count_new hO (once_of hL) hx (by omega) hk (by omega)).mono ?_
    rintro e w' ⟨rfl, p, S', n', E', L', f', h0, h1, h2, h3, h4⟩
    have hfr : Loose k fl (⟨x, m, fl + m⟩ :: cts E n) (xs ++ [(x, m)]) := hL.fresh (fun c hc => by
      obtain ⟨e, he, rfl⟩ := List.mem_map.1 hc
      obtain ⟨i, hi, rfl⟩ := List.mem_map.1 he
      exact hO.missing hx i (List.mem_range.1 hi)) hm
    have hpe : (⟨x, m, fl + m⟩ :: cts E n : List (Ct Vk)).Perm ((lisE E n ++ [(p, (⟨x.k, x.n, x.s, m, fl + m⟩ : Cn))]).map ctOf) := by
      rw [List.map_append]
      exact (List.perm_append_comm (l₁ := [ctOf (p, ⟨x.k, x.n, x.s, m, fl + m⟩)]) (l₂ := (lisE E n).map ctOf))
    have hfr0 : ∀ c ∈ tolds E n, c.key ≠ x := fun c hc => by
      obtain ⟨e, he, rfl⟩ := List.mem_map.1 hc
      obtain ⟨i, hi, rfl⟩ := List.mem_map.1 he
      exact hO.missing hx i (List.mem_range.1 hi)
    have hts : (lisE E n ++ [(p, (⟨x.k, x.n, x.s, m, fl + m⟩ : Cn))]).map (·.2) = tolds E n ++ [newC x m fl] := by rw [List.map_append]; rfl
    have hdet : DetR k fl (tolds E n) x m f' (tolds E' n') := by
      rcases h4 with ⟨g1, rfl, g2⟩ | ⟨g1, g2, ⟨e, he, g3⟩, g4⟩
      · refine .inr (.inl ⟨hfr0, by rw [tolds_len]; exact g1, rfl, ?_⟩)
        rw [← hts]; exact g2.map (·.2)
      · refine .inr (.inr ⟨hfr0, by rw [tolds_len]; exact g1, fun c hc => ?_, ?_, ?_⟩)
        · rw [← hts] at hc
          obtain ⟨e', he', rfl⟩ := List.mem_map.1 hc
          exact g2 e' he'
        · exact ⟨e.2, by rw [← hts]; exact List.mem_map.2 ⟨e, he, rfl⟩, g3⟩
        · have h9 := g4.map (·.2)
          rw [← hts, List.filter_map]
          exact h9
    refine ⟨rfl, ⟨mb, S', n', E'⟩, f', ⟨L', h1, ?_⟩, ⟨h2, fun q hq => ?_⟩, hdet⟩
    · rcases h4 with ⟨g1, rfl, g2⟩ | ⟨g1, g2, ⟨e, he, g3⟩, g4⟩
      · refine ⟨hfr.perm (hpe.trans (g2.map ctOf).symm), ?_⟩
        have := g2.length_eq
        simp [lisE_len] at this
        show n' ≤ k
        omega
      · have hfl : fl ≤ f' := by
          have := hfr.above (ctOf e) (hpe.mem_iff.2 (List.mem_map.2 ⟨e, he, rfl⟩))
          rw [← g3]; exact Nat.le_of_lt this
        have hct : k + 1 ≤ (⟨x, m, fl + m⟩ :: cts E n : List (Ct Vk)).countP fun c => decide (f' ≤ c.hi) := by
          have : (⟨x, m, fl + m⟩ :: cts E n : List (Ct Vk)).countP (fun c => decide (f' ≤ c.hi)) = (⟨x, m, fl + m⟩ :: cts E n : List (Ct Vk)).length := by
            rw [List.countP_eq_length]
            intro c hc
            obtain ⟨e', he', rfl⟩ := List.mem_map.1 (hpe.mem_iff.1 hc)
            exact decide_eq_true (g2 e' he')
          rw [this]; simp [cts, lisE_len]; omega
        have h5 := hfr.raise hfl hct
        have h6 : ((⟨x, m, fl + m⟩ :: cts E n : List (Ct Vk)).filter fun c => decide (f' < c.hi)).Perm (cts E' n') := by
          refine (hpe.filter _).trans ?_
          rw [List.filter_map]
          exact (g4.map ctOf).symm
        refine ⟨h5.perm h6, ?_⟩
        have h7 := g4.length_eq
        have h8 : ((lisE E n ++ [(p, (⟨x.k, x.n, x.s, m, fl + m⟩ : Cn))]).filter fun e => decide (f' < e.2.hi)).length < (lisE E n ++ [(p, (⟨x.k, x.n, x.s, m, fl + m⟩ : Cn))]).length := by
          rw [List.length_filter_lt_length_iff_exists]
          exact ⟨e, he, by simp [g3]⟩
        simp only [List.length_append, lisE_len, List.length_singleton] at h7 h8
        show n' ≤ k
        omega
    · rcases hq with hq | hq | hq
      · exact .inl (.inl hq)
      · exact .inl (.inr (.inl hq))
      · rcases h3 q hq with g | g
        · exact .inl (.inr (.inr g))
        · exact .inr g
  | some jp =>
    obtain ⟨j, p⟩ := jp
    obtain ⟨i, hi, hp, hkey⟩ := hO.found hx
    subst hp
    obtain ⟨b1, b2, b3⟩ := hL.hi_le (cts_mem (E := E) hi)
    simp only [ctOf] at b1 b2
    refine (count_old hO hi hx (by omega) (by omega) (by omega)).mono ?_
    rintro e w' ⟨rfl, E', h1, h2, h3, h4⟩
    have hat : (lisE E n)[i]? = some (E i) := lisE_at E hi
    have p1 : (cts E n).Perm (ctOf (E i) :: ((lisE E n).eraseIdx i).map ctOf) := (perm_at hat).map ctOf
    have p2 : (cts E' n).Perm (ctOf ((E i).1, (E i).2.bump m) :: ((lisE E n).eraseIdx i).map ctOf) := by
      refine (h4.map ctOf).trans ?_
      rw [lisE_set E n hi]
      exact (perm_set _ (by rw [lisE_len]; exact hi)).map ctOf
    have h5 := (hL.perm p1).more (n := m)
    have e1 : (⟨(ctOf (E i)).v, (ctOf (E i)).lo + m, (ctOf (E i)).hi + m⟩ : Ct Vk) = ctOf ((E i).1, (E i).2.bump m) := rfl
    have e2 : (ctOf (E i)).v = x := hkey
    rw [e1, e2] at h5
    have hdet : DetR k fl (tolds E n) x m fl (tolds E' n) := by
      refine .inl ⟨(E i).2, ((lisE E n).eraseIdx i).map (fun e : Nat × Cn => e.2), (perm_at hat).map (fun e : Nat × Cn => e.2), hkey, rfl, ?_⟩
      refine (h4.map (fun e : Nat × Cn => e.2)).trans ?_
      rw [lisE_set E n hi]
      exact (perm_set _ (by rw [lisE_len]; exact hi)).map (fun e : Nat × Cn => e.2)
    refine ⟨rfl, ⟨mb, S, n, E'⟩, fl, ⟨L, h1, h5.perm p2.symm, hn⟩, ⟨h2, fun q hq => ?_⟩, hdet⟩
    rcases hq with hq | hq | hq
    · exact .inl (.inl hq)
    · exact .inl (.inr (.inl hq))
    · exact .inl (.inr (.inr (h3 q hq)))
/-- What Add answers, to the counter. -/
def AdD (w : World) (b k : Nat) (F : Ft) (xs : List (Vk × Nat)) (fl : Nat) (x : Vk) (n : Int) (e : Ending) (w' : World) : Prop :=
  (n < 0 ∧ e = .returned (.int .i64 1) ∧ Below w.heap.size w w') ∨ (0 ≤ n ∧ 4611686018427387904 - (tot xs : Int) < n ∧ e = .returned (.int .i64 3) ∧ Below w.heap.size w w') ∨
  (0 ≤ n ∧ n ≤ 4611686018427387904 - (tot xs : Int) ∧ e = .returned (.int .i64 0) ∧ ∃ F' fl', (SkF w' b k (tot (xs ++ [(cleanK x, n.toNat)])) F' (xs ++ [(cleanK x, n.toNat)]) fl' ∧ tot (xs ++ [(cleanK x, n.toNat)]) ≤ 4611686018427387904) ∧ Aft w w' b F F' ∧ ((n = 0 ∧ F' = F ∧ fl' = fl) ∨ (0 < n ∧ DetR k fl (tolds F.E F.n) (cleanK x) n.toNat fl' (tolds F'.E F'.n))))

set_option maxHeartbeats 1000000 in
theorem add_det {w : World} {b k fl : Nat} {F : Ft} {xs : List (Vk × Nat)} (h : SkF w b k (tot xs) F xs fl ∧ tot xs ≤ 4611686018427387904) (hk : k ≤ 1024) (x : Vk) (n : Int) :
    Calls Try.prog 8 #[.pointer (some ⟨b, 0, none⟩), x.v, .int .i64 n] w fun e w' => AdD w b k F xs fl x n e w' := by
  obtain ⟨W1, hW1⟩ : ∃ W1, w.alloc (.cells #[.int .i64 x.k, .int .i64 x.n, .string x.s] 34) = W1 := ⟨_, rfl⟩
  have hB1 : Below w.heap.size w W1 := by rw [← hW1]; exact below_alloc (Below.refl _ _) _
  have h1 := h.1.later hB1
  have v0 : W1.cell? ⟨w.heap.size, 0, none⟩ = some (.int .i64 x.k) := by rw [← hW1]; simp [go_sem]
  have v1 : W1.cell? ⟨w.heap.size, 1, none⟩ = some (.int .i64 x.n) := by rw [← hW1]; simp [go_sem]
  have v2 : W1.cell? ⟨w.heap.size, 2, none⟩ = some (.string x.s) := by rw [← hW1]; simp [go_sem]
  obtain ⟨T, hT⟩ : ∃ T, tot xs = T := ⟨_, rfl⟩
  have hT2 := h.2
  rw [hT] at hT2
  have hbl : b < w.heap.size := by obtain ⟨L, q, _⟩ := h.1; exact q.box.lt
  have hbn : ¬ b = w.heap.size := by omega
  have hbn' : ¬ w.heap.size = b := by omega
  obtain ⟨c1, f1⟩ : W1.cell? ⟨b, 1, none⟩ = some (.int .i64 T) ∧ W1.frozen? ⟨b, 1, none⟩ = false := by
    obtain ⟨L, q, _⟩ := h1
    rw [← hT]
    exact ⟨q.facts.2.1, q.facts.2.2.2.2.2.1⟩
  have HB1 := hide hB1
  have hT0 : (0 : Int) ≤ (T : Int) := by omega
  have hT3 : (T : Int) ≤ 4611686018427387904 := by omega
  by_cases n0 : n < 0
  · have HR : Hid (AdD w b k F xs fl x n (.returned (.int .i64 1)) W1) := .inl ⟨n0, rfl, hB1⟩
    clear h h1
    rw [x.open_]
    go_enter Try.func8, Try.ntmps8
    go_wp2
    go_ret
    exact unhide HR
  · by_cases n1 : 4611686018427387904 - (T : Int) < n
    · have HR : Hid (AdD w b k F xs fl x n (.returned (.int .i64 3)) W1) := .inr (.inl ⟨by omega, by rw [hT]; exact n1, rfl, hB1⟩)
      clear h h1
      have n0' : 0 ≤ n := by omega
      rw [x.open_]
      go_enter Try.func8, Try.ntmps8
      go_wp2
      go_ret
      exact unhide HR
    · obtain ⟨m, rfl⟩ : ∃ m : Nat, n = (m : Int) := ⟨n.toNat, by omega⟩
      have hp := h1.put (T' := T + m)
      have hmT : (T : Int) + (m : Int) ≤ 4611686018427387904 := by omega
      have eTm : (((T + m : Nat)) : Int) = (T : Int) + (m : Int) := by omega
      rw [eTm] at hp
      have hA1 : Aft w (W1.setCell ⟨b, 1, none⟩ (.int .i64 ((T : Int) + (m : Int)))) b F F := (Aft.of_below hB1).trans ⟨hp.2, fun q hq => .inl hq⟩
      by_cases hm : 0 < m
      · have HCT : Hid (∀ W2, Below (W1.setCell ⟨b, 1, none⟩ (.int .i64 ((T : Int) + (m : Int)))).heap.size (W1.setCell ⟨b, 1, none⟩ (.int .i64 ((T : Int) + (m : Int)))) W2 → Calls Try.prog 23 #[.pointer (some ⟨b, 0, none⟩), (cleanK x).v, .int .i64 m] W2 fun e w' => e = .returned (.tuple #[]) ∧ AdD w b k F xs fl x (m : Int) (.returned (.int .i64 0)) w') := fun W2 hW2 => by
          refine (count_det (hp.1.later hW2) hk hm (by rw [hT]; omega)).mono ?_
          rintro e w' ⟨rfl, F', fl', r1, r2, r3⟩
          refine ⟨rfl, .inr (.inr ⟨by omega, by rw [hT]; omega, rfl, F', fl', ⟨?_, ?_⟩, (hA1.trans (Aft.of_below hW2)).trans r2, .inr ⟨by omega, by rw [Int.toNat_natCast]; exact r3⟩⟩)⟩
          · rw [tot_app, tot_one, hT]; exact r1
          · rw [tot_app, tot_one, hT]; simp; omega
        have n0' : (0 : Int) < (m : Int) := by omega
        have n1' : ¬ 4611686018427387904 - (T : Int) < (m : Int) := n1
        clear h h1 hp hA1 n0 n1 eTm hm hT
        rw [x.open_]
        have HCL : Hid (∀ W, Calls Try.prog 9 #[.agg #[.int .i64 x.k, .int .i64 x.n, .string x.s]] W fun e w' => e = .returned (cleanK x).v ∧ Below W.heap.size W w') := fun W => clean_any x W
        go_enter Try.func8, Try.ntmps8
        go_wp2_with (first | (go_at_call 9; refine (unhide HCL _).mono ?_; rintro _ w2 ⟨rfl, hb2⟩; have HC := hide (unhide HCT w2 hb2); clear hb2) | (go_at_call 23; refine (unhide HC).mono ?_; rintro _ w3 ⟨rfl, HR⟩; replace HR := hide HR))
        go_ret
        exact unhide HR
      · obtain rfl : m = 0 := by omega
        have HR : Hid (AdD w b k F xs fl x ((0 : Nat) : Int) (.returned (.int .i64 0)) (W1.setCell ⟨b, 1, none⟩ (.int .i64 ((T : Int) + 0)))) := by
          refine .inr (.inr ⟨by omega, by rw [hT]; omega, rfl, F, fl, ⟨?_, ?_⟩, hA1, .inl ⟨rfl, rfl, rfl⟩⟩)
          · obtain ⟨L, q1, q2, q3⟩ := hp.1
            rw [tot_app, tot_one, hT]
            exact ⟨L, by have := q1; simpa using this, q2.zero _, q3⟩
          · rw [tot_app, tot_one, hT]; simp; omega
        clear h h1 hp hA1 n0 n1 eTm hT
        have n1' : ¬ 4611686018427387904 - (T : Int) < 0 := by omega
        rw [x.open_]
        simp only [Int.ofNat_zero, Int.add_zero, Int.natCast_zero] at HR ⊢
        go_enter Try.func8, Try.ntmps8
        go_wp2
        go_ret
        exact unhide HR

end Go.Proofs.Ytgmfbjehdcdioaa

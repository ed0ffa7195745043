import Derived.Deep.OwnRows
set_option linter.unusedSimpArgs false
set_option linter.unusedVariables false
set_option linter.unusedSectionVars false
namespace Go.Proofs.Ytgmfbjehdcdioaa

/-! Counters of values of any type α: a list of (value, low, high), each value once. -/
structure Ct (α : Type) where
  v : α
  lo : Nat
  hi : Nat

variable {α : Type} [DecidableEq α]

/-- How much of v has come: what has come is a list of (value, how often). -/
def cnt (xs : List (α × Nat)) (v : α) : Nat := (xs.map fun p => if p.1 = v then p.2 else 0).sum
def tot (xs : List (α × Nat)) : Nat := (xs.map (·.2)).sum
theorem cnt_nil (v : α) : cnt ([] : List (α × Nat)) v = 0 := rfl
theorem tot_nil : tot ([] : List (α × Nat)) = 0 := rfl
theorem cnt_app (xs ys : List (α × Nat)) (v : α) : cnt (xs ++ ys) v = cnt xs v + cnt ys v := by simp [cnt, List.sum_append]
theorem tot_app (xs ys : List (α × Nat)) : tot (xs ++ ys) = tot xs + tot ys := by simp [tot, List.sum_append]
theorem cnt_one (x : α) (n : Nat) (v : α) : cnt [(x, n)] v = if x = v then n else 0 := by simp [cnt]
theorem tot_one (x : α) (n : Nat) : tot [(x, n)] = n := by simp [tot]
theorem cnt_le (xs : List (α × Nat)) (v : α) : cnt xs v ≤ tot xs := by
  induction xs with
  | nil => simp [cnt, tot]
  | cons p l ih =>
    simp only [cnt, tot, List.map_cons, List.sum_cons] at ih ⊢
    split <;> omega

/-- What the highs have above the floor. -/
def over (fl : Nat) (cs : List (Ct α)) : Nat := (cs.map fun c => c.hi - fl).sum
theorem over_perm {fl : Nat} {cs ds : List (Ct α)} (h : cs.Perm ds) : over fl cs = over fl ds := (h.map _).sum_nat
theorem over_cons (fl : Nat) (c : Ct α) (cs : List (Ct α)) : over fl (c :: cs) = (c.hi - fl) + over fl cs := by simp [over]
theorem over_app (fl : Nat) (cs ds : List (Ct α)) : over fl (cs ++ ds) = over fl cs + over fl ds := by simp [over, List.sum_append]

/-- What a sketch of what has come keeps, however many counters it has. -/
structure Loose (k fl : Nat) (cs : List (Ct α)) (xs : List (α × Nat)) : Prop where
  once : (cs.map (·.v)).Nodup
  above : ∀ c ∈ cs, fl < c.hi
  near : ∀ c ∈ cs, c.hi ≤ c.lo + fl
  pos : ∀ c ∈ cs, 0 < c.lo
  low : ∀ c ∈ cs, c.lo ≤ cnt xs c.v
  high : ∀ c ∈ cs, cnt xs c.v ≤ c.hi
  rest : ∀ v, (∀ c ∈ cs, c.v ≠ v) → cnt xs v ≤ fl
  sum : (k + 1) * fl + over fl cs ≤ tot xs

theorem Loose.floor {k fl : Nat} {cs : List (Ct α)} {xs : List (α × Nat)} (h : Loose k fl cs xs) : fl ≤ tot xs / (k + 1) := by
  rw [Nat.le_div_iff_mul_le (by omega), Nat.mul_comm]
  have := h.sum
  omega
theorem loose_new (k : Nat) : Loose k 0 ([] : List (Ct α)) [] :=
  ⟨by simp, by simp, by simp, by simp, by simp, by simp, by simp [cnt], by simp [over, tot]⟩
theorem Loose.perm {k fl : Nat} {cs ds : List (Ct α)} {xs : List (α × Nat)} (h : Loose k fl cs xs) (hp : cs.Perm ds) : Loose k fl ds xs :=
  ⟨(hp.map _).nodup_iff.1 h.once, fun c hc => h.above c (hp.mem_iff.2 hc), fun c hc => h.near c (hp.mem_iff.2 hc), fun c hc => h.pos c (hp.mem_iff.2 hc), fun c hc => h.low c (hp.mem_iff.2 hc), fun c hc => h.high c (hp.mem_iff.2 hc),
    fun v hv => h.rest v fun c hc => hv c (hp.mem_iff.1 hc), by rw [← over_perm hp]; exact h.sum⟩

/-- More of a value that is counted. -/
theorem Loose.more {k fl n : Nat} {c : Ct α} {cs : List (Ct α)} {xs : List (α × Nat)} (h : Loose k fl (c :: cs) xs) : Loose k fl (⟨c.v, c.lo + n, c.hi + n⟩ :: cs) (xs ++ [(c.v, n)]) := by
  have hne : ∀ d ∈ cs, d.v ≠ c.v := fun d hd e => by
    have := h.once
    simp only [List.map_cons, List.nodup_cons, List.mem_map, not_exists, not_and] at this
    exact this.1 d hd e
  have hc0 := List.mem_cons_self (a := c) (l := cs)
  refine ⟨by simpa using h.once, fun d hd => ?_, fun d hd => ?_, fun d hd => ?_, fun d hd => ?_, fun d hd => ?_, fun v hv => ?_, ?_⟩
  · rcases List.mem_cons.1 hd with rfl | hd
    · have := h.above c hc0; simp only; omega
    · exact h.above d (List.mem_cons_of_mem _ hd)
  · rcases List.mem_cons.1 hd with rfl | hd
    · have := h.near c hc0; simp only; omega
    · exact h.near d (List.mem_cons_of_mem _ hd)
  · rcases List.mem_cons.1 hd with rfl | hd
    · have := h.pos c hc0; simp only; omega
    · exact h.pos d (List.mem_cons_of_mem _ hd)
  · rcases List.mem_cons.1 hd with rfl | hd
    · have := h.low c hc0; simp only [cnt_app, cnt_one, if_true]; omega
    · have := h.low d (List.mem_cons_of_mem _ hd); rw [cnt_app]; omega
  · rcases List.mem_cons.1 hd with rfl | hd
    · have := h.high c hc0; simp only [cnt_app, cnt_one, if_true]; omega
    · have := h.high d (List.mem_cons_of_mem _ hd)
      rw [cnt_app, cnt_one, if_neg (fun e => hne d hd e.symm)]; omega
  · have hv' : ∀ d ∈ c :: cs, d.v ≠ v := fun d hd => by
      rcases List.mem_cons.1 hd with rfl | hd
      · exact hv ⟨d.v, d.lo + n, d.hi + n⟩ List.mem_cons_self
      · exact hv d (List.mem_cons_of_mem _ hd)
    have := h.rest v hv'
    rw [cnt_app, cnt_one, if_neg (hv' c hc0)]; omega
  · have := h.sum
    have h1 := h.above c hc0
    rw [over_cons] at this ⊢
    rw [tot_app, tot_one]
    simp only
    omega

/-- A new value. -/
theorem Loose.fresh {k fl n : Nat} {x : α} {cs : List (Ct α)} {xs : List (α × Nat)} (h : Loose k fl cs xs) (hx : ∀ c ∈ cs, c.v ≠ x) (hn : 0 < n) : Loose k fl (⟨x, n, fl + n⟩ :: cs) (xs ++ [(x, n)]) := by
  have hx0 := h.rest x hx
  refine ⟨?_, fun d hd => ?_, fun d hd => ?_, fun d hd => ?_, fun d hd => ?_, fun d hd => ?_, fun v hv => ?_, ?_⟩
  · simp only [List.map_cons, List.nodup_cons, List.mem_map, not_exists, not_and]
    exact ⟨fun d hd e => hx d hd e, h.once⟩
  · rcases List.mem_cons.1 hd with rfl | hd
    · simp only; omega
    · exact h.above d hd
  · rcases List.mem_cons.1 hd with rfl | hd
    · simp only; omega
    · exact h.near d hd
  · rcases List.mem_cons.1 hd with rfl | hd
    · exact hn
    · exact h.pos d hd
  · rcases List.mem_cons.1 hd with rfl | hd
    · simp only [cnt_app, cnt_one, if_true]; omega
    · have := h.low d hd; rw [cnt_app]; omega
  · rcases List.mem_cons.1 hd with rfl | hd
    · simp only [cnt_app, cnt_one, if_true]; omega
    · have := h.high d hd
      rw [cnt_app, cnt_one, if_neg (fun e => hx d hd e.symm)]; omega
  · have hv' : ∀ d ∈ cs, d.v ≠ v := fun d hd => hv d (List.mem_cons_of_mem _ hd)
    have hxv : x ≠ v := hv ⟨x, n, fl + n⟩ List.mem_cons_self
    have := h.rest v hv'
    rw [cnt_app, cnt_one, if_neg hxv]; omega
  · have := h.sum
    rw [over_cons, tot_app, tot_one]
    simp only
    omega

/-- What the highs have above the old floor, by those that are not below the new one. -/
theorem over_raise {fl f' : Nat} (hf : fl ≤ f') : ∀ (cs : List (Ct α)), (cs.countP fun c => decide (f' ≤ c.hi)) * (f' - fl) + over f' (cs.filter fun c => decide (f' < c.hi)) ≤ over fl cs
  | [] => by simp [over]
  | c :: cs => by
    have ih := over_raise hf cs
    rw [over_cons]
    by_cases h1 : f' < c.hi
    · have h2 : f' ≤ c.hi := by omega
      rw [List.countP_cons_of_pos (by simpa using h2), List.filter_cons_of_pos (by simpa using h1), over_cons, Nat.add_mul, Nat.one_mul]
      omega
    · rw [List.filter_cons_of_neg (by simpa using h1)]
      by_cases h2 : f' ≤ c.hi
      · rw [List.countP_cons_of_pos (by simpa using h2), Nat.add_mul, Nat.one_mul]; omega
      · rw [List.countP_cons_of_neg (by simpa using h2)]; omega

/-- The floor rises: those that are not above it go. -/
theorem Loose.raise {k fl f' : Nat} {cs : List (Ct α)} {xs : List (α × Nat)} (h : Loose k fl cs xs) (hf : fl ≤ f') (hk : k + 1 ≤ cs.countP fun c => decide (f' ≤ c.hi)) : Loose k f' (cs.filter fun c => decide (f' < c.hi)) xs := by
  have hm : ∀ c, c ∈ (cs.filter fun c => decide (f' < c.hi)) → c ∈ cs ∧ f' < c.hi := fun c hc => by simpa using List.mem_filter.1 hc
  refine ⟨?_, fun c hc => (hm c hc).2, fun c hc => ?_, fun c hc => h.pos c (hm c hc).1, fun c hc => h.low c (hm c hc).1, fun c hc => h.high c (hm c hc).1, fun v hv => ?_, ?_⟩
  · exact h.once.sublist (List.Sublist.map _ List.filter_sublist)
  · have := h.near c (hm c hc).1; omega
  · by_cases e : ∃ c ∈ cs, c.v = v
    · obtain ⟨c, hc, rfl⟩ := e
      have h1 := h.high c hc
      by_cases h2 : f' < c.hi
      · exact absurd rfl (hv c (List.mem_filter.2 ⟨hc, by simpa using h2⟩))
      · omega
    · have := h.rest v fun c hc e' => e ⟨c, hc, e'⟩
      omega
  · have h1 := over_raise hf cs
    have h2 := h.sum
    have h3 : (k + 1) * (f' - fl) ≤ (cs.countP fun c => decide (f' ≤ c.hi)) * (f' - fl) := Nat.mul_le_mul_right _ hk
    have h4 : (k + 1) * f' = (k + 1) * fl + (k + 1) * (f' - fl) := by rw [← Nat.mul_add]; congr 1; omega
    omega

/-- What a list of counters says of a value. -/
def loOf (cs : List (Ct α)) (v : α) : Nat := match cs.find? (fun c => decide (c.v = v)) with | some c => c.lo | none => 0
def hiOf (fl : Nat) (cs : List (Ct α)) (v : α) : Nat := match cs.find? (fun c => decide (c.v = v)) with | some c => c.hi | none => fl
theorem find_some {cs : List (Ct α)} (h : (cs.map (·.v)).Nodup) {c : Ct α} (hc : c ∈ cs) : cs.find? (fun d => decide (d.v = c.v)) = some c := by
  induction cs with
  | nil => cases hc
  | cons d l ih =>
    simp only [List.map_cons, List.nodup_cons, List.mem_map, not_exists, not_and] at h
    rcases List.mem_cons.1 hc with rfl | hc
    · simp
    · rw [List.find?_cons_of_neg (by simpa using fun e => h.1 c hc e.symm)]
      exact ih h.2 hc
theorem find_none {cs : List (Ct α)} {v : α} (h : ∀ c ∈ cs, c.v ≠ v) : cs.find? (fun d => decide (d.v = v)) = none := by
  rw [List.find?_eq_none]; intro c hc; simpa using h c hc
theorem lo_in {cs : List (Ct α)} (h : (cs.map (·.v)).Nodup) {c : Ct α} (hc : c ∈ cs) : loOf cs c.v = c.lo := by simp [loOf, find_some h hc]
theorem hi_in {fl : Nat} {cs : List (Ct α)} (h : (cs.map (·.v)).Nodup) {c : Ct α} (hc : c ∈ cs) : hiOf fl cs c.v = c.hi := by simp [hiOf, find_some h hc]
theorem lo_out {cs : List (Ct α)} {v : α} (h : ∀ c ∈ cs, c.v ≠ v) : loOf cs v = 0 := by simp [loOf, find_none h]
theorem hi_out {fl : Nat} {cs : List (Ct α)} {v : α} (h : ∀ c ∈ cs, c.v ≠ v) : hiOf fl cs v = fl := by simp [hiOf, find_none h]

/-- The counters of both. -/
def togL (fo fp : Nat) (cs ds : List (Ct α)) : List (Ct α) :=
  cs.map (fun c => ⟨c.v, c.lo + loOf ds c.v, c.hi + hiOf fp ds c.v⟩) ++ (ds.filter fun d => !cs.any fun c => decide (c.v = d.v)).map fun d => ⟨d.v, d.lo, d.hi + fo⟩

theorem sum_at {cs : List (Ct α)} (h : (cs.map (·.v)).Nodup) (f : α → Nat) (u : α) (a : Nat) (hf : f u = 0) (hu : ∃ c ∈ cs, c.v = u) :
    (cs.map fun c => if u = c.v then a else f c.v).sum = a + (cs.map fun c => f c.v).sum := by
  induction cs with
  | nil => obtain ⟨c, hc, _⟩ := hu; cases hc
  | cons c l ih =>
    simp only [List.map_cons, List.nodup_cons, List.mem_map, not_exists, not_and] at h
    simp only [List.map_cons, List.sum_cons]
    by_cases e : u = c.v
    · subst e
      have : (l.map fun d => if c.v = d.v then a else f d.v).sum = (l.map fun d => f d.v).sum := by
        congr 1
        refine List.map_congr_left fun d hd => ?_
        rw [if_neg (fun e => h.1 d hd e.symm)]
      rw [if_pos rfl, this, hf]; omega
    · rw [if_neg e]
      have hu' : ∃ d ∈ l, d.v = u := by
        obtain ⟨d, hd, hd'⟩ := hu
        rcases List.mem_cons.1 hd with rfl | hd
        · exact absurd hd'.symm e
        · exact ⟨d, hd, hd'⟩
      rw [ih h.2 hu']; omega
theorem sum_off {cs : List (Ct α)} (f : α → Nat) (u : α) (a : Nat) (hu : ∀ c ∈ cs, c.v ≠ u) :
    (cs.map fun c => if u = c.v then a else f c.v).sum = (cs.map fun c => f c.v).sum := by
  congr 1
  refine List.map_congr_left fun d hd => ?_
  rw [if_neg (fun e => hu d hd e.symm)]
theorem hi_cons (fp : Nat) (d : Ct α) (l : List (Ct α)) (v : α) : hiOf fp (d :: l) v = if d.v = v then d.hi else hiOf fp l v := by
  unfold hiOf
  by_cases e : d.v = v
  · rw [List.find?_cons_of_pos (by simpa using e), if_pos e]
  · rw [List.find?_cons_of_neg (by simpa using e), if_neg e]
theorem over_both {cs : List (Ct α)} (h : (cs.map (·.v)).Nodup) (fp : Nat) : ∀ (ds : List (Ct α)), (ds.map (·.v)).Nodup →
    (cs.map fun c => hiOf fp ds c.v - fp).sum + over fp (ds.filter fun d => !cs.any fun c => decide (c.v = d.v)) = over fp ds
  | [], _ => by
    have : (cs.map fun c => hiOf fp ([] : List (Ct α)) c.v - fp).sum = 0 := by
      have : (fun c : Ct α => hiOf fp ([] : List (Ct α)) c.v - fp) = fun _ => 0 := by funext c; simp [hiOf]
      rw [this]
      induction cs with
      | nil => rfl
      | cons c l ih => simp only [List.map_cons, List.nodup_cons] at h; simp only [List.map_cons, List.sum_cons]; rw [ih h.2]
    rw [this]; simp [over]
  | d :: l, hd => by
    simp only [List.map_cons, List.nodup_cons, List.mem_map, not_exists, not_and] at hd
    have ih := over_both h fp l hd.2
    have e0 : (cs.map fun c => hiOf fp (d :: l) c.v - fp) = cs.map fun c => if d.v = c.v then d.hi - fp else hiOf fp l c.v - fp := by
      refine List.map_congr_left fun c _ => ?_
      rw [hi_cons]; split <;> rfl
    rw [e0, over_cons]
    have hz : hiOf fp l d.v - fp = 0 := by rw [hi_out fun c hc e => hd.1 c hc e]; omega
    by_cases hu : ∃ c ∈ cs, c.v = d.v
    · rw [sum_at h (fun v => hiOf fp l v - fp) d.v (d.hi - fp) hz hu]
      have : (!cs.any fun c => decide (c.v = d.v)) = false := by
        obtain ⟨c, hc, e⟩ := hu
        simp only [Bool.not_eq_false', List.any_eq_true, decide_eq_true_eq]
        exact ⟨c, hc, e⟩
      rw [List.filter_cons_of_neg (by simpa using this)]
      omega
    · have hu' : ∀ c ∈ cs, c.v ≠ d.v := fun c hc e => hu ⟨c, hc, e⟩
      rw [sum_off (fun v => hiOf fp l v - fp) d.v (d.hi - fp) hu']
      have : (!cs.any fun c => decide (c.v = d.v)) = true := by
        simp only [Bool.not_eq_true', List.any_eq_false, decide_eq_true_eq]
        exact hu'
      rw [List.filter_cons_of_pos (by simpa using this), over_cons]
      omega

theorem Loose.of {k fl : Nat} {cs : List (Ct α)} {xs : List (α × Nat)} (h : Loose k fl cs xs) (v : α) : fl ≤ hiOf fl cs v ∧ hiOf fl cs v ≤ loOf cs v + fl ∧ loOf cs v ≤ cnt xs v ∧ cnt xs v ≤ hiOf fl cs v := by
  by_cases e : ∃ c ∈ cs, c.v = v
  · obtain ⟨c, hc, rfl⟩ := e
    rw [lo_in h.once hc, hi_in h.once hc]
    exact ⟨Nat.le_of_lt (h.above c hc), h.near c hc, h.low c hc, h.high c hc⟩
  · have e' : ∀ c ∈ cs, c.v ≠ v := fun c hc h => e ⟨c, hc, h⟩
    rw [lo_out e', hi_out e']
    exact ⟨Nat.le_refl _, by omega, Nat.zero_le _, h.rest v e'⟩

theorem Loose.merge {k fo fp : Nat} {cs ds : List (Ct α)} {xs ys : List (α × Nat)} (h : Loose k fo cs xs) (g : Loose k fp ds ys) : Loose k (fo + fp) (togL fo fp cs ds) (xs ++ ys) := by
  have hmem : ∀ e ∈ togL fo fp cs ds, (∃ c ∈ cs, e = ⟨c.v, c.lo + loOf ds c.v, c.hi + hiOf fp ds c.v⟩) ∨ ∃ d ∈ ds, (∀ c ∈ cs, c.v ≠ d.v) ∧ e = ⟨d.v, d.lo, d.hi + fo⟩ := fun e he => by
    rcases List.mem_append.1 he with he | he
    · obtain ⟨c, hc, rfl⟩ := List.mem_map.1 he; exact .inl ⟨c, hc, rfl⟩
    · obtain ⟨d, hd, rfl⟩ := List.mem_map.1 he
      have := List.mem_filter.1 hd
      refine .inr ⟨d, this.1, ?_, rfl⟩
      have h2 := this.2
      simp only [Bool.not_eq_true', List.any_eq_false, decide_eq_true_eq] at h2
      exact h2
  refine ⟨?_, fun e he => ?_, fun e he => ?_, fun e he => ?_, fun e he => ?_, fun e he => ?_, fun v hv => ?_, ?_⟩
  · rw [togL, List.map_append, List.map_map, List.map_map]
    rw [List.nodup_append]
    refine ⟨h.once, g.once.sublist (List.Sublist.map _ List.filter_sublist), fun a ha b hb e => ?_⟩
    obtain ⟨c, hc, rfl⟩ := List.mem_map.1 ha
    obtain ⟨d, hd, rfl⟩ := List.mem_map.1 hb
    have h2 := (List.mem_filter.1 hd).2
    simp only [Bool.not_eq_true', List.any_eq_false, decide_eq_true_eq] at h2
    exact h2 c hc e
  · rcases hmem e he with ⟨c, hc, rfl⟩ | ⟨d, hd, hn, rfl⟩
    · have := h.above c hc; have := (g.of c.v).1; simp only; omega
    · have := g.above d hd; simp only; omega
  · rcases hmem e he with ⟨c, hc, rfl⟩ | ⟨d, hd, hn, rfl⟩
    · have := h.near c hc; have := (g.of c.v).2.1; simp only; omega
    · have := g.near d hd; simp only; omega
  · rcases hmem e he with ⟨c, hc, rfl⟩ | ⟨d, hd, hn, rfl⟩
    · have := h.pos c hc; simp only; omega
    · exact g.pos d hd
  · rcases hmem e he with ⟨c, hc, rfl⟩ | ⟨d, hd, hn, rfl⟩
    · have := h.low c hc; have := (g.of c.v).2.2.1; rw [cnt_app]; simp only; omega
    · have := g.low d hd; rw [cnt_app]; simp only; omega
  · rcases hmem e he with ⟨c, hc, rfl⟩ | ⟨d, hd, hn, rfl⟩
    · have := h.high c hc; have := (g.of c.v).2.2.2; rw [cnt_app]; simp only; omega
    · have := g.high d hd; have := h.rest d.v hn; rw [cnt_app]; simp only; omega
  · have h1 : ∀ c ∈ cs, c.v ≠ v := fun c hc e => hv ⟨c.v, c.lo + loOf ds c.v, c.hi + hiOf fp ds c.v⟩ (List.mem_append_left _ (List.mem_map.2 ⟨c, hc, rfl⟩)) e
    have h2 : ∀ d ∈ ds, d.v ≠ v := fun d hd e => hv ⟨d.v, d.lo, d.hi + fo⟩ (List.mem_append_right _ (List.mem_map.2 ⟨d, List.mem_filter.2 ⟨hd, by
      simp only [Bool.not_eq_true', List.any_eq_false, decide_eq_true_eq]
      intro c hc e'; exact h1 c hc (e'.trans e)⟩, rfl⟩)) e
    have := h.rest v h1; have := g.rest v h2
    rw [cnt_app]; omega
  · have e1 : over (fo + fp) (cs.map fun c => (⟨c.v, c.lo + loOf ds c.v, c.hi + hiOf fp ds c.v⟩ : Ct α)) = over fo cs + (cs.map fun c => hiOf fp ds c.v - fp).sum := by
      have hab := h.above
      clear h hmem
      induction cs with
      | nil => simp [over]
      | cons c l ih =>
        have := ih fun d hd => hab d (List.mem_cons_of_mem _ hd)
        have h1 := hab c List.mem_cons_self
        have h2 := (g.of c.v).1
        simp only [List.map_cons, over_cons, List.sum_cons] at this ⊢
        omega
    have e2 : ∀ l : List (Ct α), over (fo + fp) (l.map fun d => (⟨d.v, d.lo, d.hi + fo⟩ : Ct α)) = over fp l := fun l => by
      induction l with
      | nil => simp [over]
      | cons d l ih => simp only [List.map_cons, over_cons]; rw [ih]; omega
    have e3 := over_both h.once fp ds g.once
    have h4 := h.sum
    have h5 := g.sum
    rw [togL, over_app, e1, e2, tot_app, Nat.mul_add]
    omega
end Go.Proofs.Ytgmfbjehdcdioaa

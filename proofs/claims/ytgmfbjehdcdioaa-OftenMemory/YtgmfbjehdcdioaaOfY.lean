import Derived.Test.YtgmfbjehdcdioaaOfX
set_option linter.unusedSimpArgs false
set_option linter.unusedVariables false
set_option maxRecDepth 100000
namespace Go.Proofs.Ytgmfbjehdcdioaa
open Go.RowKit Go.Sort

/-- append(list, a counter), as one step of a region that draws. -/
theorem step_app_ptr {ops : Array Oper} {o : Oper} {a : Act} {w : World} {K : Act → World → Prop} {Q : Exit → Act → World → Prop} {E : Prop} (hgd : o.guard = none) (d x : Operand)
    (hop : o.op = Op.call { callee := Callee.builtin Builtin.append, args := #[d, x], argTypes := #[51, 51] })
    (base : Nat) (s : Value) (n : Nat) (xs : List Value) (hd : a.eval d = s) (ho : w.ownsRow base 57 1 s n xs) (ab p : Nat) (hx : a.eval x = .slice (some ⟨ab, 0, none⟩) 1 1) (hm : w.cell? ⟨ab, 0, none⟩ = some (pv p)) (hl : n ≤ 4096) (hbs : base ≤ w.heap.size)
    (h : ∀ a5 c5 w1, w1.ownsRow base 57 1 (.slice a5 (n + 1) c5) (n + 1) (xs ++ [pv p]) → w.grownBy w1 s.ownBlock → ((Value.slice a5 (n + 1) c5).ownBlock = s.ownBlock ∨ (Value.slice a5 (n + 1) c5).ownBlock = some w.heap.size) → K (a.put o.dst (.slice a5 (n + 1) c5)) w1) :
    if Region.wanted o (yielded ops a.tmps) = true then Oper.wp Try.prog o a w K Q else E := by
  have hw : Region.wanted o (yielded ops a.tmps) = true := by simp [Region.wanted, hgd]
  rw [if_pos hw]
  obtain ⟨i2, hi2, z20, z21, z22⟩ := info_parts Try.info57
  obtain ⟨s', w1, hr, h2, h3, _, h5⟩ := run_append_own_at (P := Try.prog) (w := w) base 51 o.type 57 i2 (.pointer none) 1 8 Try.underlying51 hi2 z20 z21 z22 rfl (by decide) s n xs ho ⟨ab, 0, none⟩ 1 1 [pv p] rfl (by
    intro j u hu
    match j, hu with
    | 0, hu => simp at hu; subst hu; rw [Addr.add_lit]; exact hm
    | j + 1, hu => simp at hu) (by intro u hu; simp at hu; subst hu; rfl) (by unfold maxLen; omega) (by omega) hbs
  obtain ⟨a5, c5, rfl⟩ : ∃ a5 c5, s' = .slice a5 (n + 1) c5 := by
    rcases h2.2 with ⟨_, h0⟩ | ⟨g, cap, cur, he, _⟩
    · omega
    · exact ⟨_, _, he⟩
  unfold Oper.wp execOp
  simp only [hop, resolve, invoke, builtin, Sem.run_bind, Sem.run_pure, Result.andThen_ok, List.map_toArray, List.map_cons, List.map_nil, hd, hx, hr]
  exact h a5 c5 w1 h2 h3 h5

theorem bd_loose {k fl n : Nat} {E : Nat → Nat × Cn} {xs : List (Vk × Nat)} (h : Loose k fl (cts E n) xs) {x : Vk} {e : Ending} (ht : BdA fl n E x e) : e = .returned (.tuple #[.int .i64 (loOf (cts E n) x), .int .i64 (hiOf fl (cts E n) x)]) := by
  rcases ht with ⟨i, hi, hk, rfl⟩ | ⟨hk, rfl⟩
  · have hm := cts_mem (E := E) hi
    have e1 := lo_in h.once hm
    have e2 := hi_in (fl := fl) h.once hm
    have e3 : (ctOf (E i)).v = x := hk
    rw [e3] at e1 e2
    rw [e1, e2]; rfl
  · have hn : ∀ c ∈ cts E n, c.v ≠ x := fun c hc => by
      obtain ⟨e, he, rfl⟩ := List.mem_map.1 hc
      obtain ⟨i, hi, rfl⟩ := List.mem_map.1 he
      exact hk i (List.mem_range.1 hi)
    rw [lo_out hn, hi_out hn]; rfl
theorem Loose.of_le {α : Type} [DecidableEq α] {k fl : Nat} {cs : List (Ct α)} {xs : List (α × Nat)} (h : Loose k fl cs xs) (v : α) : loOf cs v ≤ tot xs ∧ hiOf fl cs v ≤ tot xs := by
  refine ⟨Nat.le_trans (h.of v).2.2.1 (cnt_le xs v), ?_⟩
  unfold hiOf
  cases hf : cs.find? (fun c => decide (c.v = v)) with
  | none => exact h.fl_le
  | some c => exact (h.hi_le (List.mem_of_find?_eq_some hf)).1

/-- New counters, under way. -/
structure TgS (w wr : World) (T : Value) (m : Nat) (G : Nat → Nat × Cn) (l : List (Ct Vk)) : Prop where
  own : wr.ownsRow w.heap.size 57 1 T m (ptrs G m)
  ctr : ∀ i, i < m → wr.rowIs (G i).1 60 6 (box6 (G i).2 0)
  new : ∀ i, i < m → w.heap.size ≤ (G i).1
  nod : ∀ i j, i < m → j < m → (G i).1 = (G j).1 → i = j
  bel : Below w.heap.size w wr
  lst : cts G m = l
theorem TgS.later {w wr w' : World} {T : Value} {m : Nat} {G : Nat → Nat × Cn} {l : List (Ct Vk)} (h : TgS w wr T m G l) (hb : Below wr.heap.size wr w') : TgS w w' T m G l :=
  ⟨own_later h.own hb, fun i hi => rowIs_later (h.ctr i hi) hb, h.new, h.nod, below_step h.bel hb, h.lst⟩
theorem TgS.slice {w wr : World} {T : Value} {m : Nat} {G : Nat → Nat × Cn} {l : List (Ct Vk)} (h : TgS w wr T m G l) : ∃ a c, T = .slice a m c := by
  rcases h.own.2 with ⟨e, h0⟩ | ⟨g, cap, cur, he, _⟩
  · rw [← h0] at e; exact ⟨_, _, e⟩
  · exact ⟨_, _, he⟩
theorem TgS.app {w wr W w1 : World} {T T' : Value} {m p : Nat} {G : Nat → Nat × Cn} {l : List (Ct Vk)} {y : Cn} (h : TgS w wr T m G l) (hb : Below wr.heap.size wr W) (hp : W.rowIs p 60 6 (box6 y 0)) (hpn : wr.heap.size ≤ p)
    (ho : w1.ownsRow w.heap.size 57 1 T' (m + 1) (ptrs G m ++ [pv p])) (hg : W.grownBy w1 T.ownBlock) : TgS w w1 T' (m + 1) (upE G m (p, y)) (l ++ [⟨y.key, y.lo, y.hi⟩]) := by
  have h2 := h.later hb
  have hsz := h.bel.size
  have hkeep : ∀ q, q < W.heap.size → T.ownBlock ≠ some q → w1.heap[q]? = W.heap[q]? := fun q hq hn => hg.block q hq fun e => hn e.symm
  refine ⟨by rw [show ptrs G m ++ [pv p] = _ from ptrs_up G m (p, y)] at ho; exact ho, fun i hi => ?_, fun i hi => ?_, fun i j hi hj e => ?_, ?_, ?_⟩
  · by_cases e : i = m
    · subst e; rw [upE_s]; exact hp.of_block (hkeep p hp.lt fun e => own_ne hp h2.own (by decide) e.symm)
    · rw [upE_o e]
      have hr := h2.ctr i (by omega)
      exact hr.of_block (hkeep _ hr.lt fun e => own_ne hr h2.own (by decide) e.symm)
  · by_cases e : i = m
    · subst e; rw [upE_s]; show w.heap.size ≤ p; omega
    · rw [upE_o e]; exact h.new i (by omega)
  · have key : ∀ i, i < m → (G i).1 ≠ p := fun i hi e => by have := (h.ctr i hi).lt; omega
    by_cases e1 : i = m
    · by_cases e2 : j = m
      · omega
      · subst e1; rw [upE_s, upE_o e2] at e; exact absurd e.symm (key j (by omega))
    · by_cases e2 : j = m
      · subst e2; rw [upE_o e1, upE_s] at e; exact absurd e (key i (by omega))
      · rw [upE_o e1, upE_o e2] at e; exact h.nod i j (by omega) (by omega) e
  · refine ⟨hg.os.trans h2.bel.os, hg.tape.trans h2.bel.tape, hg.output.trans h2.bel.output, Nat.le_trans h2.bel.size hg.size, fun q hq => ?_⟩
    have hqW : q < W.heap.size := by have := h2.bel.size; omega
    rw [hkeep q hqW fun e => by have := (h.own.lt q e).1; omega]
    exact h2.bel.block q hq
  · have h3 := h.lst
    unfold cts at h3 ⊢
    rw [← lisE_up, List.map_append, h3]; rfl
theorem TgS.start (w : World) : TgS w w (.slice none 0 0) 0 (fun _ => (0, ⟨0, 0, ⟨#[]⟩, 0, 0⟩)) [] :=
  ⟨⟨by simp [ptrs], .inl ⟨rfl, rfl⟩⟩, fun i hi => absurd hi (Nat.not_lt_zero _), fun i hi => absurd hi (Nat.not_lt_zero _), fun i j hi => absurd hi (Nat.not_lt_zero _), Below.refl _ _, rfl⟩

/-- What the first loop has made of the first i. -/
def tog1 (fp : Nat) (cs ds : List (Ct Vk)) : List (Ct Vk) := cs.map fun c => ⟨c.v, c.lo + loOf ds c.v, c.hi + hiOf fp ds c.v⟩
def tog2 (fo : Nat) (cs ds : List (Ct Vk)) : List (Ct Vk) := (ds.filter fun d => !cs.any fun c => decide (c.v = d.v)).map fun d => ⟨d.v, d.lo, d.hi + fo⟩
theorem cts_succ (E : Nat → Nat × Cn) (n : Nat) : cts E (n + 1) = cts E n ++ [ctOf (E n)] := by unfold cts; rw [lisE_succ, List.map_append]; rfl
theorem tog1_succ (fp : Nat) (E : Nat → Nat × Cn) (i : Nat) (ds : List (Ct Vk)) : tog1 fp (cts E (i + 1)) ds = tog1 fp (cts E i) ds ++ [⟨(E i).2.key, (E i).2.lo + loOf ds (E i).2.key, (E i).2.hi + hiOf fp ds (E i).2.key⟩] := by
  unfold tog1; rw [cts_succ, List.map_append]; rfl
theorem tog2_no (fo : Nat) (cs : List (Ct Vk)) (E : Nat → Nat × Cn) (j : Nat) (h : ∃ c ∈ cs, c.v = (E j).2.key) : tog2 fo cs (cts E (j + 1)) = tog2 fo cs (cts E j) := by
  unfold tog2
  have : (!cs.any fun c => decide (c.v = (ctOf (E j)).v)) = false := by
    simp only [Bool.not_eq_false', List.any_eq_true, decide_eq_true_eq]; exact h
  rw [cts_succ, List.filter_append, List.filter_cons_of_neg (by simpa using this)]; simp
theorem tog2_yes (fo : Nat) (cs : List (Ct Vk)) (E : Nat → Nat × Cn) (j : Nat) (h : ∀ c ∈ cs, c.v ≠ (E j).2.key) : tog2 fo cs (cts E (j + 1)) = tog2 fo cs (cts E j) ++ [⟨(E j).2.key, (E j).2.lo, (E j).2.hi + fo⟩] := by
  unfold tog2
  have : (!cs.any fun c => decide (c.v = (ctOf (E j)).v)) = true := by
    simp only [Bool.not_eq_true', List.any_eq_false, decide_eq_true_eq]; exact h
  rw [cts_succ, List.filter_append, List.filter_cons_of_pos (by simpa using this), List.map_append]; rfl
theorem box60 (W : World) (k n : Int) (s : ByteArray) (lo hi : Nat) {a c : Int} (ha : a = (lo : Int)) (hc : c = (hi : Int)) : (W.alloc (.cells #[.int .i64 k, .int .i64 n, .string s, .int .i64 a, .int .i64 c, .int .i64 0] 60)).rowIs W.heap.size 60 6 (box6 ⟨k, n, s, lo, hi⟩ 0) := by
  subst ha hc
  refine World.rowIs_alloc W _ 60 _ fun i hi => ?_
  match i, hi with
  | 0, _ => rfl
  | 1, _ => rfl
  | 2, _ => rfl
  | 3, _ => rfl
  | 4, _ => rfl
  | 5, _ => rfl
end Go.Proofs.Ytgmfbjehdcdioaa

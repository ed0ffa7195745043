import Derived.Test.YtljebbodcehmpabGreatRefB
set_option linter.unusedSimpArgs false
set_option linter.unusedVariables false
namespace Go.Proofs.YtljebbodcehmpabGreat
open Go.RowKit Go.Sort

/-- How many from the first one on are as great. -/
def aheadO (xs : List Val) : Nat := (xs.takeWhile fun y => decide (ordV y (xs.headD Val.null) = 0)).length
def runsO : Nat → List Val → List Int
  | 0, _ => []
  | _ + 1, [] => []
  | f + 1, x :: xs => (beL (aheadO (x :: xs) : Int) 4 4 ++ plainL x) ++ runsO f ((x :: xs).drop (aheadO (x :: xs)))
def runsM : Nat → List Val → Nat
  | 0, _ => 0
  | _ + 1, [] => 0
  | f + 1, x :: xs => 1 + runsM f ((x :: xs).drop (aheadO (x :: xs)))
def lastI (W : List Val) : Int := if W.length = 0 then 0 else (atL W (W.length - 1)).n
def firstI (W : List Val) : Int := if W.length = 0 then 0 else (atL W 0).n
def offsR (W ys : List Val) : List Int := (beL (IntKind.u64.wrap (firstI W)) 8 8 ++ beL (bl ((lastI W - firstI W) % 18446744073709551616).toNat : Int) 1 1) ++ leB (total (bl ((lastI W - firstI W) % 18446744073709551616).toNat) (ys.map (offN (firstI W)))) (bytesN ys.length (bl ((lastI W - firstI W) % 18446744073709551616).toNat))
/-- The values' bytes by a scheme, as the document says them. -/
def RBody (n : Nat) (ys : List Val) (b : List Int) : Prop :=
  (n = 1 ∧ b = plains ys) ∨ (n = 2 ∧ b = beL (runsM ys.length ys : Int) 4 4 ++ runsO ys.length ys) ∨ (n = 3 ∧ ∃ S, S.Perm ys ∧ Rises S ∧ b = wordsB (unlT S S.length) ys) ∨ (n = 4 ∧ ∃ S, S.Perm ys ∧ Rises S ∧ b = offsR (unlT S S.length) ys)
theorem head2 (n kd : Nat) (hn : n < 256) (hk : kd < 256) : toB [(n : Int), (kd : Int)] = toB (beL (n : Int) 1 1 ++ beL (kd : Int) 1 1) := by
  congr 1
  simp [beL, beN]
  omega

end Go.Proofs.YtljebbodcehmpabGreat
set_option linter.unusedSimpArgs false
set_option linter.unusedVariables false
namespace Go.Proofs.YtljebbodcehmpabGreat
open Go.RowKit Go.Sort

structure RSt (w W : World) (k : Int) (xs ys Wd : List Val) (a6 a7 a8 : Option Addr) (c8 B8 : Nat) : Prop where
  k0 : W.cell? ⟨w.heap.size, 0, none⟩ = some (.int .i64 k)
  r6 : RowAt W a6 xs
  r7 : RowAt W a7 ys
  r8 : RowAt W a8 Wd
  b8 : W.cell? ⟨B8, 0, none⟩ = some (.slice a8 Wd.length c8)
  bel : Below w.heap.size w W
theorem RSt.later {w W W' : World} {k : Int} {xs ys Wd : List Val} {a6 a7 a8 : Option Addr} {c8 B8 : Nat} (h : RSt w W k xs ys Wd a6 a7 a8 c8 B8) (hb : Below W.heap.size W W') : RSt w W' k xs ys Wd a6 a7 a8 c8 B8 :=
  ⟨cell_later hb h.k0, h.r6.later hb, h.r7.later hb, h.r8.later hb, cell_later hb h.b8, below_step h.bel hb⟩

theorem two_own (W : World) (a b : Int) : OwnB (W.alloc (.cells #[.int .u8 a, .int .u8 b] 5)) 0 (.slice (some ⟨W.heap.size, 0, none⟩) 2 2) [a, b] :=
  World.ownsRow_lit W #[.int .u8 a, .int .u8 b] 2 (Nat.zero_le _) (by unfold maxLen; omega) rfl
theorem wrap8 {k : Int} (h : k ≤ 2 ∧ 0 ≤ k) : IntKind.u8.wrap k = k := by
  simp [IntKind.wrap, IntKind.signed, IntKind.bits]
  omega

theorem stand_any_null {xs : List Val} : (standL xs).length = xs.length ↔ xs.any nullB = false := by
  unfold standL
  rw [List.length_filter_eq_length_iff, List.any_eq_false]
  constructor
  · intro h x hx
    have := h x hx
    simp [nullB] at this ⊢
    exact this
  · intro h x hx
    have := h x hx
    simp [nullB] at this ⊢
    exact this
theorem nulls_no {xs : List Val} (h : (standL xs).length = xs.length) : nullsL xs = beL 0 1 1 := by rw [nullsL, stand_any_null.1 h]; rfl
theorem nulls_yes {xs : List Val} (h : ¬ (standL xs).length = xs.length) : nullsL xs = beL 1 1 1 ++ leB (total 1 (marksN xs)) (bytesN xs.length 1) := by
  rw [nullsL]
  cases hz : xs.any nullB
  · exact absurd (stand_any_null.2 hz) h
  · rfl

/-- A row of numbers of the call's own. -/
def OwnU (w : World) (base : Nat) (v : Value) (ns : List Nat) : Prop := w.ownsRow base 65 1 v ns.length (ns.map fun n : Nat => Value.int .u64 (n : Int))
theorem OwnU.later {w w1 : World} {base : Nat} {v : Value} {ns : List Nat} (h : OwnU w base v ns) (hb : Below w.heap.size w w1) : OwnU w1 base v ns := own_later h hb
theorem OwnU.lis {w : World} {base : Nat} {v : Value} {ns : List Nat} (h : OwnU w base v ns) : ∃ a c, v = .slice a ns.length c ∧ LisAt w a (ns.map fun n : Nat => Value.int .u64 (n : Int)) := by
  rcases h.2 with ⟨rfl, h0⟩ | ⟨g, cap, cur, rfl, _⟩
  · have : ns = [] := List.eq_nil_of_length_eq_zero h0
    subst this
    exact ⟨none, 0, rfl, .inl rfl⟩
  · refine ⟨_, cap, rfl, .inr ⟨g, 0, rfl, fun i x hx => ?_⟩⟩
    have := World.ownsRow.cells h (g := g) rfl i x hx
    rw [Addr.add_lit] at this
    exact this
/-- append(numbers, number). -/
theorem wpList_append_num {ops : Array Oper} {rest : List Oper} {o : Oper} {a : Act} {Q : Exit → Act → World → Prop} (w : World) (m : Nat) (hgd : o.guard = none) (s x : Operand) (ho : o.op = .call { callee := .builtin .append, args := #[s, x], argTypes := #[66, 66] })
    (base : Nat) (v : Value) (ns : List Nat) (hs : a.eval s = v) (hx : a.eval x = .slice (some ⟨w.heap.size, 0, none⟩) 1 1) (hown : OwnU w base v ns) (hl : ns.length ≤ 1048576) (hbase : base ≤ w.heap.size)
    (h : ∀ v' w', OwnU w' base v' (ns ++ [m]) → Below base w w' → wpList Tryz.prog ops Q rest (a.put o.dst v') w') : wpList Tryz.prog ops Q (o :: rest) a (w.alloc (.cells #[.int .u64 (m : Int)] 65)) := by
  obtain ⟨i6, hi6, z60, z61, z62⟩ := info_parts Tryz.info65
  refine wpList_append_own_at _ hgd s x 66 ho base 65 i6 (.int .u64 0) 1 8 Tryz.underlying66 hi6 z60 z61 z62 rfl (by decide) v ns.length (ns.map fun n : Nat => Value.int .u64 (n : Int)) hs (World.ownsRow.alloc hown _) ⟨w.heap.size, 0, none⟩ 1 1 [.int .u64 (m : Int)] hx rfl (fun j u hj => ?_) (fun u hu => by simp at hu; subst hu; rfl) (by unfold maxLen; omega) (by omega) (by simp; omega) ?_
  · match j, hj with
    | 0, hj => simp at hj; subst hj; rw [Addr.add_lit]; simp [go_sem]
    | j + 1, hj => simp at hj
  · intro v' w' h1 h2 _ hat
    refine h v' w' ?_ ?_
    · unfold OwnU
      rw [List.length_append, List.map_append]
      exact h1
    · exact (below_alloc (Below.refl _ w) _ |>.mono hbase).trans (grown_below (B := base) h2 (by simp; omega) (fun g hg => (World.ownsRow.lt hown g hg).1))
end Go.Proofs.YtljebbodcehmpabGreat
set_option linter.unusedSimpArgs false
set_option linter.unusedVariables false
namespace Go.Proofs.YtljebbodcehmpabGreat
open Go.RowKit Go.Sort

theorem unlT_sub (xs : List Val) : ∀ k, k ≤ xs.length → (unlT xs k).Sublist (xs.take k)
  | 0, _ => List.nil_sublist _
  | k + 1, h => by
    have e := atL_some (show k < xs.length by omega)
    obtain ⟨h1, h2⟩ := List.getElem?_eq_some_iff.1 e
    rw [unlT, List.take_succ_eq_append_getElem h1, h2]
    refine List.Sublist.append (unlT_sub xs k (by omega)) ?_
    split
    · exact List.Sublist.refl _
    · exact List.nil_sublist _
theorem unl_sub (xs : List Val) : (unlT xs xs.length).Sublist xs := by
  have := unlT_sub xs xs.length (Nat.le_refl _)
  rwa [List.take_length] at this
end Go.Proofs.YtljebbodcehmpabGreat
set_option linter.unusedSimpArgs false
set_option linter.unusedVariables false
namespace Go.Proofs.YtljebbodcehmpabGreat
open Go.RowKit Go.Sort

theorem unlT_pos (xs : List Val) : ∀ k, 0 < (unlT xs (k + 1)).length
  | 0 => by rw [unlT, if_pos (.inl rfl), List.length_append]; simp
  | k + 1 => by rw [unlT, List.length_append]; have := unlT_pos xs k; omega
theorem unl_pos {xs : List Val} (h : 0 < xs.length) : 0 < (unlT xs xs.length).length := by
  obtain ⟨k, hk⟩ : ∃ k, xs.length = k + 1 := ⟨xs.length - 1, by omega⟩
  rw [hk]
  exact unlT_pos xs k
/-- How far the last is above the first. -/
def farN (W : List Val) : Nat := ((lastI W - firstI W) % 18446744073709551616).toNat
theorem farN_lt (W : List Val) : farN W < 18446744073709551616 := by unfold farN; omega
theorem farN_wrap (W : List Val) : IntKind.u64.wrap (IntKind.u64.wrap (lastI W) - IntKind.u64.wrap (firstI W)) = (farN W : Int) := by
  simp only [IntKind.wrap_u64, farN]
  omega
theorem one_own (W : World) (a : Int) : OwnB (W.alloc (.cells #[.int .u8 a] 5)) 0 (.slice (some ⟨W.heap.size, 0, none⟩) 1 1) [a] :=
  World.ownsRow_lit W #[.int .u8 a] 1 (Nat.zero_le _) (by unfold maxLen; omega) rfl
theorem wrap8n {k : Nat} (h : k ≤ 64) : IntKind.u8.wrap (k : Int) = (k : Int) := by
  simp [IntKind.wrap, IntKind.signed, IntKind.bits]
  omega
theorem one_be {k : Nat} (h : k ≤ 64) : toB [(k : Int)] = toB (beL (k : Int) 1 1) := by
  congr 1
  simp [beL, beN]
  omega
theorem wpList_append_num' {ops : Array Oper} {rest : List Oper} {o : Oper} {a : Act} {Q : Exit → Act → World → Prop} (w : World) (m g : Nat) (hg : w.heap.size = g) (hgd : o.guard = none) (s x : Operand) (ho : o.op = .call { callee := .builtin .append, args := #[s, x], argTypes := #[66, 66] })
    (base : Nat) (v : Value) (ns : List Nat) (hs : a.eval s = v) (hx : a.eval x = .slice (some ⟨g, 0, none⟩) 1 1) (hown : OwnU w base v ns) (hl : ns.length ≤ 1048576) (hbase : base ≤ w.heap.size)
    (h : ∀ v' w', OwnU w' base v' (ns ++ [m]) → Below base w w' → wpList Tryz.prog ops Q rest (a.put o.dst v') w') : wpList Tryz.prog ops Q (o :: rest) a (w.alloc (.cells #[.int .u64 (m : Int)] 65)) :=
  wpList_append_num w m hgd s x ho base v ns hs (by rw [hg]; exact hx) hown hl hbase h
end Go.Proofs.YtljebbodcehmpabGreat
set_option linter.unusedSimpArgs false
set_option linter.unusedVariables false
namespace Go.Proofs.YtljebbodcehmpabGreat
open Go.RowKit Go.Sort

theorem aheadO_le (xs : List Val) : aheadO xs ≤ xs.length := (List.takeWhile_prefix _).length_le
theorem aheadO_pos {x : Val} {xs : List Val} : 0 < aheadO (x :: xs) := by
  unfold aheadO
  simp [List.takeWhile_cons, ord_self]
theorem aheadO_eq {xs : List Val} {k : Nat} {z : Val} (hz : xs[0]? = some z) (hk : k ≤ xs.length) (h1 : ∀ i y, i < k → xs[i]? = some y → ordV y z = 0) (h2 : ∀ y, xs[k]? = some y → ordV y z ≠ 0) : aheadO xs = k := by
  have hh : xs.headD Val.null = z := by cases xs with | nil => simp at hz | cons y ys => simpa using hz
  unfold aheadO
  rw [hh]
  exact while_len _ xs k (fun i y hi hy => by simp [h1 i y hi hy]) hk (fun y hy => by simp [h2 y hy])
theorem runsO_fuel : ∀ (f g : Nat) (xs : List Val), xs.length ≤ f → xs.length ≤ g → runsO f xs = runsO g xs ∧ runsM f xs = runsM g xs
  | 0, g, [], _, _ => by cases g <;> exact ⟨rfl, rfl⟩
  | 0, g, x :: xs, h, _ => by simp at h
  | f + 1, 0, [], _, _ => ⟨rfl, rfl⟩
  | f + 1, 0, x :: xs, _, h => by simp at h
  | f + 1, g + 1, [], _, _ => ⟨rfl, rfl⟩
  | f + 1, g + 1, x :: xs, h1, h2 => by
    have hp := aheadO_pos (x := x) (xs := xs)
    have hl : ((x :: xs).drop (aheadO (x :: xs))).length ≤ xs.length := by rw [List.length_drop, List.length_cons]; omega
    simp only [List.length_cons] at h1 h2
    have ih := runsO_fuel f g ((x :: xs).drop (aheadO (x :: xs))) (by omega) (by omega)
    exact ⟨by rw [runsO, runsO, ih.1], by rw [runsM, runsM, ih.2]⟩
theorem runsO_next {x : Val} {xs : List Val} : runsO (x :: xs).length (x :: xs) = (beL (aheadO (x :: xs) : Int) 4 4 ++ plainL x) ++ runsO ((x :: xs).drop (aheadO (x :: xs))).length ((x :: xs).drop (aheadO (x :: xs))) ∧ runsM (x :: xs).length (x :: xs) = 1 + runsM ((x :: xs).drop (aheadO (x :: xs))).length ((x :: xs).drop (aheadO (x :: xs))) := by
  have hp := aheadO_pos (x := x) (xs := xs)
  have hl : ((x :: xs).drop (aheadO (x :: xs))).length ≤ xs.length := by rw [List.length_drop, List.length_cons]; omega
  have ih := runsO_fuel xs.length _ ((x :: xs).drop (aheadO (x :: xs))) hl (Nat.le_refl _)
  rw [List.length_cons]
  exact ⟨by rw [runsO, ih.1], by rw [runsM, ih.2]⟩
/-- For clean values the runs by order are the runs by sameness. -/
theorem ahead_same {xs : List Val} (hc : ∀ x ∈ xs, cleanV x = x) : aheadO xs = aheadN xs := by
  cases xs with
  | nil => rfl
  | cons z zs =>
    unfold aheadO aheadN
    congr 1
    simp only [List.headD_cons]
    have hcz := hc z (by simp)
    have key : ∀ l : List Val, (∀ x ∈ l, cleanV x = x) → l.takeWhile (fun y => decide (ordV y z = 0)) = l.takeWhile (fun y => sameB y z) := by
      intro l
      induction l with
      | nil => intro _; rfl
      | cons y l ih =>
        intro h
        have hy := h y (by simp)
        have e : decide (ordV y z = 0) = sameB y z := by
          by_cases hs : sameB y z = true
          · rw [hs, sameB_eq.1 hs, ord_self]; rfl
          · have : ¬ ordV y z = 0 := fun h0 => hs (sameB_eq.2 (by have := ord_eq h0; rw [hy, hcz] at this; exact this))
            simp [this]
            simpa using hs
        rw [List.takeWhile_cons, List.takeWhile_cons, e, ih (fun x hx => h x (by simp [hx]))]
    exact key _ hc
theorem runs_same : ∀ (f : Nat) (xs : List Val), (∀ x ∈ xs, cleanV x = x) → runsO f xs = runsB f xs ∧ runsM f xs = runsN f xs
  | 0, _, _ => ⟨rfl, rfl⟩
  | _ + 1, [], _ => ⟨rfl, rfl⟩
  | f + 1, x :: xs, h => by
    have e := ahead_same h
    have ih := runs_same f ((x :: xs).drop (aheadN (x :: xs))) (fun y hy => h y (List.mem_of_mem_drop hy))
    rw [runsO, runsB, runsM, runsN, e]
    exact ⟨by rw [ih.1], by rw [ih.2]⟩
end Go.Proofs.YtljebbodcehmpabGreat

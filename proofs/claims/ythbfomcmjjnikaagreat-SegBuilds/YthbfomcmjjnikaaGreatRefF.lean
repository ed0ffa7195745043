import Derived.Test.YthbfomcmjjnikaaGreatRefD
set_option linter.unusedSimpArgs false
set_option linter.unusedVariables false
namespace Go.Proofs.YthbfomcmjjnikaaGreat
open Go.RowKit Go.Sort

theorem unlT_pos (xs : List Val) : ∀ k, 0 < (unlT xs (k + 1)).length
  | 0 => by rw [unlT, if_pos (.inl rfl), List.length_append]; simp
  | k + 1 => by rw [unlT, List.length_append]; have := unlT_pos xs k; omega
theorem unl_pos {xs : List Val} (h : 0 < xs.length) : 0 < (unlT xs xs.length).length := by
  obtain ⟨k, hk⟩ : ∃ k, xs.length = k + 1 := ⟨xs.length - 1, by omega⟩
  rw [hk]
  exact unlT_pos xs k
/-- How far the last is above the first. -/
def farN (W : List Val) : Nat := ((lastI W - firstI W) % 18446744073709551616).toNat
theorem farN_lt (W : List Val) : farN W < 18446744073709551616 := by unfold farN; omega
theorem farN_wrap (W : List Val) : IntKind.u64.wrap (IntKind.u64.wrap (lastI W) - IntKind.u64.wrap (firstI W)) = (farN W : Int) := by
  simp only [IntKind.wrap_u64, farN]
  omega
theorem one_own (W : World) (a : Int) : OwnB (W.alloc (.cells #[.int .u8 a] 5)) 0 (.slice (some ⟨W.heap.size, 0, none⟩) 1 1) [a] :=
  World.ownsRow_lit W #[.int .u8 a] 1 (Nat.zero_le _) (by unfold maxLen; omega) rfl
theorem wrap8n {k : Nat} (h : k ≤ 64) : IntKind.u8.wrap (k : Int) = (k : Int) := by
  simp [IntKind.wrap, IntKind.signed, IntKind.bits]
  omega
theorem one_be {k : Nat} (h : k ≤ 64) : toB [(k : Int)] = toB (beL (k : Int) 1 1) := by
  congr 1
  simp [beL, beN]
  omega
theorem wpList_append_num' {ops : Array Oper} {rest : List Oper} {o : Oper} {a : Act} {Q : Exit → Act → World → Prop} (w : World) (m g : Nat) (hg : w.heap.size = g) (hgd : o.guard = none) (s x : Operand) (ho : o.op = .call { callee := .builtin .append, args := #[s, x], argTypes := #[113, 113] })
    (base : Nat) (v : Value) (ns : List Nat) (hs : a.eval s = v) (hx : a.eval x = .slice (some ⟨g, 0, none⟩) 1 1) (hown : OwnU w base v ns) (hl : ns.length ≤ 1048576) (hbase : base ≤ w.heap.size)
    (h : ∀ v' w', OwnU w' base v' (ns ++ [m]) → Below base w w' → wpList Tryz.prog ops Q rest (a.put o.dst v') w') : wpList Tryz.prog ops Q (o :: rest) a (w.alloc (.cells #[.int .u64 (m : Int)] 73)) :=
  wpList_append_num w m hgd s x ho base v ns hs (by rw [hg]; exact hx) hown hl hbase h
end Go.Proofs.YthbfomcmjjnikaaGreat
set_option linter.unusedSimpArgs false
set_option linter.unusedVariables false
namespace Go.Proofs.YthbfomcmjjnikaaGreat
open Go.RowKit Go.Sort

theorem aheadO_le (xs : List Val) : aheadO xs ≤ xs.length := (List.takeWhile_prefix _).length_le
theorem aheadO_pos {x : Val} {xs : List Val} : 0 < aheadO (x :: xs) := by
  unfold aheadO
  simp [List.takeWhile_cons, ord_self]
theorem aheadO_eq {xs : List Val} {k : Nat} {z : Val} (hz : xs[0]? = some z) (hk : k ≤ xs.length) (h1 : ∀ i y, i < k → xs[i]? = some y → ordV y z = 0) (h2 : ∀ y, xs[k]? = some y → ordV y z ≠ 0) : aheadO xs = k := by
  have hh : xs.headD Val.null = z := by cases xs with | nil => simp at hz | cons y ys => simpa using hz
  unfold aheadO
  rw [hh]
  exact while_len _ xs k (fun i y hi hy => by simp [h1 i y hi hy]) hk (fun y hy => by simp [h2 y hy])
theorem runsO_fuel : ∀ (f g : Nat) (xs : List Val), xs.length ≤ f → xs.length ≤ g → runsO f xs = runsO g xs ∧ runsM f xs = runsM g xs
  | 0, g, [], _, _ => by cases g <;> exact ⟨rfl, rfl⟩
  | 0, g, x :: xs, h, _ => by simp at h
  | f + 1, 0, [], _, _ => ⟨rfl, rfl⟩
  | f + 1, 0, x :: xs, _, h => by simp at h
  | f + 1, g + 1, [], _, _ => ⟨rfl, rfl⟩
  | f + 1, g + 1, x :: xs, h1, h2 => by
    have hp := aheadO_pos (x := x) (xs := xs)
    have hl : ((x :: xs).drop (aheadO (x :: xs))).length ≤ xs.length := by rw [List.length_drop, List.length_cons]; omega
    simp only [List.length_cons] at h1 h2
    have ih := runsO_fuel f g ((x :: xs).drop (aheadO (x :: xs))) (by omega) (by omega)
    exact ⟨by rw [runsO, runsO, ih.1], by rw [runsM, runsM, ih.2]⟩
theorem runsO_next {x : Val} {xs : List Val} : runsO (x :: xs).length (x :: xs) = (beL (aheadO (x :: xs) : Int) 4 4 ++ plainL x) ++ runsO ((x :: xs).drop (aheadO (x :: xs))).length ((x :: xs).drop (aheadO (x :: xs))) ∧ runsM (x :: xs).length (x :: xs) = 1 + runsM ((x :: xs).drop (aheadO (x :: xs))).length ((x :: xs).drop (aheadO (x :: xs))) := by
  have hp := aheadO_pos (x := x) (xs := xs)
  have hl : ((x :: xs).drop (aheadO (x :: xs))).length ≤ xs.length := by rw [List.length_drop, List.length_cons]; omega
  have ih := runsO_fuel xs.length _ ((x :: xs).drop (aheadO (x :: xs))) hl (Nat.le_refl _)
  rw [List.length_cons]
  exact ⟨by rw [runsO, ih.1], by rw [runsM, ih.2]⟩
/-- For clean values the runs by order are the runs by sameness. -/
theorem ahead_same {xs : List Val} (hc : ∀ x ∈ xs, cleanV x = x) : aheadO xs = aheadN xs := by
  cases xs with
  | nil => rfl
  | cons z zs =>
    unfold aheadO aheadN
    congr 1
    simp only [List.headD_cons]
    have hcz := hc z (by simp)
    have key : ∀ l : List Val, (∀ x ∈ l, cleanV x = x) → l.takeWhile (fun y => decide (ordV y z = 0)) = l.takeWhile (fun y => sameB y z) := by
      intro l
      induction l with
      | nil => intro _; rfl
      | cons y l ih =>
        intro h
        have hy := h y (by simp)
        have e : decide (ordV y z = 0) = sameB y z := by
          by_cases hs : sameB y z = true
          · rw [hs, sameB_eq.1 hs, ord_self]; rfl
          · have : ¬ ordV y z = 0 := fun h0 => hs (sameB_eq.2 (by have := ord_eq h0; rw [hy, hcz] at this; exact this))
            simp [this]
            simpa using hs
        rw [List.takeWhile_cons, List.takeWhile_cons, e, ih (fun x hx => h x (by simp [hx]))]
    exact key _ hc
theorem runs_same : ∀ (f : Nat) (xs : List Val), (∀ x ∈ xs, cleanV x = x) → runsO f xs = runsB f xs ∧ runsM f xs = runsN f xs
  | 0, _, _ => ⟨rfl, rfl⟩
  | _ + 1, [], _ => ⟨rfl, rfl⟩
  | f + 1, x :: xs, h => by
    have e := ahead_same h
    have ih := runs_same f ((x :: xs).drop (aheadN (x :: xs))) (fun y hy => h y (List.mem_of_mem_drop hy))
    rw [runsO, runsB, runsM, runsN, e]
    exact ⟨by rw [ih.1], by rw [ih.2]⟩
end Go.Proofs.YthbfomcmjjnikaaGreat

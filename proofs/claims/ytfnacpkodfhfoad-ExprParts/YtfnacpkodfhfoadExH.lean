import Derived.Test.YtfnacpkodfhfoadExG
set_option linter.unusedSimpArgs false
set_option linter.unusedVariables false
namespace Go.Proofs.Ytfnacpkodfhfoad
open Go.RowKit Go.Sort

/-- A row of values, to be read. -/
def RowAt (w : World) (a : Option Addr) (xs : List Val) : Prop :=
  xs = [] ∨ ∃ b off, a = some ⟨b, off, none⟩ ∧ ∀ i x, xs[i]? = some x → w.cell? ⟨b, off + i * 3, none⟩ = some (.int .i64 x.k) ∧ w.cell? ⟨b, off + i * 3 + 1, none⟩ = some (.int .i64 x.n) ∧ w.cell? ⟨b, off + i * 3 + 2, none⟩ = some (.string x.s)
theorem RowAt.later {w w' : World} {a : Option Addr} {xs : List Val} (h : RowAt w a xs) (hb : Below w.heap.size w w') : RowAt w' a xs := by
  rcases h with h | ⟨b, off, ha, h⟩
  · exact .inl h
  · exact .inr ⟨b, off, ha, fun i x hx => ⟨clater (h i x hx).1 hb, clater (h i x hx).2.1 hb, clater (h i x hx).2.2 hb⟩⟩
theorem RowAt.lo {w : World} {a : Option Addr} {xs : List Val} {k : Nat} {x : Val} (h : RowAt w a xs) (hx : xs[k]? = some x) : ∃ b off, a = some ⟨b, off, none⟩ ∧ w.cell? ⟨b, off + k * 3, none⟩ = some (.int .i64 x.k) ∧ w.cell? ⟨b, off + k * 3 + 1, none⟩ = some (.int .i64 x.n) ∧ w.cell? ⟨b, off + k * 3 + 2, none⟩ = some (.string x.s) := by
  rcases h with e | ⟨b, off, rfl, hc⟩
  · rw [e] at hx; cases hx
  · exact ⟨b, off, rfl, hc k x hx⟩
/-- A value that the machine holds. -/
def VOk (x : Val) : Prop := In64 x.n ∧ x.s.size ≤ 140737488355328
theorem vok_null : VOk .null := ⟨⟨by show -9223372036854775808 ≤ (0 : Int); decide, by show (0 : Int) ≤ 9223372036854775807; decide⟩, Nat.zero_le _⟩
theorem vok_num {n : Int} (h : In64 n) : VOk (.num n) := ⟨h, Nat.zero_le _⟩
theorem vok_clean {x : Val} (h : VOk x) : VOk (cleanV x) := by
  unfold cleanV
  split
  · exact vok_num h.1
  · split
    · exact ⟨⟨by show -9223372036854775808 ≤ (0 : Int); decide, by show (0 : Int) ≤ 9223372036854775807; decide⟩, h.2⟩
    · exact vok_null
def oneV (op : Int) (x : Val) : Val := if op == 3 then reckV 8 (.num 0) x else if op == 4 then notV x else if op == 5 then (if x.k == 0 then .num 1 else .num 0) else (if x.k == 2 then .num x.s.size else .null)
def twoV (op : Int) (x y : Val) : Val := if decide (op ≤ 11) then reckV op x y else if decide (op ≤ 17) then testV op x y else if op == 18 then catV x y else bothV op x y
def nodeV (op n : Int) (v : Val) (row : List Val) : List Val → Val
  | [] => if op == 2 then cleanV v else if decide ((row.length : Int) ≤ n) then .null else cleanV (row.getD n.toNat .null)
  | [x] => oneV op x
  | [x, y] => twoV op x y
  | x :: y :: z :: _ => if trueB x then y else z
mutual
/-- What an expression comes to. -/
def evalE (row : List Val) : Ex → Val
  | .mk op n v l => nodeV op n v row (evalL row l)
def evalL (row : List Val) : List Ex → List Val
  | [] => []
  | e :: l => evalE row e :: evalL row l
end
/-- A function of the program's own, in which a call goes on. -/
def Enters (n : Nat) : Prop := ∀ args w, (callFunc n args).run Try.prog w = .ok (.enter n args) w
def Fun1 (W : World) (F : Value) (g : Val → Val) : Prop := ∃ n k, F = .func (.func n) #[] k ∧ Enters n ∧ ∀ W' x, Below W.heap.size W W' → VOk x → Calls Try.prog n (#[x.v] ++ k) W' fun r w' => r = .returned (g x).v ∧ Below W'.heap.size W' w'
def Fun2 (W : World) (F : Value) (g : Val → Val → Val) : Prop := ∃ n k, F = .func (.func n) #[] k ∧ Enters n ∧ ∀ W' x y, Below W.heap.size W W' → VOk x → VOk y → Calls Try.prog n (#[x.v, y.v] ++ k) W' fun r w' => r = .returned (g x y).v ∧ Below W'.heap.size W' w'
/-- A function that works an expression out. -/
def Work (W : World) (F : Value) (e : Ex) : Prop := ∃ n k, F = .func (.func n) #[] k ∧ Enters n ∧ ∀ W' a c row, Below W.heap.size W W' → RowAt W' a row → (∀ x ∈ row, VOk x) → row.length ≤ 140737488355328 → Calls Try.prog n (#[.slice a row.length c] ++ k) W' fun r w' => r = .returned (evalE row e).v ∧ Below W'.heap.size W' w'
theorem Work.later {W W' : World} {F : Value} {e : Ex} (h : Work W F e) (hb : Below W.heap.size W W') : Work W' F e := by
  obtain ⟨n, k, h1, h2, h3⟩ := h
  exact ⟨n, k, h1, h2, fun W2 a c row hW => h3 W2 a c row (below_step hb hW)⟩
theorem Fun1.later {W W' : World} {F : Value} {g : Val → Val} (h : Fun1 W F g) (hb : Below W.heap.size W W') : Fun1 W' F g := by
  obtain ⟨n, k, h1, h2, h3⟩ := h
  exact ⟨n, k, h1, h2, fun W2 x hW => h3 W2 x (below_step hb hW)⟩
theorem Fun2.later {W W' : World} {F : Value} {g : Val → Val → Val} (h : Fun2 W F g) (hb : Below W.heap.size W W') : Fun2 W' F g := by
  obtain ⟨n, k, h1, h2, h3⟩ := h
  exact ⟨n, k, h1, h2, fun W2 x y hW => h3 W2 x y (below_step hb hW)⟩
theorem ent57 : Enters 78 := fun args w => by kernel_rfl
theorem ent58 : Enters 79 := fun args w => by kernel_rfl
theorem ent59 : Enters 80 := fun args w => by kernel_rfl
theorem ent62 : Enters 83 := fun args w => by kernel_rfl
theorem ent63 : Enters 84 := fun args w => by kernel_rfl
theorem ent64 : Enters 85 := fun args w => by kernel_rfl
theorem ent65 : Enters 86 := fun args w => by kernel_rfl
theorem ent66 : Enters 87 := fun args w => by kernel_rfl
theorem ent68 : Enters 89 := fun args w => by kernel_rfl
theorem ent69 : Enters 90 := fun args w => by kernel_rfl
theorem ent29 : Enters 55 := fun args w => by kernel_rfl
theorem ent31 : Enters 57 := fun args w => by kernel_rfl
theorem ent32 : Enters 58 := fun args w => by kernel_rfl
theorem expnum_any (n : Int) (w : World) : Calls Try.prog 82 #[.int .i64 n] w fun e w' => e = .returned (.agg #[.int .i64 1, .int .i64 n, .string ⟨#[]⟩]) ∧ Below w.heap.size w w' := by
  go_enter Try.func82, Try.ntmps82
  go_wp2
  exact bodyPost_ret (v := .agg #[.int .i64 1, .int .i64 n, .string ⟨#[]⟩]) (by simp [results, Try.results82, go_sem]) rfl ⟨rfl, (Below.refl _ _).alloc (Nat.le_refl _) _⟩
theorem zeroAt_new (w : World) : ZeroAt (w.alloc (.cells #[.int .i64 0, .int .i64 0, .string ⟨#[]⟩] 23)) w.heap.size := by
  refine ⟨?_, ?_, ?_, ?_, ?_, ?_⟩ <;> simp [go_sem]
theorem put3 {w W : World} {B : Nat} (hb : Below w.heap.size w W) (hB : w.heap.size ≤ B) (u v x : Value) : Below w.heap.size w (((W.setCell ⟨B, 0, none⟩ u).setCell ⟨B, 1, none⟩ v).setCell ⟨B, 2, none⟩ x) :=
  (((hb.setCell (by simpa using hB) _).setCell (by simpa using hB) _).setCell (by simpa using hB) _)
theorem leaf1_any (v : Val) (B : Nat) (a : Option Addr) (m c : Nat) (W : World) (hB : BoxAt W B v) : Calls Try.prog 78 #[.slice a m c, .pointer (some ⟨B, 0, none⟩)] W fun r w' => r = .returned v.v ∧ Below W.heap.size W w' := by
  obtain ⟨c0, c1, c2⟩ := hB.later (below_alloc (Below.refl _ W) (.cells #[.int .i64 0, .int .i64 0, .string ⟨#[]⟩] 23))
  clear hB
  go_enter Try.func78, Try.ntmps78
  go_wp2
  exact bodyPost_ret (v := v.v) (by simp [results, Try.results78, go_sem, Val.v]) rfl ⟨rfl, (Below.refl _ _).alloc (Nat.le_refl _) _⟩
set_option maxHeartbeats 400000 in
theorem leaf2_any (n : Int) (B : Nat) (a : Option Addr) (c : Nat) (row : List Val) (W : World) (hn : 0 ≤ n) (hl : row.length ≤ 140737488355328) (hB : Box1 W B (.int .i64 n)) (hr : RowAt W a row) :
    Calls Try.prog 79 #[.slice a row.length c, .pointer (some ⟨B, 0, none⟩)] W fun r w' => r = .returned (if decide ((row.length : Int) ≤ n) then Val.null else cleanV (row.getD n.toNat .null)).v ∧ Below W.heap.size W w' := by
  have c0 := clater hB (below_alloc (Below.refl _ W) (.cells #[.int .i64 0, .int .i64 0, .string ⟨#[]⟩] 23))
  by_cases h : (row.length : Int) ≤ n
  · have e : (if decide ((row.length : Int) ≤ n) then Val.null else cleanV (row.getD n.toNat .null)) = .null := by simp [h]
    rw [e]
    clear hB
    go_enter Try.func79, Try.ntmps79
    go_wp2
    exact bodyPost_ret (v := Val.null.v) (by simp [results, Try.results79, go_sem, Val.v, Val.null]) rfl ⟨rfl, (Below.refl _ _).alloc (Nat.le_refl _) _⟩
  · obtain ⟨k, rfl⟩ : ∃ k : Nat, n = (k : Int) := ⟨n.toNat, by omega⟩
    obtain ⟨x, hx⟩ : ∃ x, row[k]? = some x := ⟨_, List.getElem?_eq_getElem (by omega)⟩
    have e : (if decide ((row.length : Int) ≤ (k : Int)) then Val.null else cleanV (row.getD (k : Int).toNat .null)) = cleanV x := by
      have h2 : decide ((row.length : Int) ≤ (k : Int)) = false := by simpa using h
      rw [h2, Int.toNat_natCast, List.getD_eq_getElem?_getD, hx]; rfl
    rw [e]
    obtain ⟨b, off, rfl, d0, d1, d2⟩ := (hr.later (below_alloc (Below.refl _ W) (.cells #[.int .i64 0, .int .i64 0, .string ⟨#[]⟩] 23))).lo hx
    have HC := hide (clean_any x)
    rw [Val.open_] at HC
    generalize cleanV x = cx at *
    have hki : (k : Int) < (row.length : Int) := by omega
    clear hB hr hx e
    go_enter Try.func79, Try.ntmps79
    go_wp2_with (go_at_call 50; refine (unhide HC _).mono ?_; rintro r w1 ⟨rfl, hb1⟩; rw [Val.open_]; obtain ⟨z0, z1, z2, z3, z4, z5⟩ := (zeroAt_new W).later hb1)
    refine bodyPost_ret (v := cx.v) (by simp [results, Try.results79, go_sem, Val.v, *]) rfl ⟨rfl, ?_⟩
    exact put3 (below_one hb1) (Nat.le_refl _) _ _ _
end Go.Proofs.Ytfnacpkodfhfoad

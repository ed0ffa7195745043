import Derived.Test.YtmjeiepljlepbacGreatExC
set_option linter.unusedSimpArgs false
set_option linter.unusedVariables false
namespace Go.Proofs.YtmjeiepljlepbacGreat
open Go.RowKit Go.Sort

/-- A list of numbers, to be read. -/
def IntsAt (w : World) (a : Option Addr) (l : List Int) : Prop := l = [] ∨ ∃ b off, a = some ⟨b, off, none⟩ ∧ ∀ i x, l[i]? = some x → w.cell? ⟨b, off + i, none⟩ = some (.int .i64 x)
theorem IntsAt.later {w w' : World} {a : Option Addr} {l : List Int} (h : IntsAt w a l) (hb : Below w.heap.size w w') : IntsAt w' a l := by
  rcases h with h | ⟨b, off, ha, h⟩
  · exact .inl h
  · exact .inr ⟨b, off, ha, fun i x hx => clater (h i x hx) hb⟩
theorem IntsAt.get {w : World} {a : Option Addr} {l : List Int} {k : Nat} {x : Int} (h : IntsAt w a l) (hx : l[k]? = some x) : ∃ b off, a = some ⟨b, off, none⟩ ∧ w.cell? ⟨b, off + k, none⟩ = some (.int .i64 x) := by
  rcases h with h | ⟨b, off, ha, h⟩
  · rw [h] at hx; cases hx
  · exact ⟨b, off, ha, h k x hx⟩
theorem any_at {α : Type} {p : α → Bool} {l : List α} {k : Nat} {x : α} (h : l[k]? = some x) (hp : p x = true) : l.any p = true := List.any_eq_true.2 ⟨x, List.mem_of_getElem? h, hp⟩
theorem any_no {α : Type} {p : α → Bool} {l : List α} (h : ∀ i x, i < l.length → l[i]? = some x → p x = false) : l.any p = false := by
  rw [List.any_eq_false]
  intro y hy
  obtain ⟨i, hi⟩ := List.mem_iff_getElem?.1 hy
  rw [h i y (List.getElem?_eq_some_iff.1 hi).1 hi]; simp
theorem no_step {α : Type} {p : α → Bool} {l : List α} {k : Nat} {x : α} (h : ∀ i x, i < k → l[i]? = some x → p x = false) (hx : l[k]? = some x) (hp : p x = false) : ∀ i x, i < k + 1 → l[i]? = some x → p x = false := by
  intro i z hi hz
  by_cases e : i = k
  · subst e; rw [hx] at hz; injection hz with hz; rw [← hz]; exact hp
  · exact h i z (by omega) hz
/-- What a test of expressions answers. -/
def TestE (W : World) (F : Value) (p : Ex → Bool) : Prop := ∃ n k, F = .func (.func n) #[] k ∧ (∀ args w, (callFunc n args).run Tryz.prog w = .ok (.enter n args) w) ∧ ∀ (x : Ex) (a' : Option Addr) (c' : Nat) (W' : World), x.fin → Below W.heap.size W W' → Ex.all W' a' x.args → Calls Tryz.prog n (#[x.val a' c'] ++ k) W' fun r w' => r = .returned (.bool (p x)) ∧ Below W'.heap.size W' w'
/-- Where the first one is for which p holds; -1, if there is none. -/
def FoundE (p : Ex → Bool) (l : List Ex) (r : Int) : Prop := (∃ (k : Nat) (x : Ex), r = k ∧ l[k]? = some x ∧ p x = true ∧ ∀ (i : Nat) (y : Ex), i < k → l[i]? = some y → p y = false) ∨ (r = -1 ∧ ∀ (i : Nat) (y : Ex), l[i]? = some y → p y = false)
set_option maxHeartbeats 400000 in
set_option maxRecDepth 100000 in
theorem indexE_any (F : Value) (p : Ex → Bool) (a : Option Addr) (c : Nat) (l : List Ex) (w : World) (hl : l.length ≤ 140737488355328) (hf : Ex.fins l) (ha : Ex.all w a l) (hF : TestE w F p) :
    Calls Tryz.prog 123 #[.slice a l.length c, F] w fun e w' => ∃ r, e = .returned (.int .i64 r) ∧ FoundE p l r ∧ Below w.heap.size w w' := by
  have HA := hide ha
  obtain ⟨nf, kf, rfl, ent, HP⟩ := hF
  have HC := hide HP
  clear ha HP
  go_enter Tryz.func123, Tryz.ntmps123
  go_wp2_with fail
  go_loopw [8] (fun i wr => ∃ k : Nat, k ≤ l.length ∧ i = .int .i64 (k : Int) ∧ Hid (∀ i x, i < k → l[i]? = some x → p x = false) ∧ Below w.heap.size w wr) (fun i _ => l.length - (intOf i).toNat)
  case atStart => exact ⟨0, Nat.zero_le _, rfl, fun i x hi => absurd hi (by omega), Below.refl _ _⟩
  case round =>
    obtain ⟨k, hk, rfl, HN, hb⟩ := hrel
    by_cases hlt : k < l.length
    · have h9 : (k : Int) < (l.length : Int) := by omega
      obtain ⟨x, hx⟩ : ∃ x, l[k]? = some x := ⟨_, List.getElem?_eq_getElem hlt⟩
      obtain ⟨vb, vo, ea, hat⟩ := Ex.all_get (Ex.all_later _ (unhide HA) hb) hx
      obtain ⟨a', c', ⟨d0, d1, d2, d3, d4, d5⟩, hal⟩ := Ex.at_open hat
      have HX := hide (unhide HC x a' c' wr (Ex.fins_mem hf (List.mem_of_getElem? hx)) hb hal)
      rw [Ex.val_open] at HX
      have HB := hide hb
      subst ea
      clear hat hal hb
      cases hp : p x
      · have HE := hide (no_step (unhide HN) hx hp)
        rw [hp] at HX
        clear hx HN hp
        go_wp2_with (refine (unhide HX).mono ?_; rintro r w1 ⟨rfl, hb1⟩)
        exact ⟨⟨k + 1, by omega, by go_num, unhide HE, below_step (unhide HB) hb1⟩, by simp [intOf]; omega⟩
      · have HE : Hid (FoundE p l (k : Int)) := Or.inl ⟨k, x, rfl, hx, hp, unhide HN⟩
        rw [hp] at HX
        clear hx HN hp
        go_wp2_with (refine (unhide HX).mono ?_; rintro r w1 ⟨rfl, hb1⟩)
        go_ret
        exact ⟨_, rfl, unhide HE, below_step (unhide HB) hb1⟩
    · have h9 : ¬ (k : Int) < (l.length : Int) := by omega
      have HE : Hid (FoundE p l (-1)) := Or.inr ⟨rfl, fun i x hx => unhide HN i x (by have := (List.getElem?_eq_some_iff.1 hx).1; omega) hx⟩
      have HB := hide hb
      clear HN hb
      go_wp2
      go_ret
      exact ⟨_, rfl, unhide HE, unhide HB⟩
theorem found_any {p : Ex → Bool} {l : List Ex} {r : Int} (h : FoundE p l r) : decide (0 ≤ r) = l.any p := by
  rcases h with ⟨k, x, rfl, hx, hp, _⟩ | ⟨rfl, h⟩
  · rw [any_at hx hp]; simp
  · rw [any_no fun i x _ hx => h i x hx]; rfl
theorem containsE_any (F : Value) (p : Ex → Bool) (a : Option Addr) (c : Nat) (l : List Ex) (w : World) (hl : l.length ≤ 140737488355328) (hf : Ex.fins l) (ha : Ex.all w a l) (hF : TestE w F p) :
    Calls Tryz.prog 120 #[.slice a l.length c, F] w fun e w' => e = .returned (.bool (l.any p)) ∧ Below w.heap.size w w' := by
  have HI : Hid (Calls Tryz.prog 123 #[.slice a l.length c, F] w fun e w' => ∃ r, e = .returned (.int .i64 r) ∧ decide (0 ≤ r) = l.any p ∧ Below w.heap.size w w') := (indexE_any F p a c l w hl hf ha hF).mono fun e w' ⟨r, h1, h2, h3⟩ => ⟨r, h1, found_any h2, h3⟩
  clear ha
  generalize l.any p = r at *
  go_enter Tryz.func120, Tryz.ntmps120
  go_wp2_with (go_at_call 123; refine (unhide HI).mono ?_; rintro e w1 ⟨q, rfl, hq, hb⟩)
  go_ret
  exact ⟨rfl, hb⟩
end Go.Proofs.YtmjeiepljlepbacGreat
set_option linter.unusedSimpArgs false
set_option linter.unusedVariables false
namespace Go.Proofs.YtmjeiepljlepbacGreat
open Go.RowKit Go.Sort

mutual
/-- Each node is one that may be. -/
def goodE : Ex → Prop
  | .mk op n v l => soundE (.mk op n v l) = true ∧ goodL l
def goodL : List Ex → Prop
  | [] => True
  | e :: l => goodE e ∧ goodL l
end
theorem good_open {e : Ex} (h : goodE e) : soundE e = true ∧ goodL e.args := by
  cases e with
  | mk op n v l => rw [goodE] at h; exact h
theorem goodL_mem : ∀ {l : List Ex} {x : Ex}, goodL l → x ∈ l → goodE x
  | [], _, _, h => by cases h
  | e :: l, x, hf, h => by
    rw [goodL] at hf
    rcases List.mem_cons.1 h with rfl | h
    · exact hf.1
    · exact goodL_mem hf.2 h
theorem good_arg {e x : Ex} {i : Nat} (h : goodE e) (hx : e.args[i]? = some x) : goodE x := goodL_mem (good_open h).2 (List.mem_of_getElem? hx)
mutual
theorem meas_good : ∀ (e : Ex) (N H : Int), (measE soundE e N H).2.2 = true → goodE e
  | .mk op n v l, N, H, he => by
    rw [measE] at he
    split at he
    · cases he
    · rename_i hc
      simp only [Bool.or_eq_true, Bool.not_eq_true', not_or] at hc
      cases hm : measL soundE l N H 1 0 with
      | none => rw [hm] at he; cases he
      | some q =>
        rw [goodE]
        exact ⟨by simpa using hc.2, measL_good l N H 1 0 (by rw [hm]; rfl)⟩
theorem measL_good : ∀ (l : List Ex) (N H c h : Int), (measL soundE l N H c h).isSome = true → goodL l
  | [], N, H, c, h, he => by rw [goodL]; trivial
  | e :: l, N, H, c, h, he => by
    rw [measL] at he
    split at he
    · rename_i hok
      rw [goodL]
      exact ⟨meas_good e _ _ hok, measL_good l _ _ _ _ he⟩
    · cases he
end
theorem built_good {e : Ex} (h : builtE e = true) : goodE e := meas_good e _ _ h
theorem sound_len {e : Ex} (h : soundE e = true) : (e.args.length : Int) = arI e.op := by
  unfold soundE at h
  simp only [Bool.and_eq_true, beq_iff_eq] at h
  exact h.1
theorem two_args {e : Ex} (h : goodE e) (ho : arI e.op = 2) : ∃ x y, e.args = [x, y] := by
  have hl := sound_len (good_open h).1
  rw [ho] at hl
  match he : e.args, hl with
  | [x, y], _ => exact ⟨x, y, rfl⟩
  | [], hl => simp at hl
  | [_], hl => simp at hl
  | _ :: _ :: _ :: _, hl => simp at hl; omega
end Go.Proofs.YtmjeiepljlepbacGreat
set_option linter.unusedSimpArgs false
set_option linter.unusedVariables false
namespace Go.Proofs.YtmjeiepljlepbacGreat
open Go.RowKit Go.Sort

def Box1 (w : World) (B : Nat) (v : Value) : Prop := w.cell? ⟨B, 0, none⟩ = some v
theorem Box1.later {w w' : World} {B : Nat} {v : Value} (h : Box1 w B v) (hb : Below w.heap.size w w') : Box1 w' B v := clater h hb

/-- A row of values, to be read. -/
def RowAt (w : World) (a : Option Addr) (xs : List Val) : Prop :=
  xs = [] ∨ ∃ b off, a = some ⟨b, off, none⟩ ∧ ∀ i x, xs[i]? = some x → w.cell? ⟨b, off + i * 3, none⟩ = some (.int .i64 x.k) ∧ w.cell? ⟨b, off + i * 3 + 1, none⟩ = some (.int .i64 x.n) ∧ w.cell? ⟨b, off + i * 3 + 2, none⟩ = some (.string x.s)
theorem RowAt.later {w w' : World} {a : Option Addr} {xs : List Val} (h : RowAt w a xs) (hb : Below w.heap.size w w') : RowAt w' a xs := by
  rcases h with h | ⟨b, off, ha, h⟩
  · exact .inl h
  · exact .inr ⟨b, off, ha, fun i x hx => ⟨clater (h i x hx).1 hb, clater (h i x hx).2.1 hb, clater (h i x hx).2.2 hb⟩⟩
theorem RowAt.lo {w : World} {a : Option Addr} {xs : List Val} {k : Nat} {x : Val} (h : RowAt w a xs) (hx : xs[k]? = some x) : ∃ b off, a = some ⟨b, off, none⟩ ∧ w.cell? ⟨b, off + k * 3, none⟩ = some (.int .i64 x.k) ∧ w.cell? ⟨b, off + k * 3 + 1, none⟩ = some (.int .i64 x.n) ∧ w.cell? ⟨b, off + k * 3 + 2, none⟩ = some (.string x.s) := by
  rcases h with e | ⟨b, off, rfl, hc⟩
  · rw [e] at hx; cases hx
  · exact ⟨b, off, rfl, hc k x hx⟩
/-- A value that the machine holds. -/
def VOk (x : Val) : Prop := In64 x.n ∧ x.s.size ≤ 140737488355328
theorem vok_null : VOk .null := ⟨⟨by show -9223372036854775808 ≤ (0 : Int); decide, by show (0 : Int) ≤ 9223372036854775807; decide⟩, Nat.zero_le _⟩
theorem vok_num {n : Int} (h : In64 n) : VOk (.num n) := ⟨h, Nat.zero_le _⟩
theorem vok_clean {x : Val} (h : VOk x) : VOk (cleanV x) := by
  unfold cleanV
  split
  · exact vok_num h.1
  · split
    · exact ⟨⟨by show -9223372036854775808 ≤ (0 : Int); decide, by show (0 : Int) ≤ 9223372036854775807; decide⟩, h.2⟩
    · exact vok_null
def oneV (op : Int) (x : Val) : Val := if op == 3 then reckV 8 (.num 0) x else if op == 4 then notV x else if op == 5 then (if x.k == 0 then .num 1 else .num 0) else (if x.k == 2 then .num x.s.size else .null)
def twoV (op : Int) (x y : Val) : Val := if decide (op ≤ 11) then reckV op x y else if decide (op ≤ 17) then testV op x y else if op == 18 then catV x y else bothV op x y
def nodeV (op n : Int) (v : Val) (row : List Val) : List Val → Val
  | [] => if op == 2 then cleanV v else if decide ((row.length : Int) ≤ n) then .null else cleanV (row.getD n.toNat .null)
  | [x] => oneV op x
  | [x, y] => twoV op x y
  | x :: y :: z :: _ => if trueB x then y else z
mutual
/-- What an expression comes to. -/
def evalE (row : List Val) : Ex → Val
  | .mk op n v l => nodeV op n v row (evalL row l)
def evalL (row : List Val) : List Ex → List Val
  | [] => []
  | e :: l => evalE row e :: evalL row l
end
/-- A function of the program's own, in which a call goes on. -/
def Enters (n : Nat) : Prop := ∀ args w, (callFunc n args).run Tryz.prog w = .ok (.enter n args) w
def Fun1 (W : World) (F : Value) (g : Val → Val) : Prop := ∃ n k, F = .func (.func n) #[] k ∧ Enters n ∧ ∀ W' x, Below W.heap.size W W' → VOk x → Calls Tryz.prog n (#[x.v] ++ k) W' fun r w' => r = .returned (g x).v ∧ Below W'.heap.size W' w'
def Fun2 (W : World) (F : Value) (g : Val → Val → Val) : Prop := ∃ n k, F = .func (.func n) #[] k ∧ Enters n ∧ ∀ W' x y, Below W.heap.size W W' → VOk x → VOk y → Calls Tryz.prog n (#[x.v, y.v] ++ k) W' fun r w' => r = .returned (g x y).v ∧ Below W'.heap.size W' w'
/-- A function that works an expression out. -/
def Work (W : World) (F : Value) (e : Ex) : Prop := ∃ n k, F = .func (.func n) #[] k ∧ Enters n ∧ ∀ W' a c row, Below W.heap.size W W' → RowAt W' a row → (∀ x ∈ row, VOk x) → row.length ≤ 140737488355328 → Calls Tryz.prog n (#[.slice a row.length c] ++ k) W' fun r w' => r = .returned (evalE row e).v ∧ Below W'.heap.size W' w'
theorem Work.later {W W' : World} {F : Value} {e : Ex} (h : Work W F e) (hb : Below W.heap.size W W') : Work W' F e := by
  obtain ⟨n, k, h1, h2, h3⟩ := h
  exact ⟨n, k, h1, h2, fun W2 a c row hW => h3 W2 a c row (below_step hb hW)⟩
theorem Fun1.later {W W' : World} {F : Value} {g : Val → Val} (h : Fun1 W F g) (hb : Below W.heap.size W W') : Fun1 W' F g := by
  obtain ⟨n, k, h1, h2, h3⟩ := h
  exact ⟨n, k, h1, h2, fun W2 x hW => h3 W2 x (below_step hb hW)⟩
theorem Fun2.later {W W' : World} {F : Value} {g : Val → Val → Val} (h : Fun2 W F g) (hb : Below W.heap.size W W') : Fun2 W' F g := by
  obtain ⟨n, k, h1, h2, h3⟩ := h
  exact ⟨n, k, h1, h2, fun W2 x y hW => h3 W2 x y (below_step hb hW)⟩
theorem ent57 : Enters 191 := fun args w => by kernel_rfl
theorem ent58 : Enters 192 := fun args w => by kernel_rfl
theorem ent59 : Enters 193 := fun args w => by kernel_rfl
theorem ent62 : Enters 195 := fun args w => by kernel_rfl
theorem ent63 : Enters 196 := fun args w => by kernel_rfl
theorem ent64 : Enters 197 := fun args w => by kernel_rfl
theorem ent65 : Enters 198 := fun args w => by kernel_rfl
theorem ent66 : Enters 199 := fun args w => by kernel_rfl
theorem ent68 : Enters 201 := fun args w => by kernel_rfl
theorem ent69 : Enters 202 := fun args w => by kernel_rfl
theorem ent29 : Enters 149 := fun args w => by kernel_rfl
theorem ent31 : Enters 151 := fun args w => by kernel_rfl
theorem ent32 : Enters 152 := fun args w => by kernel_rfl
theorem expnum_any (n : Int) (w : World) : Calls Tryz.prog 126 #[.int .i64 n] w fun e w' => e = .returned (.agg #[.int .i64 1, .int .i64 n, .string ⟨#[]⟩]) ∧ Below w.heap.size w w' := by
  go_enter Tryz.func126, Tryz.ntmps126
  go_wp2
  exact bodyPost_ret (v := .agg #[.int .i64 1, .int .i64 n, .string ⟨#[]⟩]) (by simp [results, Tryz.results126, go_sem]) rfl ⟨rfl, (Below.refl _ _).alloc (Nat.le_refl _) _⟩
theorem zeroAt_new (w : World) : ZeroAt (w.alloc (.cells #[.int .i64 0, .int .i64 0, .string ⟨#[]⟩] 38)) w.heap.size := by
  refine ⟨?_, ?_, ?_, ?_, ?_, ?_⟩ <;> simp [go_sem]
theorem put3 {w W : World} {B : Nat} (hb : Below w.heap.size w W) (hB : w.heap.size ≤ B) (u v x : Value) : Below w.heap.size w (((W.setCell ⟨B, 0, none⟩ u).setCell ⟨B, 1, none⟩ v).setCell ⟨B, 2, none⟩ x) :=
  (((hb.setCell (by simpa using hB) _).setCell (by simpa using hB) _).setCell (by simpa using hB) _)
theorem leaf1_any (v : Val) (B : Nat) (a : Option Addr) (m c : Nat) (W : World) (hB : BoxAt W B v) : Calls Tryz.prog 191 #[.slice a m c, .pointer (some ⟨B, 0, none⟩)] W fun r w' => r = .returned v.v ∧ Below W.heap.size W w' := by
  obtain ⟨c0, c1, c2⟩ := hB.later (below_alloc (Below.refl _ W) (.cells #[.int .i64 0, .int .i64 0, .string ⟨#[]⟩] 38))
  clear hB
  go_enter Tryz.func191, Tryz.ntmps191
  go_wp2
  exact bodyPost_ret (v := v.v) (by simp [results, Tryz.results191, go_sem, Val.v]) rfl ⟨rfl, (Below.refl _ _).alloc (Nat.le_refl _) _⟩
set_option maxHeartbeats 400000 in
theorem leaf2_any (n : Int) (B : Nat) (a : Option Addr) (c : Nat) (row : List Val) (W : World) (hn : 0 ≤ n) (hl : row.length ≤ 140737488355328) (hB : Box1 W B (.int .i64 n)) (hr : RowAt W a row) :
    Calls Tryz.prog 192 #[.slice a row.length c, .pointer (some ⟨B, 0, none⟩)] W fun r w' => r = .returned (if decide ((row.length : Int) ≤ n) then Val.null else cleanV (row.getD n.toNat .null)).v ∧ Below W.heap.size W w' := by
  have c0 := clater hB (below_alloc (Below.refl _ W) (.cells #[.int .i64 0, .int .i64 0, .string ⟨#[]⟩] 38))
  by_cases h : (row.length : Int) ≤ n
  · have e : (if decide ((row.length : Int) ≤ n) then Val.null else cleanV (row.getD n.toNat .null)) = .null := by simp [h]
    rw [e]
    clear hB
    go_enter Tryz.func192, Tryz.ntmps192
    go_wp2
    exact bodyPost_ret (v := Val.null.v) (by simp [results, Tryz.results192, go_sem, Val.v, Val.null]) rfl ⟨rfl, (Below.refl _ _).alloc (Nat.le_refl _) _⟩
  · obtain ⟨k, rfl⟩ : ∃ k : Nat, n = (k : Int) := ⟨n.toNat, by omega⟩
    obtain ⟨x, hx⟩ : ∃ x, row[k]? = some x := ⟨_, List.getElem?_eq_getElem (by omega)⟩
    have e : (if decide ((row.length : Int) ≤ (k : Int)) then Val.null else cleanV (row.getD (k : Int).toNat .null)) = cleanV x := by
      have h2 : decide ((row.length : Int) ≤ (k : Int)) = false := by simpa using h
      rw [h2, Int.toNat_natCast, List.getD_eq_getElem?_getD, hx]; rfl
    rw [e]
    obtain ⟨b, off, rfl, d0, d1, d2⟩ := (hr.later (below_alloc (Below.refl _ W) (.cells #[.int .i64 0, .int .i64 0, .string ⟨#[]⟩] 38))).lo hx
    have HC := hide (clean_any x)
    rw [Val.open_] at HC
    generalize cleanV x = cx at *
    have hki : (k : Int) < (row.length : Int) := by omega
    clear hB hr hx e
    go_enter Tryz.func192, Tryz.ntmps192
    go_wp2_with (go_at_call 47; refine (unhide HC _).mono ?_; rintro r w1 ⟨rfl, hb1⟩; rw [Val.open_]; obtain ⟨z0, z1, z2, z3, z4, z5⟩ := (zeroAt_new W).later hb1)
    refine bodyPost_ret (v := cx.v) (by simp [results, Tryz.results192, go_sem, Val.v, *]) rfl ⟨rfl, ?_⟩
    exact put3 (below_one hb1) (Nat.le_refl _) _ _ _
end Go.Proofs.YtmjeiepljlepbacGreat

import Derived.Test.YtmagpdblacgneaaGreatExC
import Derived.ProofKit
import Derived.OpenShut
import Derived.Lib.SmallJoins
import Derived.ChangeOld
import Derived.Deep.Slices
import Derived.Deep.Strs
import Derived.JoinedCond
import Derived.SizedLaws
set_option linter.unusedSimpArgs false
set_option linter.unusedVariables false
namespace Go.Proofs.YtmagpdblacgneaaGreat
open Go.RowKit Go.Sort

/-- A list of numbers, to be read. -/
def IntsAt (w : World) (a : Option Addr) (l : List Int) : Prop := l = [] ∨ ∃ b off, a = some ⟨b, off, none⟩ ∧ ∀ i x, l[i]? = some x → w.cell? ⟨b, off + i, none⟩ = some (.int .i64 x)
theorem IntsAt.later {w w' : World} {a : Option Addr} {l : List Int} (h : IntsAt w a l) (hb : Below w.heap.size w w') : IntsAt w' a l := by
  rcases h with h | ⟨b, off, ha, h⟩
  · exact .inl h
  · exact .inr ⟨b, off, ha, fun i x hx => clater (h i x hx) hb⟩
theorem IntsAt.get {w : World} {a : Option Addr} {l : List Int} {k : Nat} {x : Int} (h : IntsAt w a l) (hx : l[k]? = some x) : ∃ b off, a = some ⟨b, off, none⟩ ∧ w.cell? ⟨b, off + k, none⟩ = some (.int .i64 x) := by
  rcases h with h | ⟨b, off, ha, h⟩
  · rw [h] at hx; cases hx
  · exact ⟨b, off, ha, h k x hx⟩
theorem any_at {α : Type} {p : α → Bool} {l : List α} {k : Nat} {x : α} (h : l[k]? = some x) (hp : p x = true) : l.any p = true := List.any_eq_true.2 ⟨x, List.mem_of_getElem? h, hp⟩
theorem any_no {α : Type} {p : α → Bool} {l : List α} (h : ∀ i x, i < l.length → l[i]? = some x → p x = false) : l.any p = false := by
  rw [List.any_eq_false]
  intro y hy
  obtain ⟨i, hi⟩ := List.mem_iff_getElem?.1 hy
  rw [h i y (List.getElem?_eq_some_iff.1 hi).1 hi]; simp
theorem no_step {α : Type} {p : α → Bool} {l : List α} {k : Nat} {x : α} (h : ∀ i x, i < k → l[i]? = some x → p x = false) (hx : l[k]? = some x) (hp : p x = false) : ∀ i x, i < k + 1 → l[i]? = some x → p x = false := by
  intro i z hi hz
  by_cases e : i = k
  · subst e; rw [hx] at hz; injection hz with hz; rw [← hz]; exact hp
  · exact h i z (by omega) hz
/-- What a test of expressions answers. -/
def TestE (W : World) (F : Value) (p : Ex → Bool) : Prop := ∃ n k, F = .func (.func n) #[] k ∧ (∀ args w, (callFunc n args).run Tryz.prog w = .ok (.enter n args) w) ∧ ∀ (x : Ex) (a' : Option Addr) (c' : Nat) (W' : World), x.fin → Below W.heap.size W W' → Ex.all W' a' x.args → Calls Tryz.prog n (#[x.val a' c'] ++ k) W' fun r w' => r = .returned (.bool (p x)) ∧ Below W'.heap.size W' w'
/-- Where the first one is for which p holds; -1, if there is none. -/
def FoundE (p : Ex → Bool) (l : List Ex) (r : Int) : Prop := (∃ (k : Nat) (x : Ex), r = k ∧ l[k]? = some x ∧ p x = true ∧ ∀ (i : Nat) (y : Ex), i < k → l[i]? = some y → p y = false) ∨ (r = -1 ∧ ∀ (i : Nat) (y : Ex), l[i]? = some y → p y = false)
set_option maxHeartbeats 400000 in
set_option maxRecDepth 100000 in
theorem indexE_any (F : Value) (p : Ex → Bool) (a : Option Addr) (c : Nat) (l : List Ex) (w : World) (hl : l.length ≤ 140737488355328) (hf : Ex.fins l) (ha : Ex.all w a l) (hF : TestE w F p) :
    Calls Tryz.prog 46 #[.slice a l.length c, F] w fun e w' => ∃ r, e = .returned (.int .i64 r) ∧ FoundE p l r ∧ Below w.heap.size w w' := by
  have HA := hide ha
  obtain ⟨nf, kf, rfl, ent, HP⟩ := hF
  have HC := hide HP
  clear ha HP
  go_enter Tryz.func46, Tryz.ntmps46
  go_wp2_with fail
  go_loopw [8] (fun i wr => ∃ k : Nat, k ≤ l.length ∧ i = .int .i64 (k : Int) ∧ Hid (∀ i x, i < k → l[i]? = some x → p x = false) ∧ Below w.heap.size w wr) (fun i _ => l.length - (intOf i).toNat)
  case atStart => exact ⟨0, Nat.zero_le _, rfl, fun i x hi => absurd hi (by omega), Below.refl _ _⟩
  case round =>
    obtain ⟨k, hk, rfl, HN, hb⟩ := hrel
    by_cases hlt : k < l.length
    · have h9 : (k : Int) < (l.length : Int) := by omega
      obtain ⟨x, hx⟩ : ∃ x, l[k]? = some x := ⟨_, List.getElem?_eq_getElem hlt⟩
      obtain ⟨vb, vo, ea, hat⟩ := Ex.all_get (Ex.all_later _ (unhide HA) hb) hx
      obtain ⟨a', c', ⟨d0, d1, d2, d3, d4, d5⟩, hal⟩ := Ex.at_open hat
      have HX := hide (unhide HC x a' c' wr (Ex.fins_mem hf (List.mem_of_getElem? hx)) hb hal)
      rw [Ex.val_open] at HX
      have HB := hide hb
      subst ea
      clear hat hal hb
      cases hp : p x
      · have HE := hide (no_step (unhide HN) hx hp)
        rw [hp] at HX
        clear hx HN hp
        go_wp2_with (refine (unhide HX).mono ?_; rintro r w1 ⟨rfl, hb1⟩)
        exact ⟨⟨k + 1, by omega, by go_num, unhide HE, below_step (unhide HB) hb1⟩, by simp [intOf]; omega⟩
      · have HE : Hid (FoundE p l (k : Int)) := Or.inl ⟨k, x, rfl, hx, hp, unhide HN⟩
        rw [hp] at HX
        clear hx HN hp
        go_wp2_with (refine (unhide HX).mono ?_; rintro r w1 ⟨rfl, hb1⟩)
        go_ret
        exact ⟨_, rfl, unhide HE, below_step (unhide HB) hb1⟩
    · have h9 : ¬ (k : Int) < (l.length : Int) := by omega
      have HE : Hid (FoundE p l (-1)) := Or.inr ⟨rfl, fun i x hx => unhide HN i x (by have := (List.getElem?_eq_some_iff.1 hx).1; omega) hx⟩
      have HB := hide hb
      clear HN hb
      go_wp2
      go_ret
      exact ⟨_, rfl, unhide HE, unhide HB⟩
theorem found_any {p : Ex → Bool} {l : List Ex} {r : Int} (h : FoundE p l r) : decide (0 ≤ r) = l.any p := by
  rcases h with ⟨k, x, rfl, hx, hp, _⟩ | ⟨rfl, h⟩
  · rw [any_at hx hp]; simp
  · rw [any_no fun i x _ hx => h i x hx]; rfl
theorem containsE_any (F : Value) (p : Ex → Bool) (a : Option Addr) (c : Nat) (l : List Ex) (w : World) (hl : l.length ≤ 140737488355328) (hf : Ex.fins l) (ha : Ex.all w a l) (hF : TestE w F p) :
    Calls Tryz.prog 26 #[.slice a l.length c, F] w fun e w' => e = .returned (.bool (l.any p)) ∧ Below w.heap.size w w' := by
  have HI : Hid (Calls Tryz.prog 46 #[.slice a l.length c, F] w fun e w' => ∃ r, e = .returned (.int .i64 r) ∧ decide (0 ≤ r) = l.any p ∧ Below w.heap.size w w') := (indexE_any F p a c l w hl hf ha hF).mono fun e w' ⟨r, h1, h2, h3⟩ => ⟨r, h1, found_any h2, h3⟩
  clear ha
  generalize l.any p = r at *
  go_enter Tryz.func26, Tryz.ntmps26
  go_wp2_with (go_at_call 46; refine (unhide HI).mono ?_; rintro e w1 ⟨q, rfl, hq, hb⟩)
  go_ret
  exact ⟨rfl, hb⟩
end Go.Proofs.YtmagpdblacgneaaGreat
set_option linter.unusedSimpArgs false
set_option linter.unusedVariables false
namespace Go.Proofs.YtmagpdblacgneaaGreat
open Go.RowKit Go.Sort

mutual
/-- Each node is one that may be. -/
def goodE : Ex → Prop
  | .mk op n v l => soundE (.mk op n v l) = true ∧ goodL l
def goodL : List Ex → Prop
  | [] => True
  | e :: l => goodE e ∧ goodL l
end
theorem good_open {e : Ex} (h : goodE e) : soundE e = true ∧ goodL e.args := by
  cases e with
  | mk op n v l => rw [goodE] at h; exact h
theorem goodL_mem : ∀ {l : List Ex} {x : Ex}, goodL l → x ∈ l → goodE x
  | [], _, _, h => by cases h
  | e :: l, x, hf, h => by
    rw [goodL] at hf
    rcases List.mem_cons.1 h with rfl | h
    · exact hf.1
    · exact goodL_mem hf.2 h
theorem good_arg {e x : Ex} {i : Nat} (h : goodE e) (hx : e.args[i]? = some x) : goodE x := goodL_mem (good_open h).2 (List.mem_of_getElem? hx)
mutual
theorem meas_good : ∀ (e : Ex) (N H : Int), (measE soundE e N H).2.2 = true → goodE e
  | .mk op n v l, N, H, he => by
    rw [measE] at he
    split at he
    · cases he
    · rename_i hc
      simp only [Bool.or_eq_true, Bool.not_eq_true', not_or] at hc
      cases hm : measL soundE l N H 1 0 with
      | none => rw [hm] at he; cases he
      | some q =>
        rw [goodE]
        exact ⟨by simpa using hc.2, measL_good l N H 1 0 (by rw [hm]; rfl)⟩
theorem measL_good : ∀ (l : List Ex) (N H c h : Int), (measL soundE l N H c h).isSome = true → goodL l
  | [], N, H, c, h, he => by rw [goodL]; trivial
  | e :: l, N, H, c, h, he => by
    rw [measL] at he
    split at he
    · rename_i hok
      rw [goodL]
      exact ⟨meas_good e _ _ hok, measL_good l _ _ _ _ he⟩
    · cases he
end
theorem built_good {e : Ex} (h : builtE e = true) : goodE e := meas_good e _ _ h
theorem sound_len {e : Ex} (h : soundE e = true) : (e.args.length : Int) = arI e.op := by
  unfold soundE at h
  simp only [Bool.and_eq_true, beq_iff_eq] at h
  exact h.1
theorem two_args {e : Ex} (h : goodE e) (ho : arI e.op = 2) : ∃ x y, e.args = [x, y] := by
  have hl := sound_len (good_open h).1
  rw [ho] at hl
  match he : e.args, hl with
  | [x, y], _ => exact ⟨x, y, rfl⟩
  | [], hl => simp at hl
  | [_], hl => simp at hl
  | _ :: _ :: _ :: _, hl => simp at hl; omega
end Go.Proofs.YtmagpdblacgneaaGreat
set_option linter.unusedSimpArgs false
set_option linter.unusedVariables false
namespace Go.Proofs.YtmagpdblacgneaaGreat
open Go.RowKit Go.Sort

def Box1 (w : World) (B : Nat) (v : Value) : Prop := w.cell? ⟨B, 0, none⟩ = some v
theorem Box1.later {w w' : World} {B : Nat} {v : Value} (h : Box1 w B v) (hb : Below w.heap.size w w') : Box1 w' B v := clater h hb

/-- A row of values, to be read. -/
def RowAt (w : World) (a : Option Addr) (xs : List Val) : Prop :=
  xs = [] ∨ ∃ b off, a = some ⟨b, off, none⟩ ∧ ∀ i x, xs[i]? = some x → w.cell? ⟨b, off + i * 3, none⟩ = some (.int .i64 x.k) ∧ w.cell? ⟨b, off + i * 3 + 1, none⟩ = some (.int .i64 x.n) ∧ w.cell? ⟨b, off + i * 3 + 2, none⟩ = some (.string x.s)
theorem RowAt.later {w w' : World} {a : Option Addr} {xs : List Val} (h : RowAt w a xs) (hb : Below w.heap.size w w') : RowAt w' a xs := by
  rcases h with h | ⟨b, off, ha, h⟩
  · exact .inl h
  · exact .inr ⟨b, off, ha, fun i x hx => ⟨clater (h i x hx).1 hb, clater (h i x hx).2.1 hb, clater (h i x hx).2.2 hb⟩⟩
theorem RowAt.lo {w : World} {a : Option Addr} {xs : List Val} {k : Nat} {x : Val} (h : RowAt w a xs) (hx : xs[k]? = some x) : ∃ b off, a = some ⟨b, off, none⟩ ∧ w.cell? ⟨b, off + k * 3, none⟩ = some (.int .i64 x.k) ∧ w.cell? ⟨b, off + k * 3 + 1, none⟩ = some (.int .i64 x.n) ∧ w.cell? ⟨b, off + k * 3 + 2, none⟩ = some (.string x.s) := by
  rcases h with e | ⟨b, off, rfl, hc⟩
  · rw [e] at hx; cases hx
  · exact ⟨b, off, rfl, hc k x hx⟩
/-- A value that the machine holds. -/
def VOk (x : Val) : Prop := In64 x.n ∧ x.s.size ≤ 140737488355328
theorem vok_null : VOk .null := ⟨⟨by show -9223372036854775808 ≤ (0 : Int); decide, by show (0 : Int) ≤ 9223372036854775807; decide⟩, Nat.zero_le _⟩
theorem vok_num {n : Int} (h : In64 n) : VOk (.num n) := ⟨h, Nat.zero_le _⟩
theorem vok_clean {x : Val} (h : VOk x) : VOk (cleanV x) := by
  unfold cleanV
  split
  · exact vok_num h.1
  · split
    · exact ⟨⟨by show -9223372036854775808 ≤ (0 : Int); decide, by show (0 : Int) ≤ 9223372036854775807; decide⟩, h.2⟩
    · exact vok_null
def oneV (op : Int) (x : Val) : Val := if op == 3 then reckV 8 (.num 0) x else if op == 4 then notV x else if op == 5 then (if x.k == 0 then .num 1 else .num 0) else (if x.k == 2 then .num x.s.size else .null)
def twoV (op : Int) (x y : Val) : Val := if decide (op ≤ 11) then reckV op x y else if decide (op ≤ 17) then testV op x y else if op == 18 then catV x y else bothV op x y
def nodeV (op n : Int) (v : Val) (row : List Val) : List Val → Val
  | [] => if op == 2 then cleanV v else if decide ((row.length : Int) ≤ n) then .null else cleanV (row.getD n.toNat .null)
  | [x] => oneV op x
  | [x, y] => twoV op x y
  | x :: y :: z :: _ => if trueB x then y else z
mutual
/-- What an expression comes to. -/
def evalE (row : List Val) : Ex → Val
  | .mk op n v l => nodeV op n v row (evalL row l)
def evalL (row : List Val) : List Ex → List Val
  | [] => []
  | e :: l => evalE row e :: evalL row l
end
/-- A function of the program's own, in which a call goes on. -/
def Enters (n : Nat) : Prop := ∀ args w, (callFunc n args).run Tryz.prog w = .ok (.enter n args) w
def Fun1 (W : World) (F : Value) (g : Val → Val) : Prop := ∃ n k, F = .func (.func n) #[] k ∧ Enters n ∧ ∀ W' x, Below W.heap.size W W' → VOk x → Calls Tryz.prog n (#[x.v] ++ k) W' fun r w' => r = .returned (g x).v ∧ Below W'.heap.size W' w'
def Fun2 (W : World) (F : Value) (g : Val → Val → Val) : Prop := ∃ n k, F = .func (.func n) #[] k ∧ Enters n ∧ ∀ W' x y, Below W.heap.size W W' → VOk x → VOk y → Calls Tryz.prog n (#[x.v, y.v] ++ k) W' fun r w' => r = .returned (g x y).v ∧ Below W'.heap.size W' w'
/-- A function that works an expression out. -/
def Work (W : World) (F : Value) (e : Ex) : Prop := ∃ n k, F = .func (.func n) #[] k ∧ Enters n ∧ ∀ W' a c row, Below W.heap.size W W' → RowAt W' a row → (∀ x ∈ row, VOk x) → row.length ≤ 140737488355328 → Calls Tryz.prog n (#[.slice a row.length c] ++ k) W' fun r w' => r = .returned (evalE row e).v ∧ Below W'.heap.size W' w'
theorem Work.later {W W' : World} {F : Value} {e : Ex} (h : Work W F e) (hb : Below W.heap.size W W') : Work W' F e := by
  obtain ⟨n, k, h1, h2, h3⟩ := h
  exact ⟨n, k, h1, h2, fun W2 a c row hW => h3 W2 a c row (below_step hb hW)⟩
theorem Fun1.later {W W' : World} {F : Value} {g : Val → Val} (h : Fun1 W F g) (hb : Below W.heap.size W W') : Fun1 W' F g := by
  obtain ⟨n, k, h1, h2, h3⟩ := h
  exact ⟨n, k, h1, h2, fun W2 x hW => h3 W2 x (below_step hb hW)⟩
theorem Fun2.later {W W' : World} {F : Value} {g : Val → Val → Val} (h : Fun2 W F g) (hb : Below W.heap.size W W') : Fun2 W' F g := by
  obtain ⟨n, k, h1, h2, h3⟩ := h
  exact ⟨n, k, h1, h2, fun W2 x y hW => h3 W2 x y (below_step hb hW)⟩
theorem ent57 : Enters 80 := fun args w => by kernel_rfl
theorem ent58 : Enters 81 := fun args w => by kernel_rfl
theorem ent59 : Enters 82 := fun args w => by kernel_rfl
theorem ent62 : Enters 84 := fun args w => by kernel_rfl
theorem ent63 : Enters 85 := fun args w => by kernel_rfl
theorem ent64 : Enters 86 := fun args w => by kernel_rfl
theorem ent65 : Enters 87 := fun args w => by kernel_rfl
theorem ent66 : Enters 88 := fun args w => by kernel_rfl
theorem ent68 : Enters 90 := fun args w => by kernel_rfl
theorem ent69 : Enters 91 := fun args w => by kernel_rfl
theorem ent29 : Enters 60 := fun args w => by kernel_rfl
theorem ent31 : Enters 62 := fun args w => by kernel_rfl
theorem ent32 : Enters 63 := fun args w => by kernel_rfl
theorem expnum_any (n : Int) (w : World) : Calls Tryz.prog 49 #[.int .i64 n] w fun e w' => e = .returned (.agg #[.int .i64 1, .int .i64 n, .string ⟨#[]⟩]) ∧ Below w.heap.size w w' := by
  go_enter Tryz.func49, Tryz.ntmps49
  go_wp2
  exact bodyPost_ret (v := .agg #[.int .i64 1, .int .i64 n, .string ⟨#[]⟩]) (by simp [results, Tryz.results49, go_sem]) rfl ⟨rfl, (Below.refl _ _).alloc (Nat.le_refl _) _⟩
theorem zeroAt_new (w : World) : ZeroAt (w.alloc (.cells #[.int .i64 0, .int .i64 0, .string ⟨#[]⟩] 23)) w.heap.size := by
  refine ⟨?_, ?_, ?_, ?_, ?_, ?_⟩ <;> simp [go_sem]
theorem put3 {w W : World} {B : Nat} (hb : Below w.heap.size w W) (hB : w.heap.size ≤ B) (u v x : Value) : Below w.heap.size w (((W.setCell ⟨B, 0, none⟩ u).setCell ⟨B, 1, none⟩ v).setCell ⟨B, 2, none⟩ x) :=
  (((hb.setCell (by simpa using hB) _).setCell (by simpa using hB) _).setCell (by simpa using hB) _)
theorem leaf1_any (v : Val) (B : Nat) (a : Option Addr) (m c : Nat) (W : World) (hB : BoxAt W B v) : Calls Tryz.prog 80 #[.slice a m c, .pointer (some ⟨B, 0, none⟩)] W fun r w' => r = .returned v.v ∧ Below W.heap.size W w' := by
  obtain ⟨c0, c1, c2⟩ := hB.later (below_alloc (Below.refl _ W) (.cells #[.int .i64 0, .int .i64 0, .string ⟨#[]⟩] 23))
  clear hB
  go_enter Tryz.func80, Tryz.ntmps80
  go_wp2
  exact bodyPost_ret (v := v.v) (by simp [results, Tryz.results80, go_sem, Val.v]) rfl ⟨rfl, (Below.refl _ _).alloc (Nat.le_refl _) _⟩
set_option maxHeartbeats 400000 in
theorem leaf2_any (n : Int) (B : Nat) (a : Option Addr) (c : Nat) (row : List Val) (W : World) (hn : 0 ≤ n) (hl : row.length ≤ 140737488355328) (hB : Box1 W B (.int .i64 n)) (hr : RowAt W a row) :
    Calls Tryz.prog 81 #[.slice a row.length c, .pointer (some ⟨B, 0, none⟩)] W fun r w' => r = .returned (if decide ((row.length : Int) ≤ n) then Val.null else cleanV (row.getD n.toNat .null)).v ∧ Below W.heap.size W w' := by
  have c0 := clater hB (below_alloc (Below.refl _ W) (.cells #[.int .i64 0, .int .i64 0, .string ⟨#[]⟩] 23))
  by_cases h : (row.length : Int) ≤ n
  · have e : (if decide ((row.length : Int) ≤ n) then Val.null else cleanV (row.getD n.toNat .null)) = .null := by simp [h]
    rw [e]
    clear hB
    go_enter Tryz.func81, Tryz.ntmps81
    go_wp2
    exact bodyPost_ret (v := Val.null.v) (by simp [results, Tryz.results81, go_sem, Val.v, Val.null]) rfl ⟨rfl, (Below.refl _ _).alloc (Nat.le_refl _) _⟩
  · obtain ⟨k, rfl⟩ : ∃ k : Nat, n = (k : Int) := ⟨n.toNat, by omega⟩
    obtain ⟨x, hx⟩ : ∃ x, row[k]? = some x := ⟨_, List.getElem?_eq_getElem (by omega)⟩
    have e : (if decide ((row.length : Int) ≤ (k : Int)) then Val.null else cleanV (row.getD (k : Int).toNat .null)) = cleanV x := by
      have h2 : decide ((row.length : Int) ≤ (k : Int)) = false := by simpa using h
      rw [h2, Int.toNat_natCast, List.getD_eq_getElem?_getD, hx]; rfl
    rw [e]
    obtain ⟨b, off, rfl, d0, d1, d2⟩ := (hr.later (below_alloc (Below.refl _ W) (.cells #[.int .i64 0, .int .i64 0, .string ⟨#[]⟩] 23))).lo hx
    have HC := hide (clean_any x)
    rw [Val.open_] at HC
    generalize cleanV x = cx at *
    have hki : (k : Int) < (row.length : Int) := by omega
    clear hB hr hx e
    go_enter Tryz.func81, Tryz.ntmps81
    go_wp2_with (go_at_call 57; refine (unhide HC _).mono ?_; rintro r w1 ⟨rfl, hb1⟩; rw [Val.open_]; obtain ⟨z0, z1, z2, z3, z4, z5⟩ := (zeroAt_new W).later hb1)
    refine bodyPost_ret (v := cx.v) (by simp [results, Tryz.results81, go_sem, Val.v, *]) rfl ⟨rfl, ?_⟩
    exact put3 (below_one hb1) (Nat.le_refl _) _ _ _
end Go.Proofs.YtmagpdblacgneaaGreat
set_option linter.unusedSimpArgs false
set_option linter.unusedVariables false
namespace Go.Proofs.YtmagpdblacgneaaGreat
open Go.ChangeShapes Go.WideShapes Go.ChangeAt Go.RowKit Go.Joins Go.Deep

theorem cells26 : Tryz.prog.cellsOf 26 = 6 := by kernel_rfl
theorem bytes26 : Tryz.prog.bytesOf 26 = 72 := by kernel_rfl
theorem cells23 : Tryz.prog.cellsOf 23 = 3 := by kernel_rfl
theorem cells24 : Tryz.prog.cellsOf 24 = 1 := by kernel_rfl
theorem cells3 : Tryz.prog.cellsOf 3 = 1 := by kernel_rfl
theorem cells2 : Tryz.prog.cellsOf 2 = 1 := by kernel_rfl
theorem cells9 : Tryz.prog.cellsOf 9 = 1 := by kernel_rfl
theorem in64_of {x : Int} (h : (Lit.int .i64 x).wf = true) : In64 x := by
  simp [Lit.wf, IntKind.min, IntKind.max, IntKind.signed, IntKind.bits] at h
  exact ⟨by omega, by omega⟩
theorem Ex.all_of {w : World} {b : Nat} : ∀ (l : List Ex) (off : Nat), (∀ i e, l[i]? = some e → Ex.at w b (off + i * 6) e) → Ex.all w (some ⟨b, off, none⟩) l
  | [], off, _ => by rw [Ex.all]; trivial
  | e :: l, off, h => by
    rw [Ex.all]
    refine ⟨b, off, rfl, by simpa using h 0 e rfl, Ex.all_of l (off + 6) fun i x hx => ?_⟩
    have := h (i + 1) x (by simpa using hx)
    rw [show off + 6 + i * 6 = off + (i + 1) * 6 by omega]
    exact this
theorem Ex.at_mk {w : World} {b off : Nat} {e : Ex} {a : Option Addr} {c : Nat} (h : w.cell? ⟨b, off, none⟩ = some (.int .i64 e.op) ∧ w.cell? ⟨b, off + 1, none⟩ = some (.int .i64 e.n) ∧ w.cell? ⟨b, off + 2, none⟩ = some (.int .i64 e.v.k) ∧ w.cell? ⟨b, off + 3, none⟩ = some (.int .i64 e.v.n) ∧ w.cell? ⟨b, off + 4, none⟩ = some (.string e.v.s) ∧ w.cell? ⟨b, off + 5, none⟩ = some (.slice a e.args.length c)) (ha : Ex.all w a e.args) : Ex.at w b off e := by
  cases e with
  | mk op n v l => rw [Ex.at]; exact ⟨a, c, h, ha⟩
theorem Ex.fins_of : ∀ (l : List Ex), (∀ x ∈ l, x.fin) → Ex.fins l
  | [], _ => by rw [Ex.fins]; trivial
  | e :: l, h => by rw [Ex.fins]; exact ⟨h e (by simp), Ex.fins_of l fun x hx => h x (by simp [hx])⟩
theorem weights_all {H : Type} {P : Program} {e : TypeId} : ∀ {l : List (DataW H)} {d : DataW H}, d ∈ l → ∀ n ∈ d.weights P e, n ∈ DataW.weightsAll P e l
  | x :: l, d, h, n, hn => by
    rw [DataW.weightsAll, List.mem_append]
    rcases List.mem_cons.1 h with rfl | h
    · exact .inl hn
    · exact .inr (weights_all h n hn)
section
variable {H : Type} {enc : TypeId × Value → H} {w : World} {base : Nat} {spare : Nat → Bool} {held : Bool}
set_option maxRecDepth 100000 in
theorem open_ex : ∀ (k : Nat) (d : DataW H), SizeOf.sizeOf d ≤ k → (∀ n ∈ d.weights Tryz.prog (26), n ≤ reachBytes) → ∀ {n : Nat} {cs : List Value} {ps : List MemPlace}, DataW.trod enc Tryz.prog w base spare held n 26 cs = some (d, ps) →
    ∃ (e : Ex) (a : Option Addr) (c : Nat), cs = [.int .i64 e.op, .int .i64 e.n, .int .i64 e.v.k, .int .i64 e.v.n, .string e.v.s, .slice a e.args.length c] ∧ Ex.all w a e.args ∧ e.fin
  | 0, d, hs, _, _, _, _, _ => by cases d <;> simp at hs
  | k + 1, d, hs, hw, n, cs, ps, h => by
    obtain ⟨y0, y1, y2, y3, n', hx, hl, h0, h1, h2, h3⟩ := trod_struct4 Tryz.underlying26 h
    simp only [Prod.mk.injEq] at hx
    obtain ⟨rfl, _⟩ := hx
    rw [cells26] at hl
    match cs, hl with
    | [c0, c1, c2, c3, c4, c5], _ =>
      simp only [cells3, cells23, cells24, List.drop_zero, List.take_succ_cons, List.take_zero, List.drop_succ_cons] at h0 h1 h2 h3
      obtain ⟨op, e0, q0, w0⟩ := DataW.trod_int Tryz.underlying3 h0
      obtain ⟨m, e1, q1, w1⟩ := DataW.trod_int Tryz.underlying3 h1
      obtain ⟨z0, z1, z2, n2, hz, hzl, g0, g1, g2⟩ := trod_struct3 Tryz.underlying23 h2
      simp only [cells3, cells2, cells9, List.drop_zero, List.take_succ_cons, List.take_zero, List.drop_succ_cons] at g0 g1 g2
      obtain ⟨vk, e2, r0, wk⟩ := DataW.trod_int Tryz.underlying3 g0
      obtain ⟨vn, e3, r1, wn⟩ := DataW.trod_int Tryz.underlying2 g1
      obtain ⟨vs, e4, r2, ws⟩ := DataW.trod_string Tryz.underlying9 g2
      simp only [List.cons.injEq, and_true] at e0 e1 e2 e3 e4
      subst e0 e1 e2 e3 e4
      have hw2 : ∀ n ∈ y2.1.weights Tryz.prog (23), n ≤ reachBytes := fun n hn => hw n (by simp [DataW.weights, DataW.weightsEach, Tryz.underlying26, hn])
      have hw3 : ∀ n ∈ y3.1.weights Tryz.prog (24), n ≤ reachBytes := fun n hn => hw n (by simp [DataW.weights, DataW.weightsEach, Tryz.underlying26, hn])
      have hvs : vs.size ≤ 140737488355328 := by
        have := hw2 vs.data.toList.length (by rw [hz]; simp [DataW.weights, DataW.weightsEach, Tryz.underlying23, r2])
        have h2 := reachBytes_lt
        rw [Array.length_toList] at this
        have e : vs.data.size = vs.size := rfl
        omega
      rcases open_slice Tryz.underlying24 h3 with ⟨hcs, hx⟩ | ⟨a, len, cap, mm, n3, D, Pl, hcs, hb, hl3, hm, hmm, hx, hel⟩
      · simp only [List.cons.injEq, and_true] at hcs
        subst hcs
        refine ⟨.mk op m ⟨vk, vn, vs⟩ [], none, 0, rfl, by rw [Ex.args, Ex.all]; trivial, ?_⟩
        rw [Ex.fin]
        exact ⟨⟨Nat.zero_le _, hvs, in64_of wn, in64_of w1⟩, by rw [Ex.fins]; trivial⟩
      · simp only [List.cons.injEq, and_true] at hcs
        subst hcs
        have hlm : len ≤ mm := by rw [hmm]; split <;> omega
        have hy3 : y3.1 = .slice ((List.range len).map D) ((List.range (mm - len)).map fun j => D (len + j)) := by rw [hx]
        have hbyt : len ≤ 140737488355328 := by
          have := hw3 ((((List.range len).map D).length + ((List.range (mm - len)).map fun j => D (len + j)).length) * Tryz.prog.bytesOf 26) (by rw [hy3]; simp [DataW.weights, Tryz.underlying24])
          rw [bytes26] at this
          have h2 := reachBytes_lt
          simp only [List.length_map, List.length_range] at this
          omega
        have hel2 : ∀ i, i < len → ∃ (q : Ex × Option Addr × Nat), w.cells? base (a.add (i * 6)) 6 = some [.int .i64 q.1.op, .int .i64 q.1.n, .int .i64 q.1.v.k, .int .i64 q.1.v.n, .string q.1.v.s, .slice q.2.1 q.1.args.length q.2.2] ∧ Ex.all w q.2.1 q.1.args ∧ q.1.fin := by
          intro i hi
          obtain ⟨cs', g1, g2⟩ := hel i (by omega)
          rw [cells26] at g1
          have hmem : D i ∈ (List.range len).map D := List.mem_map.2 ⟨i, List.mem_range.2 hi, rfl⟩
          have hsz : SizeOf.sizeOf (D i) ≤ k := by
            have s1 := List.sizeOf_lt_of_mem hmem
            rw [hy3] at hs
            simp only [DataW.agg.sizeOf_spec, DataW.slice.sizeOf_spec, List.cons.sizeOf_spec, List.nil.sizeOf_spec] at hs
            omega
          obtain ⟨e', a', c', r1, r2, r3⟩ := open_ex k (D i) hsz (fun n hn => hw3 n (by
            rw [hy3]
            simp only [DataW.weights, Tryz.underlying24, List.mem_cons, List.mem_append]
            exact .inr (.inl (weights_all hmem n hn)))) g2
          exact ⟨(e', a', c'), by rw [g1, r1], r2, r3⟩
        have inst : Inhabited (Ex × Option Addr × Nat) := ⟨(.mk 0 0 .null [], none, 0)⟩
        obtain ⟨f, hfx⟩ := choose_lt (α := Ex × Option Addr × Nat) (n := len) hel2
        have hlen : ((List.range len).map fun i => (f i).1).length = len := by simp
        refine ⟨.mk op m ⟨vk, vn, vs⟩ ((List.range len).map fun i => (f i).1), some a, cap, ?_, ?_, ?_⟩
        · show _ = [_, _, _, _, _, Value.slice (some a) ((List.range len).map fun i => (f i).1).length cap]
          rw [hlen]; rfl
        · show Ex.all w (some a) ((List.range len).map fun i => (f i).1)
          by_cases hl0 : len = 0
          · subst hl0; show Ex.all w (some a) []; rw [Ex.all]; trivial
          · obtain ⟨b, off, spot⟩ := a
            have hc0 := (World.cells?_some (hfx 0 (by omega)).1).2.2 0 (by omega)
            have hspot : spot = none := by simpa [Addr.add] using World.cell?_spot hc0
            subst hspot
            refine Ex.all_of _ off fun i e' he => ?_
            obtain ⟨hi, rfl⟩ := List.getElem?_eq_some_iff.1 he
            have hi' : i < len := by simpa using hi
            have hc := (World.cells?_some (hfx i hi').1).2.2
            have d0 := hc 0 (by omega)
            have d1 := hc 1 (by omega)
            have d2 := hc 2 (by omega)
            have d3 := hc 3 (by omega)
            have d4 := hc 4 (by omega)
            have d5 := hc 5 (by omega)
            have ea : ∀ (o n : Nat), (⟨b, o, none⟩ : Addr).add n = ⟨b, o + n, none⟩ := by
              intro o n
              by_cases h : n = 0 <;> simp [Addr.add, h]
            rw [ea, ea] at d0 d1 d2 d3 d4 d5
            simp only [List.getElem_map, List.getElem_range]
            exact Ex.at_mk ⟨by simpa using d0, by simpa using d1, by simpa using d2, by simpa using d3, by simpa using d4, by simpa using d5⟩ (hfx i hi').2.1
        · rw [Ex.fin]
          refine ⟨⟨by rw [hlen]; exact hbyt, hvs, in64_of wn, in64_of w1⟩, Ex.fins_of _ fun x hx => ?_⟩
          obtain ⟨i, hi, rfl⟩ := List.mem_map.1 hx
          exact (hfx i (by simpa using hi)).2.2
set_option maxRecDepth 100000 in
/-- An expression that came in, laid open. -/
theorem open_expr {r : Reach} {b0 : Nat} {v : Value} {d : DataW H} {p : List MemPlace} (hv : Value.okWide Tryz.prog w r b0 26 v) (h : DataW.Trod enc Tryz.prog w base spare held 26 v d p) (hw : ∀ n ∈ d.weights Tryz.prog (26), n ≤ reachBytes) :
    ∃ (e : Ex) (a : Option Addr) (c : Nat), v = e.val a c ∧ Ex.all w a e.args ∧ e.fin := by
  obtain ⟨cs, rfl, hsz⟩ := okWide_struct Tryz.underlying26 hv
  obtain ⟨fuel, hf⟩ := h
  obtain ⟨e, a, c, h1, h2, h3⟩ := open_ex (SizeOf.sizeOf d) d (Nat.le_refl _) hw hf
  refine ⟨e, a, c, ?_, h2, h3⟩
  rw [Ex.val_open]
  congr 1
  have h4 : cs.toList = [.int .i64 e.op, .int .i64 e.n, .int .i64 e.v.k, .int .i64 e.v.n, .string e.v.s, .slice a e.args.length c] := h1
  rw [← Array.toArray_toList (xs := cs), h4]
end
end Go.Proofs.YtmagpdblacgneaaGreat

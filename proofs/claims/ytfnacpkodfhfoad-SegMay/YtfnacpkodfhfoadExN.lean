import Derived.Test.YtfnacpkodfhfoadExO
set_option linter.unusedSimpArgs false
set_option linter.unusedVariables false
namespace Go.Proofs.Ytfnacpkodfhfoad
open Go.RowKit Go.Sort

theorem Box1.kept {lo : Nat} {N : List Nat} {w w' : World} {B : Nat} {v : Value} (h : Box1 w B v) (hk : Kept lo N w w') (h1 : lo ≤ B) (h3 : B ∉ N) : Box1 w' B v := Kept.cell h hk h1 h3
theorem BoxAt.kept {lo : Nat} {N : List Nat} {w w' : World} {B : Nat} {v : Val} (h : BoxAt w B v) (hk : Kept lo N w w') (h1 : lo ≤ B) (h3 : B ∉ N) : BoxAt w' B v := ⟨Kept.cell h.1 hk h1 h3, Kept.cell h.2.1 hk h1 h3, Kept.cell h.2.2 hk h1 h3⟩
def Fun2K (lo : Nat) (N : List Nat) (W : World) (F : Value) (g : Val → Val → Val) : Prop := ∃ n k, F = .func (.func n) #[] k ∧ Enters n ∧ ∀ W' x y, Kept lo N W W' → VOk x → VOk y → Calls Try.prog n (#[x.v, y.v] ++ k) W' fun r w' => r = .returned (g x y).v ∧ Below W'.heap.size W' w'
def WorkK (lo : Nat) (N : List Nat) (W : World) (F : Value) (e : Ex) : Prop := ∃ n k, F = .func (.func n) #[] k ∧ Enters n ∧ ∀ W' a c row, Kept lo N W W' → RowAt W' a row → (∀ x ∈ row, VOk x) → row.length ≤ 140737488355328 → Calls Try.prog n (#[.slice a row.length c] ++ k) W' fun r w' => r = .returned (evalE row e).v ∧ Below W'.heap.size W' w'
theorem Fun2K.of {lo : Nat} {N : List Nat} {W : World} {F : Value} {g g' : Val → Val → Val} (h : Fun2K lo N W F g) (e : g = g') : Fun2K lo N W F g' := e ▸ h
theorem Fun2K.on {lo : Nat} {N : List Nat} {W W' : World} {F : Value} {g : Val → Val → Val} (h : Fun2K lo N W F g) (hk : Kept lo N W W') : Fun2K lo N W' F g := by
  obtain ⟨n, k, rfl, e, H⟩ := h
  exact ⟨n, k, rfl, e, fun W'' x y h1 h2 h3 => H W'' x y (hk.trans h1) h2 h3⟩
theorem WorkK.on {lo : Nat} {N : List Nat} {W W' : World} {F : Value} {x : Ex} (h : WorkK lo N W F x) (hk : Kept lo N W W') : WorkK lo N W' F x := by
  obtain ⟨n, k, rfl, e, H⟩ := h
  exact ⟨n, k, rfl, e, fun W'' a c row h1 h2 h3 h4 => H W'' a c row (hk.trans h1) h2 h3 h4⟩
theorem Fun2K.more {lo lo' : Nat} {N N' : List Nat} {W : World} {F : Value} {g : Val → Val → Val} (h : Fun2K lo N W F g) (hl : lo' ≤ lo) (hN : ∀ b ∈ N', b ∈ N ∨ b < lo ∨ W.heap.size ≤ b) : Fun2K lo' N' W F g := by
  obtain ⟨n, k, rfl, e, H⟩ := h
  exact ⟨n, k, rfl, e, fun W'' x y h1 h2 h3 => H W'' x y (h1.more hl hN) h2 h3⟩
theorem WorkK.more {lo lo' : Nat} {N N' : List Nat} {W : World} {F : Value} {x : Ex} (h : WorkK lo N W F x) (hl : lo' ≤ lo) (hN : ∀ b ∈ N', b ∈ N ∨ b < lo ∨ W.heap.size ≤ b) : WorkK lo' N' W F x := by
  obtain ⟨n, k, rfl, e, H⟩ := h
  exact ⟨n, k, rfl, e, fun W'' a c row h1 h2 h3 h4 => H W'' a c row (h1.more hl hN) h2 h3 h4⟩
theorem Fun2K.fun2 {lo : Nat} {N : List Nat} {W : World} {F : Value} {g : Val → Val → Val} (h : Fun2K lo N W F g) : Fun2 W F g := by
  obtain ⟨n, k, rfl, e, H⟩ := h
  exact ⟨n, k, rfl, e, fun W'' x y h1 h2 h3 => H W'' x y (Kept.of_below _ _ h1) h2 h3⟩
theorem WorkK.work {lo : Nat} {N : List Nat} {W : World} {F : Value} {x : Ex} (h : WorkK lo N W F x) : Work W F x := by
  obtain ⟨n, k, rfl, e, H⟩ := h
  exact ⟨n, k, rfl, e, fun W'' a c row h1 h2 h3 h4 => H W'' a c row (Kept.of_below _ _ h1) h2 h3 h4⟩
set_option maxHeartbeats 400000 in
theorem single_k (op : Int) (w : World) : Calls Try.prog 54 #[.int .i64 op] w fun e w' => (∃ F, e = .returned F ∧ ∀ W, Fun1 W F (oneV op)) ∧ w' = w := by
  by_cases h3 : op = 3
  · subst h3
    go_enter Try.func54, Try.ntmps54
    go_wp2
    go_ret
    exact ⟨⟨_, rfl, fun W => ⟨80, #[], rfl, ent59, fun W' x _ hx => neg_any x W' hx⟩⟩, rfl⟩
  by_cases h4 : op = 4
  · subst h4
    go_enter Try.func54, Try.ntmps54
    go_wp2
    go_ret
    exact ⟨⟨_, rfl, fun W => ⟨83, #[], rfl, ent62, fun W' x _ hx => not_any x W'⟩⟩, rfl⟩
  by_cases h5 : op = 5
  · subst h5
    go_enter Try.func54, Try.ntmps54
    go_wp2
    go_ret
    exact ⟨⟨_, rfl, fun W => ⟨84, #[], rfl, ent63, fun W' x _ hx => isnull_any x W'⟩⟩, rfl⟩
  have e3 : (op == 3) = false := by simpa using h3
  have e4 : (op == 4) = false := by simpa using h4
  have e5 : (op == 5) = false := by simpa using h5
  have eg : (fun x : Val => if x.k == 2 then Val.num x.s.size else Val.null) = oneV op := by
    funext x; unfold oneV; rw [e3, e4, e5]; rfl
  have HG := hide eg
  clear h3 h4 h5 eg
  go_enter Try.func54, Try.ntmps54
  go_wp2
  go_ret
  exact ⟨⟨_, rfl, fun W => Fun1.of ⟨85, #[], rfl, ent64, fun W' x _ hx => length_any x W' hx.2⟩ (unhide HG)⟩, rfl⟩
set_option maxHeartbeats 400000 in
theorem double_k (op : Int) (w : World) : Calls Try.prog 56 #[.int .i64 op] w fun e w' => ∃ F, e = .returned F ∧ Fun2K w.heap.size [] w' F (twoV op) ∧ Below w.heap.size w w' := by
  have hmf : ∀ (fn : Fn) (first cap : Array Value) (w : World), (Instr.makeFunc fn first cap).run Try.prog w = .ok (.func fn first cap) w := fun _ _ _ _ => rfl
  have HB := hide (below_alloc (Below.refl _ w) (.cells #[.int .i64 op] 3))
  have HX : Hid (Box1 (w.alloc (.cells #[.int .i64 op] 3)) w.heap.size (.int .i64 op)) := by show Box1 _ _ _; unfold Box1; simp [go_sem]
  by_cases h11 : op ≤ 11
  · have eg : reckV op = twoV op := by funext x y; unfold twoV; simp [h11]
    have HG := hide eg
    clear eg
    go_enter Try.func56, Try.ntmps56
    go_wp2
    go_ret
    exact ⟨_, rfl, Fun2K.of ⟨86, _, rfl, ent65, fun W' x y hW hx hy => dbl65_any op w.heap.size x y W' ((unhide HX).kept hW (Nat.le_refl _) (by simp)) hx hy⟩ (unhide HG), unhide HB⟩
  by_cases h17 : op ≤ 17
  · have eg : testV op = twoV op := by funext x y; unfold twoV; simp [h11, h17]
    have HG := hide eg
    clear eg
    go_enter Try.func56, Try.ntmps56
    go_wp2
    go_ret
    exact ⟨_, rfl, Fun2K.of ⟨87, _, rfl, ent66, fun W' x y hW hx hy => dbl66_any op w.heap.size x y W' ((unhide HX).kept hW (Nat.le_refl _) (by simp)) hx hy⟩ (unhide HG), unhide HB⟩
  by_cases h18 : op = 18
  · subst h18
    go_enter Try.func56, Try.ntmps56
    go_wp2
    go_ret
    exact ⟨_, rfl, ⟨89, _, rfl, ent68, fun W' x y hW hx hy => cat_any x y W' hx.2 hy.2⟩, unhide HB⟩
  have e18 : (op == 18) = false := by simpa using h18
  have eg : bothV op = twoV op := by funext x y; unfold twoV; simp [h11, h17, e18]
  have HG := hide eg
  clear eg h18
  go_enter Try.func56, Try.ntmps56
  go_wp2
  go_ret
  exact ⟨_, rfl, Fun2K.of ⟨90, _, rfl, ent69, fun W' x y hW hx hy => dbl69_any op w.heap.size x y W' ((unhide HX).kept hW (Nat.le_refl _) (by simp)) hx hy⟩ (unhide HG), unhide HB⟩
set_option maxHeartbeats 400000 in
theorem leaf_k (e : Ex) (hg : goodE e) (h0 : e.args = []) (a : Option Addr) (c : Nat) (w : World) : Calls Try.prog 53 #[e.val a c] w fun r w' => ∃ F, r = .returned F ∧ WorkK w.heap.size [] w' F e ∧ Below w.heap.size w w' := by
  have hmf : ∀ (fn : Fn) (first cap : Array Value) (w : World), (Instr.makeFunc fn first cap).run Try.prog w = .ok (.func fn first cap) w := fun _ _ _ _ => rfl
  have hB := below_alloc (Below.refl _ w) (.cells #[.int .i64 e.op, .int .i64 e.n, .int .i64 e.v.k, .int .i64 e.v.n, .string e.v.s, .slice a e.args.length c] 26)
  have HB := hide hB
  obtain ⟨c0, c1, c2, c3, c4, c5⟩ : Six (w.alloc (.cells #[.int .i64 e.op, .int .i64 e.n, .int .i64 e.v.k, .int .i64 e.v.n, .string e.v.s, .slice a e.args.length c] 26)) w.heap.size e a c := Six.new w e a c
  have HEV : Hid (∀ row, evalE row e = nodeV e.op e.n e.v row []) := fun row => by rw [evalE_eq, h0, evalL]
  have HC := hide (clean_any e.v)
  rw [Val.open_] at HC
  rw [Ex.val_open]
  rcases no_args hg h0 with ⟨h1, hn⟩ | h2
  · have e2 : (e.op == 2) = false := by rw [h1]; rfl
    have HW : Hid (∀ row, evalE row e = if decide ((row.length : Int) ≤ e.n) then Val.null else cleanV (row.getD e.n.toNat .null)) := fun row => by
      rw [unhide HEV row]; show (if e.op == 2 then _ else _) = _; rw [e2]; rfl
    have HX : Hid (Box1 ((w.alloc (.cells #[.int .i64 e.op, .int .i64 e.n, .int .i64 e.v.k, .int .i64 e.v.n, .string e.v.s, .slice a e.args.length c] 26)).alloc (.cells #[.int .i64 e.n] 3)) (w.heap.size + 1) (.int .i64 e.n)) := by show Box1 _ _ _; unfold Box1; simp [go_sem]
    clear h0 hg hB h1 HC
    go_enter Try.func53, Try.ntmps53
    go_wp2
    go_ret
    refine ⟨_, rfl, ⟨79, _, rfl, ent58, fun W' a' c' row hW hr hv hl => ?_⟩, below_alloc (unhide HB) _⟩
    rw [unhide HW row]
    exact leaf2_any e.n (w.heap.size + 1) a' c' row W' hn hl ((unhide HX).kept hW (by omega) (by simp)) hr
  · have e2 : (e.op == 2) = true := by rw [h2]; rfl
    have HW : Hid (∀ row, evalE row e = cleanV e.v) := fun row => by
      rw [unhide HEV row]; show (if e.op == 2 then _ else _) = _; rw [e2]; rfl
    generalize cleanV e.v = cv at *
    clear h0 hg hB h2
    go_enter Try.func53, Try.ntmps53
    go_wp2_with (go_at_call 50; refine (unhide HC _).mono ?_; rintro r w1 ⟨rfl, hb1⟩; rw [Val.open_])
    go_ret
    have hbx : BoxAt (w1.alloc (.cells #[.int .i64 cv.k, .int .i64 cv.n, .string cv.s] 23)) w1.heap.size cv := by refine ⟨?_, ?_, ?_⟩ <;> simp [go_sem]
    refine ⟨_, rfl, ⟨78, _, rfl, ent57, fun W' a' c' row hW hr hv hl => ?_⟩, below_alloc (below_one hb1) _⟩
    rw [unhide HW row]
    exact leaf1_any cv w1.heap.size a' row.length c' W' (hbx.kept hW (below_one hb1).size (by simp))
end Go.Proofs.Ytfnacpkodfhfoad

import Derived.Test.YtfnacpkodfhfoadExD
set_option linter.unusedSimpArgs false
set_option linter.unusedVariables false
namespace Go.Proofs.Ytfnacpkodfhfoad
open Go.RowKit Go.Sort

/-- A list of numbers, to be read. -/
def IntsAt (w : World) (a : Option Addr) (l : List Int) : Prop := l = [] ∨ ∃ b off, a = some ⟨b, off, none⟩ ∧ ∀ i x, l[i]? = some x → w.cell? ⟨b, off + i, none⟩ = some (.int .i64 x)
theorem IntsAt.later {w w' : World} {a : Option Addr} {l : List Int} (h : IntsAt w a l) (hb : Below w.heap.size w w') : IntsAt w' a l := by
  rcases h with h | ⟨b, off, ha, h⟩
  · exact .inl h
  · exact .inr ⟨b, off, ha, fun i x hx => clater (h i x hx) hb⟩
theorem IntsAt.get {w : World} {a : Option Addr} {l : List Int} {k : Nat} {x : Int} (h : IntsAt w a l) (hx : l[k]? = some x) : ∃ b off, a = some ⟨b, off, none⟩ ∧ w.cell? ⟨b, off + k, none⟩ = some (.int .i64 x) := by
  rcases h with h | ⟨b, off, ha, h⟩
  · rw [h] at hx; cases hx
  · exact ⟨b, off, ha, h k x hx⟩
theorem any_at {α : Type} {p : α → Bool} {l : List α} {k : Nat} {x : α} (h : l[k]? = some x) (hp : p x = true) : l.any p = true := List.any_eq_true.2 ⟨x, List.mem_of_getElem? h, hp⟩
theorem any_no {α : Type} {p : α → Bool} {l : List α} (h : ∀ i x, i < l.length → l[i]? = some x → p x = false) : l.any p = false := by
  rw [List.any_eq_false]
  intro y hy
  obtain ⟨i, hi⟩ := List.mem_iff_getElem?.1 hy
  rw [h i y (List.getElem?_eq_some_iff.1 hi).1 hi]; simp
theorem no_step {α : Type} {p : α → Bool} {l : List α} {k : Nat} {x : α} (h : ∀ i x, i < k → l[i]? = some x → p x = false) (hx : l[k]? = some x) (hp : p x = false) : ∀ i x, i < k + 1 → l[i]? = some x → p x = false := by
  intro i z hi hz
  by_cases e : i = k
  · subst e; rw [hx] at hz; injection hz with hz; rw [← hz]; exact hp
  · exact h i z (by omega) hz
set_option maxHeartbeats 400000 in
set_option maxRecDepth 100000 in
theorem index_any (a : Option Addr) (c : Nat) (l : List Int) (n : Int) (w : World) (hl : l.length ≤ 140737488355328) (ha : IntsAt w a l) :
    Calls Try.prog 77 #[.slice a l.length c, .int .i64 n] w fun e w' => (∃ r, e = .returned (.int .i64 r) ∧ decide (0 ≤ r) = l.any (fun x => n == x)) ∧ w' = w := by
  have HA := hide ha
  clear ha
  go_enter Try.func77, Try.ntmps77
  go_wp2_with fail
  go_loop [8] (fun i => ∃ k : Nat, k ≤ l.length ∧ i = .int .i64 (k : Int) ∧ Hid (∀ i x, i < k → l[i]? = some x → (n == x) = false)) (fun i => l.length - (intOf i).toNat)
  case atStart => exact ⟨0, Nat.zero_le _, rfl, fun i x hi => absurd hi (by omega)⟩
  case round =>
    obtain ⟨k, hk, rfl, HN⟩ := hrel
    by_cases hlt : k < l.length
    · have h9 : (k : Int) < (l.length : Int) := by omega
      obtain ⟨x, hx⟩ : ∃ x, l[k]? = some x := ⟨_, List.getElem?_eq_getElem hlt⟩
      obtain ⟨b, off, rfl, c0⟩ := (unhide HA).get hx
      rcases Bool.eq_false_or_eq_true (n == x) with he | he
      · have HE := hide (any_at (p := fun x => n == x) hx he)
        clear hx HN
        go_wp2
        go_ret
        exact ⟨⟨_, rfl, by rw [unhide HE]; simp⟩, rfl⟩
      · have HE := hide (no_step (p := fun x => n == x) (unhide HN) hx he)
        clear hx HN
        go_wp2
        exact ⟨⟨k + 1, by omega, by go_num, unhide HE⟩, by simp [intOf]; omega⟩
    · have h9 : ¬ (k : Int) < (l.length : Int) := by omega
      have HE := hide (any_no (p := fun x => n == x) fun i x hi hx => unhide HN i x (by omega) hx)
      clear HN
      go_wp2
      go_ret
      exact ⟨⟨_, rfl, by rw [unhide HE]; rfl⟩, rfl⟩
theorem contains_any (a : Option Addr) (c : Nat) (l : List Int) (n : Int) (w : World) (hl : l.length ≤ 140737488355328) (ha : IntsAt w a l) :
    Calls Try.prog 51 #[.slice a l.length c, .int .i64 n] w fun e w' => e = .returned (.bool (l.any (fun x => n == x))) ∧ w' = w := by
  have HI := hide (index_any a c l n w hl ha)
  clear ha
  generalize l.any (fun x => n == x) = r at *
  go_enter Try.func51, Try.ntmps51
  go_wp2_with (go_at_call 77; refine (unhide HI).mono ?_; rintro e w1 ⟨⟨q, rfl, hq⟩, rfl⟩)
  go_ret
  exact ⟨rfl, rfl⟩
set_option maxHeartbeats 400000 in
set_option maxRecDepth 100000 in
theorem indexE_any (p : Ex → Bool) (B : Nat) (a : Option Addr) (c : Nat) (l : List Ex) (w : World) (hl : l.length ≤ 140737488355328) (ha : Ex.all w a l)
    (HP : ∀ (i : Nat) (x : Ex), l[i]? = some x → ∀ (a' : Option Addr) (c' : Nat) (W : World), Below w.heap.size w W → Ex.all W a' x.args → Calls Try.prog 52 #[x.val a' c', .pointer (some ⟨B, 0, none⟩)] W fun r w' => r = .returned (.bool (p x)) ∧ Below W.heap.size W w') :
    Calls Try.prog 39 #[.slice a l.length c, .func (.func 52) #[] #[.pointer (some ⟨B, 0, none⟩)]] w fun e w' => ∃ r, e = .returned (.int .i64 r) ∧ decide (0 ≤ r) = l.any p ∧ Below w.heap.size w w' := by
  have HA := hide ha
  have HC := hide HP
  clear ha HP
  go_enter Try.func39, Try.ntmps39
  go_wp2_with fail
  go_loopw [8] (fun i wr => ∃ k : Nat, k ≤ l.length ∧ i = .int .i64 (k : Int) ∧ Hid (∀ i x, i < k → l[i]? = some x → p x = false) ∧ Below w.heap.size w wr) (fun i _ => l.length - (intOf i).toNat)
  case atStart => exact ⟨0, Nat.zero_le _, rfl, fun i x hi => absurd hi (by omega), Below.refl _ _⟩
  case round =>
    obtain ⟨k, hk, rfl, HN, hb⟩ := hrel
    by_cases hlt : k < l.length
    · have h9 : (k : Int) < (l.length : Int) := by omega
      obtain ⟨x, hx⟩ : ∃ x, l[k]? = some x := ⟨_, List.getElem?_eq_getElem hlt⟩
      obtain ⟨vb, vo, ea, hat⟩ := Ex.all_get (Ex.all_later _ (unhide HA) hb) hx
      obtain ⟨a', c', ⟨d0, d1, d2, d3, d4, d5⟩, hal⟩ := Ex.at_open hat
      have HX := hide (unhide HC k x hx a' c' wr hb hal)
      rw [Ex.val_open] at HX
      have HB := hide hb
      subst ea
      clear hat hal hb
      cases hp : p x
      · have HE := hide (no_step (unhide HN) hx hp)
        rw [hp] at HX
        clear hx HN hp
        go_wp2_with (go_at_call 52; refine (unhide HX).mono ?_; rintro r w1 ⟨rfl, hb1⟩)
        exact ⟨⟨k + 1, by omega, by go_num, unhide HE, below_step (unhide HB) hb1⟩, by simp [intOf]; omega⟩
      · have HE := hide (any_at hx hp)
        rw [hp] at HX
        clear hx HN hp
        go_wp2_with (go_at_call 52; refine (unhide HX).mono ?_; rintro r w1 ⟨rfl, hb1⟩)
        go_ret
        exact ⟨_, rfl, by rw [unhide HE]; simp, below_step (unhide HB) hb1⟩
    · have h9 : ¬ (k : Int) < (l.length : Int) := by omega
      have HE := hide (any_no (p := p) fun i x hi hx => unhide HN i x (by omega) hx)
      have HB := hide hb
      clear HN hb
      go_wp2
      go_ret
      exact ⟨_, rfl, by rw [unhide HE]; rfl, unhide HB⟩
theorem containsE_any (p : Ex → Bool) (B : Nat) (a : Option Addr) (c : Nat) (l : List Ex) (w : World) (hl : l.length ≤ 140737488355328) (ha : Ex.all w a l)
    (HP : ∀ (i : Nat) (x : Ex), l[i]? = some x → ∀ (a' : Option Addr) (c' : Nat) (W : World), Below w.heap.size w W → Ex.all W a' x.args → Calls Try.prog 52 #[x.val a' c', .pointer (some ⟨B, 0, none⟩)] W fun r w' => r = .returned (.bool (p x)) ∧ Below W.heap.size W w') :
    Calls Try.prog 20 #[.slice a l.length c, .func (.func 52) #[] #[.pointer (some ⟨B, 0, none⟩)]] w fun e w' => e = .returned (.bool (l.any p)) ∧ Below w.heap.size w w' := by
  have HI := hide (indexE_any p B a c l w hl ha HP)
  clear ha HP
  generalize l.any p = r at *
  go_enter Try.func20, Try.ntmps20
  go_wp2_with (go_at_call 39; refine (unhide HI).mono ?_; rintro e w1 ⟨q, rfl, hq, hb⟩)
  go_ret
  exact ⟨rfl, hb⟩
end Go.Proofs.Ytfnacpkodfhfoad
set_option linter.unusedSimpArgs false
set_option linter.unusedVariables false
namespace Go.Proofs.Ytfnacpkodfhfoad
open Go.RowKit Go.Sort

mutual
/-- Certainly null where these columns are. -/
def anE (cols : List Int) : Ex → Bool
  | .mk op n v l => if op == 1 then cols.any (fun x => n == x) else if op == 2 then (cleanV v).k == 0 else if op == 5 || op == 19 || op == 20 || op == 21 then false else anL cols l
def anL (cols : List Int) : List Ex → Bool
  | [] => false
  | e :: l => anE cols e || anL cols l
end
theorem anL_any (cols : List Int) : ∀ l : List Ex, anL cols l = l.any (anE cols)
  | [] => by rw [anL]; rfl
  | e :: l => by rw [anL, anL_any cols l]; rfl
theorem anE_eq (cols : List Int) (e : Ex) : anE cols e = if e.op == 1 then cols.any (fun x => e.n == x) else if e.op == 2 then (cleanV e.v).k == 0 else if e.op == 5 || e.op == 19 || e.op == 20 || e.op == 21 then false else e.args.any (anE cols) := by
  cases e with
  | mk op n v l => rw [anE, anL_any]; rfl
/-- What a box of a list holds. -/
def Box1 (w : World) (B : Nat) (v : Value) : Prop := w.cell? ⟨B, 0, none⟩ = some v
theorem Box1.later {w w' : World} {B : Nat} {v : Value} (h : Box1 w B v) (hb : Below w.heap.size w w') : Box1 w' B v := clater h hb
set_option maxHeartbeats 400000 in
set_option maxRecDepth 100000 in
theorem an56 {cols : List Int} {x : Ex} {aC : Option Addr} {cC B : Nat} {a : Option Addr} {c : Nat} {w : World} (hB : Box1 w B (.slice aC cols.length cC)) (hC : IntsAt w aC cols) (ha : Ex.all w a x.args)
    (H : ∀ (W : World), IntsAt W aC cols → Ex.all W a x.args → Calls Try.prog 26 #[x.val a c, .slice aC cols.length cC] W fun r w' => r = .returned (.bool (anE cols x)) ∧ Below W.heap.size W w') :
    Calls Try.prog 52 #[x.val a c, .pointer (some ⟨B, 0, none⟩)] w fun r w' => r = .returned (.bool (anE cols x)) ∧ Below w.heap.size w w' := by
  have HC := hide (H (w.alloc (.cells #[.int .i64 x.op, .int .i64 x.n, .int .i64 x.v.k, .int .i64 x.v.n, .string x.v.s, .slice a x.args.length c] 26)) (hC.later (below_alloc (Below.refl _ _) _)) (Ex.all_later _ ha (below_alloc (Below.refl _ _) _)))
  have c0 := clater hB (below_alloc (Below.refl _ w) (.cells #[.int .i64 x.op, .int .i64 x.n, .int .i64 x.v.k, .int .i64 x.v.n, .string x.v.s, .slice a x.args.length c] 26))
  generalize anE cols x = r at *
  rw [Ex.val_open] at HC ⊢
  clear H hB hC ha
  go_enter Try.func52, Try.ntmps52
  go_wp2_with (go_at_call 26; refine (unhide HC).mono ?_; rintro e w1 ⟨rfl, hb1⟩)
  go_ret
  exact ⟨rfl, below_one hb1⟩
set_option maxHeartbeats 1000000 in
set_option maxRecDepth 100000 in
theorem always_step (cols : List Int) (e : Ex) (hf : e.fin) (aC : Option Addr) (cC : Nat) (a : Option Addr) (c : Nat) (w : World) (hl : cols.length ≤ 140737488355328) (hC : IntsAt w aC cols) (ha : Ex.all w a e.args)
    (IH : ∀ (i : Nat) (x : Ex), e.args[i]? = some x → ∀ (a' : Option Addr) (c' : Nat) (W : World), IntsAt W aC cols → Ex.all W a' x.args → Calls Try.prog 26 #[x.val a' c', .slice aC cols.length cC] W fun r w' => r = .returned (.bool (anE cols x)) ∧ Below W.heap.size W w') :
    Calls Try.prog 26 #[e.val a c, .slice aC cols.length cC] w fun r w' => r = .returned (.bool (anE cols e)) ∧ Below w.heap.size w w' := by
  obtain ⟨⟨hel, hv, _, _⟩, _⟩ := Ex.fin_open hf
  have hBa := below_alloc (below_alloc (Below.refl _ w) (.cells #[.int .i64 e.op, .int .i64 e.n, .int .i64 e.v.k, .int .i64 e.v.n, .string e.v.s, .slice a e.args.length c] 26)) (.cells #[.slice aC cols.length cC] 27)
  have h6 := Six.later (Six.new w e a c) (below_alloc (Below.refl _ (w.alloc (.cells #[.int .i64 e.op, .int .i64 e.n, .int .i64 e.v.k, .int .i64 e.v.n, .string e.v.s, .slice a e.args.length c] 26))) (.cells #[.slice aC cols.length cC] 27))
  have hB1 : Box1 ((w.alloc (.cells #[.int .i64 e.op, .int .i64 e.n, .int .i64 e.v.k, .int .i64 e.v.n, .string e.v.s, .slice a e.args.length c] 26)).alloc (.cells #[.slice aC cols.length cC] 27)) (w.heap.size + 1) (.slice aC cols.length cC) := by unfold Box1; simp [go_sem]
  have HCON := hide (contains_any aC cC cols e.n ((w.alloc (.cells #[.int .i64 e.op, .int .i64 e.n, .int .i64 e.v.k, .int .i64 e.v.n, .string e.v.s, .slice a e.args.length c] 26)).alloc (.cells #[.slice aC cols.length cC] 27)) hl (hC.later hBa))
  have HCE := hide (containsE_any (anE cols) (w.heap.size + 1) a c e.args ((w.alloc (.cells #[.int .i64 e.op, .int .i64 e.n, .int .i64 e.v.k, .int .i64 e.v.n, .string e.v.s, .slice a e.args.length c] 26)).alloc (.cells #[.slice aC cols.length cC] 27)) hel (Ex.all_later _ ha hBa)
    fun i x hx a' c' W hW hal => an56 (hB1.later hW) ((hC.later hBa).later hW) hal fun W' h1 h2 => IH i x hx a' c' W' h1 h2)
  have HCL := hide (clean_any e.v)
  obtain ⟨R, hR⟩ : ∃ R, R = anE cols e := ⟨_, rfl⟩
  have HR : Hid (R = if e.op == 1 then cols.any (fun x => e.n == x) else if e.op == 2 then (cleanV e.v).k == 0 else if e.op == 5 || e.op == 19 || e.op == 20 || e.op == 21 then false else e.args.any (anE cols)) := by rw [hR]; exact anE_eq cols e
  rw [← hR]
  generalize e.args.any (anE cols) = rE at *
  generalize cols.any (fun x => e.n == x) = rC at *
  generalize cleanV e.v = cv at *
  obtain ⟨c0, c1, c2, c3, c4, c5⟩ := h6
  have hf0 := field0
  have HB := hide hBa
  rw [Ex.val_open]
  rw [Val.open_] at HCL
  clear hR hBa ha hC IH hB1
  rcases Bool.eq_false_or_eq_true (e.op == 1) with h1 | h1
  · rw [h1] at HR
    go_enter Try.func26, Try.ntmps26
    go_wp2_with (go_at_call 51; refine (unhide HCON).mono ?_; rintro r w1 ⟨rfl, rfl⟩)
    go_ret
    exact ⟨by rw [unhide HR]; simp, unhide HB⟩
  rw [h1] at HR
  rcases Bool.eq_false_or_eq_true (e.op == 2) with h2 | h2
  · rw [h2] at HR
    go_enter Try.func26, Try.ntmps26
    go_wp2_with (go_at_call 50; refine (unhide HCL _).mono ?_; rintro r w1 ⟨rfl, hb1⟩; rw [Val.open_])
    go_ret
    exact ⟨by rw [unhide HR]; simp, below_step (unhide HB) hb1⟩
  rw [h2] at HR
  rcases Bool.eq_false_or_eq_true (e.op == 5) with h5 | h5
  · rw [h5] at HR
    go_enter Try.func26, Try.ntmps26
    go_wp2
    go_ret
    exact ⟨by rw [unhide HR]; simp, unhide HB⟩
  rcases Bool.eq_false_or_eq_true (e.op == 19) with h19 | h19
  · rw [h5, h19] at HR
    go_enter Try.func26, Try.ntmps26
    go_wp2
    go_ret
    exact ⟨by rw [unhide HR]; simp, unhide HB⟩
  rcases Bool.eq_false_or_eq_true (e.op == 20) with h20 | h20
  · rw [h5, h19, h20] at HR
    go_enter Try.func26, Try.ntmps26
    go_wp2
    go_ret
    exact ⟨by rw [unhide HR]; simp, unhide HB⟩
  rcases Bool.eq_false_or_eq_true (e.op == 21) with h21 | h21
  · rw [h5, h19, h20, h21] at HR
    go_enter Try.func26, Try.ntmps26
    go_wp2
    go_ret
    exact ⟨by rw [unhide HR]; simp, unhide HB⟩
  rw [h5, h19, h20, h21] at HR
  have hmf : ∀ (fn : Fn) (first cap : Array Value) (w : World), (Instr.makeFunc fn first cap).run Try.prog w = .ok (.func fn first cap) w := fun _ _ _ _ => rfl
  go_enter Try.func26, Try.ntmps26
  go_wp2_with (go_at_call 20; refine (unhide HCE).mono ?_; rintro r w1 ⟨rfl, hb1⟩)
  go_ret
  exact ⟨by rw [unhide HR]; simp, below_step (unhide HB) hb1⟩
theorem always_all (cols : List Int) (aC : Option Addr) (cC : Nat) (hl : cols.length ≤ 140737488355328) : ∀ (k : Nat) (e : Ex), e.size ≤ k → e.fin → ∀ (a : Option Addr) (c : Nat) (w : World), IntsAt w aC cols → Ex.all w a e.args →
    Calls Try.prog 26 #[e.val a c, .slice aC cols.length cC] w fun r w' => r = .returned (.bool (anE cols e)) ∧ Below w.heap.size w w'
  | 0, e, hs, _, _, _, _, _, _ => by rw [Ex.size_mk] at hs; omega
  | k + 1, e, hs, hf, a, c, w, hC, ha => always_step cols e hf aC cC a c w hl hC ha fun i x hx a' c' W h1 h2 => always_all cols aC cC hl k x (by have := Ex.size_arg hx; omega) (Ex.fin_arg hf hx) a' c' W h1 h2
end Go.Proofs.Ytfnacpkodfhfoad

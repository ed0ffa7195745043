import Derived.Test.YtfnacpkodfhfoacExD
set_option linter.unusedSimpArgs false
set_option linter.unusedVariables false
namespace Go.Proofs.Ytfnacpkodfhfoac
open Go.RowKit Go.Sort

/-- A list of numbers, to be read. -/
def IntsAt (w : World) (a : Option Addr) (l : List Int) : Prop := l = [] ∨ ∃ b off, a = some ⟨b, off, none⟩ ∧ ∀ i x, l[i]? = some x → w.cell? ⟨b, off + i, none⟩ = some (.int .i64 x)
theorem IntsAt.later {w w' : World} {a : Option Addr} {l : List Int} (h : IntsAt w a l) (hb : Below w.heap.size w w') : IntsAt w' a l := by
  rcases h with h | ⟨b, off, ha, h⟩
  · exact .inl h
  · exact .inr ⟨b, off, ha, fun i x hx => clater (h i x hx) hb⟩
theorem IntsAt.get {w : World} {a : Option Addr} {l : List Int} {k : Nat} {x : Int} (h : IntsAt w a l) (hx : l[k]? = some x) : ∃ b off, a = some ⟨b, off, none⟩ ∧ w.cell? ⟨b, off + k, none⟩ = some (.int .i64 x) := by
  rcases h with h | ⟨b, off, ha, h⟩
  · rw [h] at hx; cases hx
  · exact ⟨b, off, ha, h k x hx⟩
theorem any_at {α : Type} {p : α → Bool} {l : List α} {k : Nat} {x : α} (h : l[k]? = some x) (hp : p x = true) : l.any p = true := List.any_eq_true.2 ⟨x, List.mem_of_getElem? h, hp⟩
theorem any_no {α : Type} {p : α → Bool} {l : List α} (h : ∀ i x, i < l.length → l[i]? = some x → p x = false) : l.any p = false := by
  rw [List.any_eq_false]
  intro y hy
  obtain ⟨i, hi⟩ := List.mem_iff_getElem?.1 hy
  rw [h i y (List.getElem?_eq_some_iff.1 hi).1 hi]; simp
theorem no_step {α : Type} {p : α → Bool} {l : List α} {k : Nat} {x : α} (h : ∀ i x, i < k → l[i]? = some x → p x = false) (hx : l[k]? = some x) (hp : p x = false) : ∀ i x, i < k + 1 → l[i]? = some x → p x = false := by
  intro i z hi hz
  by_cases e : i = k
  · subst e; rw [hx] at hz; injection hz with hz; rw [← hz]; exact hp
  · exact h i z (by omega) hz
/-- What a test of expressions answers. -/
def TestE (W : World) (F : Value) (p : Ex → Bool) : Prop := ∃ n k, F = .func (.func n) #[] k ∧ (∀ args w, (callFunc n args).run Try.prog w = .ok (.enter n args) w) ∧ ∀ (x : Ex) (a' : Option Addr) (c' : Nat) (W' : World), x.fin → Below W.heap.size W W' → Ex.all W' a' x.args → Calls Try.prog n (#[x.val a' c'] ++ k) W' fun r w' => r = .returned (.bool (p x)) ∧ Below W'.heap.size W' w'
/-- Where the first one is for which p holds; -1, if there is none. -/
def FoundE (p : Ex → Bool) (l : List Ex) (r : Int) : Prop := (∃ (k : Nat) (x : Ex), r = k ∧ l[k]? = some x ∧ p x = true ∧ ∀ (i : Nat) (y : Ex), i < k → l[i]? = some y → p y = false) ∨ (r = -1 ∧ ∀ (i : Nat) (y : Ex), l[i]? = some y → p y = false)
set_option maxHeartbeats 400000 in
set_option maxRecDepth 100000 in
theorem indexE_any (F : Value) (p : Ex → Bool) (a : Option Addr) (c : Nat) (l : List Ex) (w : World) (hl : l.length ≤ 140737488355328) (hf : Ex.fins l) (ha : Ex.all w a l) (hF : TestE w F p) :
    Calls Try.prog 44 #[.slice a l.length c, F] w fun e w' => ∃ r, e = .returned (.int .i64 r) ∧ FoundE p l r ∧ Below w.heap.size w w' := by
  have HA := hide ha
  obtain ⟨nf, kf, rfl, ent, HP⟩ := hF
  have HC := hide HP
  clear ha HP
  go_enter Try.func44, Try.ntmps44
  go_wp2_with fail
  go_loopw [8] (fun i wr => ∃ k : Nat, k ≤ l.length ∧ i = .int .i64 (k : Int) ∧ Hid (∀ i x, i < k → l[i]? = some x → p x = false) ∧ Below w.heap.size w wr) (fun i _ => l.length - (intOf i).toNat)
  case atStart => exact ⟨0, Nat.zero_le _, rfl, fun i x hi => absurd hi (by omega), Below.refl _ _⟩
  case round =>
    obtain ⟨k, hk, rfl, HN, hb⟩ := hrel
    by_cases hlt : k < l.length
    · have h9 : (k : Int) < (l.length : Int) := by omega
      obtain ⟨x, hx⟩ : ∃ x, l[k]? = some x := ⟨_, List.getElem?_eq_getElem hlt⟩
      obtain ⟨vb, vo, ea, hat⟩ := Ex.all_get (Ex.all_later _ (unhide HA) hb) hx
      obtain ⟨a', c', ⟨d0, d1, d2, d3, d4, d5⟩, hal⟩ := Ex.at_open hat
      have HX := hide (unhide HC x a' c' wr (Ex.fins_mem hf (List.mem_of_getElem? hx)) hb hal)
      rw [Ex.val_open] at HX
      have HB := hide hb
      subst ea
      clear hat hal hb
      cases hp : p x
      · have HE := hide (no_step (unhide HN) hx hp)
        rw [hp] at HX
        clear hx HN hp
        go_wp2_with (refine (unhide HX).mono ?_; rintro r w1 ⟨rfl, hb1⟩)
        exact ⟨⟨k + 1, by omega, by go_num, unhide HE, below_step (unhide HB) hb1⟩, by simp [intOf]; omega⟩
      · have HE : Hid (FoundE p l (k : Int)) := Or.inl ⟨k, x, rfl, hx, hp, unhide HN⟩
        rw [hp] at HX
        clear hx HN hp
        go_wp2_with (refine (unhide HX).mono ?_; rintro r w1 ⟨rfl, hb1⟩)
        go_ret
        exact ⟨_, rfl, unhide HE, below_step (unhide HB) hb1⟩
    · have h9 : ¬ (k : Int) < (l.length : Int) := by omega
      have HE : Hid (FoundE p l (-1)) := Or.inr ⟨rfl, fun i x hx => unhide HN i x (by have := (List.getElem?_eq_some_iff.1 hx).1; omega) hx⟩
      have HB := hide hb
      clear HN hb
      go_wp2
      go_ret
      exact ⟨_, rfl, unhide HE, unhide HB⟩
theorem found_any {p : Ex → Bool} {l : List Ex} {r : Int} (h : FoundE p l r) : decide (0 ≤ r) = l.any p := by
  rcases h with ⟨k, x, rfl, hx, hp, _⟩ | ⟨rfl, h⟩
  · rw [any_at hx hp]; simp
  · rw [any_no fun i x _ hx => h i x hx]; rfl
theorem containsE_any (F : Value) (p : Ex → Bool) (a : Option Addr) (c : Nat) (l : List Ex) (w : World) (hl : l.length ≤ 140737488355328) (hf : Ex.fins l) (ha : Ex.all w a l) (hF : TestE w F p) :
    Calls Try.prog 25 #[.slice a l.length c, F] w fun e w' => e = .returned (.bool (l.any p)) ∧ Below w.heap.size w w' := by
  have HI : Hid (Calls Try.prog 44 #[.slice a l.length c, F] w fun e w' => ∃ r, e = .returned (.int .i64 r) ∧ decide (0 ≤ r) = l.any p ∧ Below w.heap.size w w') := (indexE_any F p a c l w hl hf ha hF).mono fun e w' ⟨r, h1, h2, h3⟩ => ⟨r, h1, found_any h2, h3⟩
  clear ha
  generalize l.any p = r at *
  go_enter Try.func25, Try.ntmps25
  go_wp2_with (go_at_call 44; refine (unhide HI).mono ?_; rintro e w1 ⟨q, rfl, hq, hb⟩)
  go_ret
  exact ⟨rfl, hb⟩
end Go.Proofs.Ytfnacpkodfhfoac

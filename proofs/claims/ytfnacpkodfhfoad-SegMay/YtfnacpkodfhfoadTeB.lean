import Derived.Test.YtfnacpkodfhfoadExG
set_option linter.unusedSimpArgs false
set_option linter.unusedVariables false
namespace Go.Proofs.Ytfnacpkodfhfoad
open Go.RowKit Go.Sort

/-- What a test of expressions answers. -/
def TestP (W : World) (F : Value) (p : Ex → Bool) (PP : Ex → Prop) : Prop := ∃ n k, F = .func (.func n) #[] k ∧ (∀ args w, (callFunc n args).run Try.prog w = .ok (.enter n args) w) ∧ ∀ (x : Ex) (a' : Option Addr) (c' : Nat) (W' : World), PP x → Below W.heap.size W W' → Ex.all W' a' x.args → Calls Try.prog n (#[x.val a' c'] ++ k) W' fun r w' => r = .returned (.bool (p x)) ∧ Below W'.heap.size W' w'
/-- Where the first one is for which p holds; -1, if there is none. -/
def FoundP (p : Ex → Bool) (l : List Ex) (r : Int) : Prop := (∃ (k : Nat) (x : Ex), r = k ∧ l[k]? = some x ∧ p x = true ∧ ∀ (i : Nat) (y : Ex), i < k → l[i]? = some y → p y = false) ∨ (r = -1 ∧ ∀ (i : Nat) (y : Ex), l[i]? = some y → p y = false)
set_option maxHeartbeats 400000 in
set_option maxRecDepth 100000 in
theorem indexP_any (F : Value) (p : Ex → Bool) (PP : Ex → Prop) (a : Option Addr) (c : Nat) (l : List Ex) (w : World) (hl : l.length ≤ 140737488355328) (hf : ∀ x ∈ l, PP x) (ha : Ex.all w a l) (hF : TestP w F p PP) :
    Calls Try.prog 39 #[.slice a l.length c, F] w fun e w' => ∃ r, e = .returned (.int .i64 r) ∧ FoundP p l r ∧ Below w.heap.size w w' := by
  have HA := hide ha
  obtain ⟨nf, kf, rfl, ent, HP⟩ := hF
  have HC := hide HP
  clear ha HP
  go_enter Try.func39, Try.ntmps39
  go_wp2_with fail
  go_loopw [8] (fun i wr => ∃ k : Nat, k ≤ l.length ∧ i = .int .i64 (k : Int) ∧ Hid (∀ i x, i < k → l[i]? = some x → p x = false) ∧ Below w.heap.size w wr) (fun i _ => l.length - (intOf i).toNat)
  case atStart => exact ⟨0, Nat.zero_le _, rfl, fun i x hi => absurd hi (by omega), Below.refl _ _⟩
  case round =>
    obtain ⟨k, hk, rfl, HN, hb⟩ := hrel
    by_cases hlt : k < l.length
    · have h9 : (k : Int) < (l.length : Int) := by omega
      obtain ⟨x, hx⟩ : ∃ x, l[k]? = some x := ⟨_, List.getElem?_eq_getElem hlt⟩
      obtain ⟨vb, vo, ea, hat⟩ := Ex.all_get (Ex.all_later _ (unhide HA) hb) hx
      obtain ⟨a', c', ⟨d0, d1, d2, d3, d4, d5⟩, hal⟩ := Ex.at_open hat
      have HX := hide (unhide HC x a' c' wr (hf _ (List.mem_of_getElem? hx)) hb hal)
      rw [Ex.val_open] at HX
      have HB := hide hb
      subst ea
      clear hat hal hb
      cases hp : p x
      · have HE := hide (no_step (unhide HN) hx hp)
        rw [hp] at HX
        clear hx HN hp
        go_wp2_with (refine (unhide HX).mono ?_; rintro r w1 ⟨rfl, hb1⟩)
        exact ⟨⟨k + 1, by omega, by go_num, unhide HE, below_step (unhide HB) hb1⟩, by simp [intOf]; omega⟩
      · have HE : Hid (FoundP p l (k : Int)) := Or.inl ⟨k, x, rfl, hx, hp, unhide HN⟩
        rw [hp] at HX
        clear hx HN hp
        go_wp2_with (refine (unhide HX).mono ?_; rintro r w1 ⟨rfl, hb1⟩)
        go_ret
        exact ⟨_, rfl, unhide HE, below_step (unhide HB) hb1⟩
    · have h9 : ¬ (k : Int) < (l.length : Int) := by omega
      have HE : Hid (FoundP p l (-1)) := Or.inr ⟨rfl, fun i x hx => unhide HN i x (by have := (List.getElem?_eq_some_iff.1 hx).1; omega) hx⟩
      have HB := hide hb
      clear HN hb
      go_wp2
      go_ret
      exact ⟨_, rfl, unhide HE, unhide HB⟩
theorem foundP_any {p : Ex → Bool} {l : List Ex} {r : Int} (h : FoundP p l r) : decide (0 ≤ r) = l.any p := by
  rcases h with ⟨k, x, rfl, hx, hp, _⟩ | ⟨rfl, h⟩
  · rw [any_at hx hp]; simp
  · rw [any_no fun i x _ hx => h i x hx]; rfl
theorem containsP_any (F : Value) (p : Ex → Bool) (PP : Ex → Prop) (a : Option Addr) (c : Nat) (l : List Ex) (w : World) (hl : l.length ≤ 140737488355328) (hf : ∀ x ∈ l, PP x) (ha : Ex.all w a l) (hF : TestP w F p PP) :
    Calls Try.prog 20 #[.slice a l.length c, F] w fun e w' => e = .returned (.bool (l.any p)) ∧ Below w.heap.size w w' := by
  have HI : Hid (Calls Try.prog 39 #[.slice a l.length c, F] w fun e w' => ∃ r, e = .returned (.int .i64 r) ∧ decide (0 ≤ r) = l.any p ∧ Below w.heap.size w w') := (indexP_any F p PP a c l w hl hf ha hF).mono fun e w' ⟨r, h1, h2, h3⟩ => ⟨r, h1, foundP_any h2, h3⟩
  clear ha
  generalize l.any p = r at *
  go_enter Try.func20, Try.ntmps20
  go_wp2_with (go_at_call 39; refine (unhide HI).mono ?_; rintro e w1 ⟨q, rfl, hq, hb⟩)
  go_ret
  exact ⟨rfl, hb⟩
end Go.Proofs.Ytfnacpkodfhfoad

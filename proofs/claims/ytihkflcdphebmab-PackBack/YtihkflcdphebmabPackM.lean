import Derived.Test.YtihkflcdphebmabPackL
set_option linter.unusedSimpArgs false
set_option linter.unusedVariables false
namespace Go.Proofs.Ytihkflcdphebmab
open Go.RowKit Go.Sort

def nullB (x : Val) : Bool := x.k == 0

theorem vindex_any (a : Option Addr) (c : Nat) (xs : List Val) (w : World) (l : xs.length ≤ 1048576) (h : RowAt w a xs) :
    Calls Try.prog 74 #[.slice a xs.length c, .func (.func 62) #[] #[]] w fun e w' => (∃ i : Int, e = .returned (.int .i64 i) ∧ Hid (decide (0 ≤ i) = xs.any nullB)) ∧ Below w.heap.size w w' := by
  have H := hide h
  clear h
  go_enter Try.func74, Try.ntmps74
  go_wp2_with fail
  go_loopw [8] (fun i wr => ∃ k : Nat, k ≤ xs.length ∧ i = .int .i64 k ∧ Hid (∀ i y, i < k → xs[i]? = some y → nullB y = false) ∧ Below w.heap.size w wr) (fun i _ => xs.length - (intOf i).toNat)
  case atStart => exact ⟨0, Nat.zero_le _, rfl, fun i y h => by omega, Below.refl _ _⟩
  case round =>
    obtain ⟨k, hk, rfl, HN, hb⟩ := hrel
    by_cases h1 : k < xs.length
    · obtain ⟨x, hx⟩ : ∃ x, xs[k]? = some x := ⟨_, List.getElem?_eq_getElem h1⟩
      rcases (unhide H).later hb with e | ⟨rb, ro, rfl, hc⟩
      · rw [e] at hx; cases hx
      obtain ⟨c0, c1, c2⟩ := hc k x hx
      have HX := hide hx
      have HB := hide hb
      have i1 : (k : Int) < (xs.length : Int) := by omega
      have HP := hide (fun W => pnull_any x W)
      clear hx hc hb
      rcases Bool.eq_false_or_eq_true (nullB x) with e1 | e1
      · have HE : Hid (decide (0 ≤ (k : Int)) = xs.any nullB) := by
          show _ = _
          have : xs.any nullB = true := List.any_eq_true.2 ⟨x, List.mem_of_getElem? (unhide HX), e1⟩
          rw [this]; simp
        have e2 : (x.k == 0) = true := e1
        rw [e2] at HP
        go_wp2_with (go_at_call 62; refine (unhide HP _).mono ?_; rintro e w1 ⟨rfl, hb1⟩)
        go_ret
        exact ⟨⟨_, rfl, HE⟩, below_step (unhide HB) hb1⟩
      · have e2 : (x.k == 0) = false := e1
        rw [e2] at HP
        have HS : Hid (∀ i y, i < k + 1 → xs[i]? = some y → nullB y = false) := fun i y hi hy => by
          by_cases h : i < k
          · exact unhide HN i y h hy
          · have : i = k := by omega
            subst this
            rw [unhide HX] at hy
            injection hy with hy
            rw [← hy]; exact e1
        go_wp2_with (go_at_call 62; refine (unhide HP _).mono ?_; rintro e w1 ⟨rfl, hb1⟩)
        go_roundw
        case rel => exact ⟨k + 1, by omega, by go_num, HS, below_step (unhide HB) hb1⟩
        case measure => first | (simp [intOf]; omega) | (simp only [intOf]; omega)
    · have i1 : ¬ (k : Int) < (xs.length : Int) := by omega
      have HE : Hid (decide (0 ≤ (-1 : Int)) = xs.any nullB) := by
        show _ = _
        have e : k = xs.length := by omega
        have : xs.any nullB = false := by
          rw [List.any_eq_false]
          intro y hy
          obtain ⟨i, hi, rfl⟩ := List.getElem_of_mem hy
          rw [unhide HN i _ (by omega) (List.getElem?_eq_getElem hi)]
          simp
        rw [this]; rfl
      have HB := hide hb
      clear hb
      go_wp2
      go_ret
      exact ⟨⟨_, rfl, HE⟩, unhide HB⟩
theorem vcontains_any (a : Option Addr) (c : Nat) (xs : List Val) (w : World) (l : xs.length ≤ 1048576) (h : RowAt w a xs) :
    Calls Try.prog 72 #[.slice a xs.length c, .func (.func 62) #[] #[]] w fun e w' => e = .returned (.bool (xs.any nullB)) ∧ Below w.heap.size w w' := by
  have HI := hide (vindex_any a c xs w l h)
  generalize xs.any nullB = Z at HI ⊢
  clear h l
  go_enter Try.func72, Try.ntmps72
  go_wp2_with (go_at_call 74; refine (unhide HI).mono ?_; rintro e w1 ⟨⟨i, rfl, HE⟩, hb1⟩)
  go_ret
  exact ⟨by rw [← unhide HE]; rfl, hb1⟩
end Go.Proofs.Ytihkflcdphebmab

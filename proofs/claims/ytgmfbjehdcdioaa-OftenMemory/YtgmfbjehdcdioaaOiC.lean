import Derived.Test.YtgmfbjehdcdioaaOiB
set_option linter.unusedSimpArgs false
set_option linter.unusedVariables false
set_option maxRecDepth 100000
namespace Go.Proofs.Ytgmfbjehdcdioaa
open Go.RowKit Go.Sort

/-- What mod answers. -/
def modN (n : Int) (m : Nat) : Nat := ((n.tmod (m : Int) + (m : Int)).tmod (m : Int)).toNat
theorem modN_lt (n : Int) {m : Nat} (hm : 0 < m) : modN n m < m := by
  have h1 : 0 ≤ (n.tmod (m : Int) + (m : Int)).tmod (m : Int) := by
    refine Int.tmod_nonneg _ ?_
    have := Int.lt_tmod_of_pos n (show (0 : Int) < (m : Int) by omega)
    omega
  have h2 := Int.tmod_lt_of_pos (n.tmod (m : Int) + (m : Int)) (show (0 : Int) < (m : Int) by omega)
  unfold modN
  omega
set_option maxRecDepth 100000 in
theorem mod_any (n : Int) (m : Nat) (hm : 0 < m) (hm2 : m ≤ 2305843009213693952) (w : World) : Calls Try.prog 7 #[.int .i64 n, .int .i64 m] w fun e w' => e = .returned (.int .i64 (modN n m : Int)) ∧ w' = w := by
  have h0 : ¬ (m : Int) = 0 := by omega
  have h0' : ((m : Int) == 0) = false := by simp; omega
  obtain ⟨t, ht⟩ : ∃ t, n.tmod (m : Int) = t := ⟨_, rfl⟩
  have h1 : t < (m : Int) := by rw [← ht]; exact Int.tmod_lt_of_pos _ (by omega)
  have h2 : -(m : Int) < t := by
    rw [← ht]
    have := Int.lt_tmod_of_pos n (show (0 : Int) < (m : Int) by omega)
    exact this
  obtain ⟨r, hr⟩ : ∃ r : Nat, (t + (m : Int)).tmod (m : Int) = (r : Int) := ⟨((t + (m : Int)).tmod (m : Int)).toNat, by
    have : 0 ≤ (t + (m : Int)).tmod (m : Int) := Int.tmod_nonneg _ (by omega)
    omega⟩
  have h3 : (r : Int) < (m : Int) := by rw [← hr]; exact Int.tmod_lt_of_pos _ (by omega)
  have hw : IntKind.i64.wrap (t + (m : Int)) = t + (m : Int) := by rw [IntKind.wrap_i64]; omega
  have hmr : modN n m = r := by unfold modN; rw [ht]; omega
  rw [hmr]
  clear hmr
  go_enter Try.func7, Try.ntmps7
  go_wp2
  go_ret
  exact ⟨rfl, rfl⟩
/-- One row of the script. -/
structure Cm where
  k : Int
  n : Int
  s : ByteArray
  N : Int
  m : Bool
  A : Int
  B : Int
def ScAt (w : World) (a : Option Addr) (ss : List Cm) : Prop :=
  ss = [] ∨ ∃ b off, a = some ⟨b, off, none⟩ ∧ ∀ i x, ss[i]? = some x → w.cell? ⟨b, off + i * 7, none⟩ = some (.int .i64 x.k) ∧ w.cell? ⟨b, off + i * 7 + 1, none⟩ = some (.int .i64 x.n) ∧ w.cell? ⟨b, off + i * 7 + 2, none⟩ = some (.string x.s) ∧ w.cell? ⟨b, off + i * 7 + 3, none⟩ = some (.int .i64 x.N) ∧ w.cell? ⟨b, off + i * 7 + 4, none⟩ = some (.bool x.m) ∧ w.cell? ⟨b, off + i * 7 + 5, none⟩ = some (.int .i64 x.A) ∧ w.cell? ⟨b, off + i * 7 + 6, none⟩ = some (.int .i64 x.B)
theorem ScAt.later {w w' : World} {a : Option Addr} {ss : List Cm} (h : ScAt w a ss) (hb : Below w.heap.size w w') : ScAt w' a ss := by
  rcases h with h | ⟨b, off, ha, h⟩
  · exact .inl h
  · exact .inr ⟨b, off, ha, fun i x hx => by
      obtain ⟨h0, h1, h2, h3, h4, h5, h6⟩ := h i x hx
      exact ⟨cell_later hb h0, cell_later hb h1, cell_later hb h2, cell_later hb h3, cell_later hb h4, cell_later hb h5, cell_later hb h6⟩⟩


set_option maxHeartbeats 1000000 in
theorem law_bad (w : World) (k : Int) (sc : Value) (hc : k < 1 ∨ 1024 < k) :
    Calls Try.prog 3 #[.int .i64 k, sc] w fun e w' => e = .returned (.bool true) ∧ Below w.heap.size w w' := by
  have K5 := hide (fun W => new_bad k W hc)
  go_enter Try.func3, Try.ntmps3
  go_wp2_with fail
  go_loopw [7] (fun s7 wr => s7 = .int .i64 0 ∧ Below w.heap.size w wr) (fun _ _ => 0)
  case atStart => exact ⟨rfl, below_alloc (below_alloc (Below.refl _ _) _) _⟩
  case round =>
    obtain ⟨rfl, hb⟩ := hrel
    by_cases h1 : k < 1
    · go_wp2_with (go_at_call 5; refine (unhide K5 _).mono ?_; rintro _ _ ⟨rfl, rfl⟩)
      go_ret
      exact ⟨rfl, hb⟩
    · have h2 : 1024 < k := by omega
      clear hc
      go_wp2_with (go_at_call 5; refine (unhide K5 _).mono ?_; rintro _ _ ⟨rfl, rfl⟩)
      go_ret
      exact ⟨rfl, hb⟩
end Go.Proofs.Ytgmfbjehdcdioaa

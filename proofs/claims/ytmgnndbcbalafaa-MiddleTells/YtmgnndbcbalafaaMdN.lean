import Derived.Test.YtmgnndbcbalafaaMdM
set_option linter.unusedSimpArgs false
set_option linter.unusedVariables false
namespace Go.Proofs.Ytmgnndbcbalafaa
open Go.RowKit Go.Sort

def okC (c : Int) : Bool := decide (2 ≤ c) && decide (c ≤ 1024) && decide (c % 2 = 0)

set_option maxRecDepth 100000 in
theorem new_bad (c : Int) (w : World) (h : okC c = false) : Calls Try.prog 4 #[.int .i64 c] w fun e w' => e = .returned (.tuple #[.pointer none, .int .i64 1]) ∧ w' = w := by
  by_cases h1 : c < 2
  · go_enter Try.func4, Try.ntmps4
    go_wp2
    exact bodyPost_ret (v := .tuple #[.pointer none, .int .i64 1]) (by simp [results, Try.results4, go_sem]) rfl ⟨rfl, rfl⟩
  by_cases h2 : 1024 < c
  · go_enter Try.func4, Try.ntmps4
    go_wp2
    exact bodyPost_ret (v := .tuple #[.pointer none, .int .i64 1]) (by simp [results, Try.results4, go_sem]) rfl ⟨rfl, rfl⟩
  have h3 : (c % 2 != 0) = true := by
    simp only [okC, Bool.and_eq_false_iff, decide_eq_false_iff_not] at h
    have : ¬ c % 2 = 0 := by omega
    simpa using this
  clear h
  go_enter Try.func4, Try.ntmps4
  go_wp2
  exact bodyPost_ret (v := .tuple #[.pointer none, .int .i64 1]) (by simp [results, Try.results4, go_sem]) rfl ⟨rfl, rfl⟩

theorem new_mid (w : World) (c : Nat) : ∃ S, S = .slice (some ⟨w.heap.size, 0, none⟩) 1 1 ∧ SkA ((w.alloc (.cells #[.slice none 0 0] 23)).alloc (.cells #[.int .i64 c, .int .i64 0, .int .i64 0, S] 41)) (w.heap.size + 1) c S [.slice none 0 0] [] ∨ c = 0 := by
  by_cases hc : c = 0
  · exact ⟨.slice none 0 0, .inr hc⟩
  refine ⟨_, .inl ⟨rfl, fun _ => [], fun _ => 0, 0, ⟨?_, ?_, fun j s hs => ?_, fun i j s t hi hj hn => ?_, by simp, fun j _ => rfl⟩, good_new c, fun j => by simp; omega⟩⟩
  · have := World.rowIs_alloc (w.alloc (.cells #[.slice none 0 0] 23)) _ 41 _ (box4_arr (.int .i64 c) (.int .i64 0) (.int .i64 0) (.slice (some ⟨w.heap.size, 0, none⟩) 1 1))
    have e : (w.alloc (.cells #[.slice none 0 0] 23)).heap.size = w.heap.size + 1 := by simp
    rw [e] at this
    exact this
  · refine World.ownsRow.alloc ⟨rfl, .inr ⟨w.heap.size, 1, #[.slice none 0 0], rfl, Nat.zero_le _, ?_, by simp, by unfold maxLen; omega, rfl, rfl⟩⟩ _
    show (w.heap.push _)[w.heap.size]? = _
    rw [Array.getElem?_push_size]
  · match j, hs with
    | 0, hs => simp at hs; subst hs; exact World.ownsRow_nil _ _ _ _
    | j + 1, hs => simp at hs
  · match i, hi with
    | 0, hi => simp at hi; subst hi; exact .inl rfl
    | i + 1, hi => simp at hi

/-- What NewMiddle answers. -/
def NewA (c : Nat) (w : World) (e : Ending) (w' : World) : Prop :=
  ∃ b S Ls, e = .returned (.tuple #[.pointer (some ⟨b, 0, none⟩), .int .i64 0]) ∧ SkA w' b c S Ls [] ∧ Below w.heap.size w w' ∧ ∀ k, foot b S Ls k → w.heap.size ≤ k
set_option maxRecDepth 100000 in
theorem new_good (c : Nat) (w : World) (h : okC c = true) : Calls Try.prog 4 #[.int .i64 c] w fun e w' => NewA c w e w' := by
  simp only [okC, Bool.and_eq_true, decide_eq_true_eq] at h
  obtain ⟨⟨h1, h2⟩, h3⟩ := h
  obtain ⟨S, hS0⟩ := new_mid w c
  have hS1 := hS0.resolve_right (by omega)
  obtain ⟨rfl, hS⟩ := hS1
  have h1' : ¬ (c : Int) < 2 := by omega
  have h2' : ¬ (1024 : Int) < (c : Int) := by omega
  have h3' : ((c : Int) % 2 != 0) = false := by simpa using h3
  have HS := hide hS
  clear hS h1 h2 h3 hS0
  go_enter Try.func4, Try.ntmps4
  go_wp2
  refine bodyPost_ret (v := .tuple #[.pointer (some ⟨w.heap.size + 1, 0, none⟩), .int .i64 0]) (by simp [results, Try.results4, go_sem]) rfl ⟨w.heap.size + 1, .slice (some ⟨w.heap.size, 0, none⟩) 1 1, [.slice none 0 0], rfl, unhide HS, below_alloc (below_alloc (Below.refl _ w) _) _, ?_⟩
  rintro k (rfl | hk | ⟨s, hs, hk⟩)
  · omega
  · simp [Value.ownBlock] at hk; omega
  · simp at hs; subst hs; cases hk

set_option maxRecDepth 100000 in
theorem total_any (w : World) (b c : Nat) (S : Value) (Ls : List Value) (xs : List Int) (hA : SkA w b c S Ls xs) : Calls Try.prog 15 #[.pointer (some ⟨b, 0, none⟩)] w fun e w' => e = .returned (.int .i64 (xs.length : Int)) ∧ w' = w := by
  obtain ⟨lv, h, sl, hM, hG, hS⟩ := hA
  obtain ⟨c0, c1, c2, c3, f0, f1, f2, f3⟩ := hM.facts
  clear hM hG hS
  go_enter Try.func15, Try.ntmps15
  go_wp2
  go_ret
  exact ⟨rfl, rfl⟩

set_option maxRecDepth 100000 in
theorem bits_any (n : Nat) (hn : n ≤ 1000000) (w : World) : Calls Try.prog 13 #[.int .i64 n] w fun e w' => e = .returned (.int .i64 (bitsN n : Int)) ∧ w' = w := by
  have hb : bitsN n ≤ 20 := bits_le 20 n (by omega)
  obtain ⟨R, hR⟩ : ∃ R, bitsN n = R := ⟨_, rfl⟩
  rw [hR] at hb ⊢
  have HR := hide hR
  clear hR
  go_enter Try.func13, Try.ntmps13
  go_wp2_with fail
  go_loopw [0, 3] (fun s0 s3 wr => ∃ m k : Nat, s0 = .int .i64 (m : Int) ∧ s3 = .int .i64 (k : Int) ∧ k ≤ R ∧ Hid (k + bitsN m = R) ∧ m ≤ 1000000 ∧ wr = w) (fun s0 _ _ => (intOf s0).toNat)
  case atStart => exact ⟨n, 0, rfl, rfl, by omega, by show _ = _; rw [unhide HR]; omega, hn, rfl⟩
  case round =>
    obtain ⟨m, k, rfl, rfl, hk, HK, hm, rfl⟩ := hrel
    by_cases h0 : 0 < m
    · have i1 : (0 : Int) < (m : Int) := by omega
      have HK' : Hid (k + 1 + bitsN (m / 2) = R) := by
        have h := unhide HK
        show _ = _
        rw [bitsN, if_neg (by omega)] at h; omega
      have hk1 : k + 1 ≤ R := by have := unhide HK'; omega
      obtain ⟨m2, hm2⟩ : ∃ m2, m2 = m / 2 := ⟨_, rfl⟩
      have e2 : (m : Int).tdiv 2 = (m2 : Int) := by rw [Int.tdiv_eq_ediv_of_nonneg (by omega)]; omega
      rw [← hm2] at HK'
      have hm3 : m2 ≤ 1000000 ∧ m2 < m := by omega
      clear HK hm2
      go_wp2_with fail
      go_roundw
      case rel => exact ⟨m2, k + 1, by go_num, by go_num, hk1, HK', hm3.1, by first | rfl | trivial⟩
      case measure => simp [intOf]; omega
    · have i1 : ¬ (0 : Int) < (m : Int) := by omega
      have HE : Hid (k = R) := by
        have h := unhide HK
        have : m = 0 := by omega
        subst this
        rw [bitsN, if_pos rfl] at h; exact h
      clear HK
      go_wp2
      go_ret
      exact ⟨by rw [unhide HE]; rfl, rfl⟩
end Go.Proofs.Ytmgnndbcbalafaa

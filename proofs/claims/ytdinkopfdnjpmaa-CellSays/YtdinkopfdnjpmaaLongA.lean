import Derived.Test.YtdinkopfdnjpmaaCellQ
set_option linter.unusedSimpArgs false
set_option linter.unusedVariables false
namespace Go.Proofs.Ytdinkopfdnjpmaa
open Go.RowKit Go.Sort

/-- The digits of a long, as they lie in memory. -/
def DigAt (w : World) (a : Option Addr) (ds : List Int) : Prop :=
  ds = [] ∨ ∃ b off, a = some ⟨b, off, none⟩ ∧ ∀ i x, ds[i]? = some x → w.cell? ⟨b, off + i, none⟩ = some (.int .u32 x)
theorem DigAt.later {w w' : World} {a : Option Addr} {ds : List Int} (h : DigAt w a ds) (hb : Below w.heap.size w w') : DigAt w' a ds := by
  rcases h with h | ⟨b, off, ha, h⟩
  · exact .inl h
  · exact .inr ⟨b, off, ha, fun i x hx => cell_later hb (h i x hx)⟩
theorem DigAt.take {w : World} {a : Option Addr} {ds : List Int} (h : DigAt w a ds) (n : Nat) : DigAt w a (ds.take n) := by
  rcases h with h | ⟨b, off, ha, h⟩
  · subst h; exact .inl (by simp)
  · exact .inr ⟨b, off, ha, fun i x hx => h i x (by
      by_cases hi : i < n
      · rwa [List.getElem?_take_of_lt hi] at hx
      · rw [List.getElem?_take, if_neg hi] at hx; cases hx)⟩
def dig (ds : List Int) (i : Nat) : Int := (ds[i]?).getD 0

theorem digit_any (a : Option Addr) (cap : Nat) (ds : List Int) (m : Bool) (i : Nat) (w : World) (hl : ds.length ≤ 1000000000) (hi : i ≤ 1000000000) (ha : DigAt w a ds) :
    Calls Try.prog 73 #[.agg #[.bool m, .slice a ds.length cap], .int .i64 i] w fun e w' => e = .returned (.int .u32 (dig ds i)) ∧ Below w.heap.size w w' := by
  have hb0 := below_alloc (Below.refl w.heap.size w) (.cells #[.bool m, .slice a ds.length cap] 58)
  by_cases h : i < ds.length
  · obtain ⟨x, hx⟩ : ∃ x, ds[i]? = some x := ⟨_, List.getElem?_eq_getElem h⟩
    have e : dig ds i = x := by simp [dig, hx]
    rw [e]
    have ha' := ha.later hb0
    rcases ha' with e | ⟨b, off, rfl, hc⟩
    · subst e; simp at h
    have hc1 := hc i x hx
    have i1 : (i : Int) < (ds.length : Int) := by omega
    clear hx ha hc e
    go_enter Try.func73, Try.ntmps73
    go_wp2
    go_ret
    exact ⟨rfl, hb0⟩
  · have e : dig ds i = 0 := by simp [dig, List.getElem?_eq_none (Nat.le_of_not_lt h)]
    rw [e]
    have i1 : ¬ (i : Int) < (ds.length : Int) := by omega
    clear ha
    go_enter Try.func73, Try.ntmps73
    go_wp2
    go_ret
    exact ⟨rfl, hb0⟩

/-- Without the zeros at the end. -/
def trimN (ds : List Int) : Nat → Nat
  | 0 => 0
  | n + 1 => if dig ds n = 0 then trimN ds n else n + 1
theorem trimN_le (ds : List Int) : ∀ n, trimN ds n ≤ n
  | 0 => Nat.le_refl _
  | n + 1 => by rw [trimN]; split; exact Nat.le_succ_of_le (trimN_le ds n); exact Nat.le_refl _
theorem dig_some {ds : List Int} {i : Nat} {x : Int} (h : ds[i]? = some x) : dig ds i = x := by simp [dig, h]

set_option maxHeartbeats 1000000 in
theorem trimmed_any (a : Option Addr) (cap : Nat) (ds : List Int) (m : Bool) (w : World) (hl : ds.length ≤ 1000000000) (hcap : ds.length ≤ cap) (ha : DigAt w a ds) :
    Calls Try.prog 55 #[.agg #[.bool m, .slice a ds.length cap]] w fun e w' => e = .returned (.agg #[.bool (m && decide (0 < trimN ds ds.length)), .slice a (trimN ds ds.length) cap]) ∧ Below w.heap.size w w' := by
  obtain ⟨T, hT⟩ : ∃ T, Hid (T = trimN ds ds.length) := ⟨_, rfl⟩
  rw [← unhide hT]
  go_enter Try.func55, Try.ntmps55
  go_wp2_with fail
  go_loopw [3] (fun i wx => ∃ k : Nat, k ≤ ds.length ∧ i = .int .i64 k ∧ Hid (T = trimN ds k) ∧ wx = (w.alloc (.cells #[.bool m, .slice a ds.length cap] 58)).alloc (.cells #[.bool false, .slice none 0 0] 58)) (fun i wx => (intOf i).toNat)
  case atStart => exact ⟨_, Nat.le_refl _, rfl, hT, rfl⟩
  case round =>
    obtain ⟨k, hk, rfl, HT, rfl⟩ := hrel
    have hb0 := below_alloc (below_alloc (Below.refl w.heap.size w) (.cells #[.bool m, .slice a ds.length cap] 58)) (.cells #[.bool false, .slice none 0 0] 58)
    cases k with
    | zero =>
      have E : Hid (T = 0) := unhide HT
      clear HT ha
      have i3 : (0 : Int) ≤ (cap : Int) := by omega
      go_wp2
      refine bodyPost_ret (v := .agg #[.bool false, .slice a 0 cap]) (by simp [results, Try.results55, go_sem]) rfl ⟨by rw [unhide E]; simp, ?_⟩
      (repeat (first | exact Below.refl _ _ | refine Below.alloc ?_ (by simp <;> omega) _ | refine Below.drew ?_ | refine Below.setCell ?_ (by simp <;> omega) _ | refine Below.trans ?_ (Below.mono (by assumption) (by first | omega | (simp; omega) | (simp; done)))))
    | succ k =>
      have h : k < ds.length := by omega
      obtain ⟨x, hx⟩ : ∃ x, ds[k]? = some x := ⟨_, List.getElem?_eq_getElem h⟩
      have ha' := ha.later hb0
      rcases ha' with e | ⟨b, off, rfl, hc⟩
      · subst e; simp at h
      have hc1 := hc k x hx
      have i1 : (k : Int) < (ds.length : Int) := by omega
      have hd := dig_some hx
      have i2 : (0 : Int) < ((k + 1 : Nat) : Int) := by omega
      have i5 : (((k : Int) + 1) == 0) = false := by simp; omega
      have i5' : (((k + 1 : Nat) : Int) == 0) = false := by simp; omega
      have i4 : ((k + 1 : Nat) : Int) - 1 = (k : Int) := by omega
      clear hc hx
      by_cases h0 : x = 0
      · have h0' : (x == 0) = true := by simpa using h0
        have HT2 : Hid (T = trimN ds k) := by have := unhide HT; rw [trimN, if_pos (by omega)] at this; exact this
        clear HT h0 hd ha
        go_wp2
        exact ⟨⟨k, by omega, rfl, HT2, trivial⟩, by simp [intOf]⟩
      · have h0' : (x == 0) = false := by simpa using h0
        have HT2 : Hid (T = k + 1) := by have := unhide HT; rw [trimN, if_neg (by omega)] at this; exact this
        clear HT h0 hd ha
        go_wp2
        refine bodyPost_ret (v := .agg #[.bool m, .slice (some ⟨b, off, none⟩) (k + 1) cap]) (by simp [results, Try.results55, go_sem]) rfl ⟨by rw [unhide HT2]; simp, ?_⟩
        (repeat (first | exact Below.refl _ _ | refine Below.alloc ?_ (by simp <;> omega) _ | refine Below.drew ?_ | refine Below.setCell ?_ (by simp <;> omega) _ | refine Below.trans ?_ (Below.mono (by assumption) (by first | omega | (simp; omega) | (simp; done)))))
end Go.Proofs.Ytdinkopfdnjpmaa

import Derived.Test.YtcpndojkfngioaaGreatPlF
import Derived.Test.YtcpndojkfngioaaGreatKnB
set_option linter.unusedSimpArgs false
set_option linter.unusedVariables false
namespace Go.Proofs.YtcpndojkfngioaaGreat
open Go.RowKit Go.Sort

set_option maxRecDepth 100000 in
/-- isBelowZero (123). -/
theorem belowZero_any (x : Int) (w : World) : Calls Tryz.prog 123 #[.int .i64 x] w fun r w' => r = .returned (.bool (decide (x < 0))) ∧ Below w.heap.size w w' := by
  go_enter Tryz.func123, Tryz.ntmps123
  go_wp2
  go_ret
  exact ⟨rfl, Below.refl _ _⟩
def noKP (k : Int) : Bool := k != 1 && k != 2
set_option maxRecDepth 100000 in
/-- isNoKind of plan (57). -/
theorem noKindP_any (x : Int) (w : World) : Calls Tryz.prog 57 #[.int .i64 x] w fun r w' => r = .returned (.bool (noKP x)) ∧ Below w.heap.size w w' := by
  unfold noKP
  by_cases h : x = 1
  · subst h
    go_enter Tryz.func57, Tryz.ntmps57
    go_wp2
    go_ret
    exact ⟨rfl, Below.refl _ _⟩
  · have h1 : (x != 1) = true := by simpa using h
    go_enter Tryz.func57, Tryz.ntmps57
    go_wp2
    go_ret
    exact ⟨by simp [h1], Below.refl _ _⟩
theorem cellload {w : World} {b o : Nat} {x : Int} (h : w.cell? ⟨b, o, none⟩ = some (.int .i64 x)) : (Instr.loadAt 3 (.pointer (some ⟨b, o, none⟩))).run Tryz.prog w = .ok (.int .i64 x) w := by
  go_simp
theorem lstI {w : World} {a : Option Addr} {xs : List Int} (h : IntsAt w a xs) : LstI w a (xs.map fun x => .int .i64 x) := by
  rcases h with h | ⟨b, off, ha, h⟩
  · exact .inl (by rw [h]; rfl)
  · refine .inr ⟨b, off, ha, fun i v hv W hW => ?_⟩
    rw [List.getElem?_map] at hv
    obtain ⟨x, hx, rfl⟩ := Option.map_eq_some_iff.1 hv
    exact cellload (clater (h i x hx) hW)
/-- ContainsFunc of numbers, by a function that is a test. -/
theorem containsI_by (xs : List Int) (p : Int → Bool) (n : Nat) (ent : ∀ args w, (callFunc n args).run Tryz.prog w = .ok (.enter n args) w) (hp : ∀ x W, Calls Tryz.prog n #[.int .i64 x] W fun r w' => r = .returned (.bool (p x)) ∧ Below W.heap.size W w') (a : Option Addr) (c : Nat) (w : World) (hl : xs.length ≤ 140737488355328) (ha : IntsAt w a xs) :
    Calls Tryz.prog 62 #[.slice a xs.length c, .func (.func n) #[] #[]] w fun r w' => r = .returned (.bool (xs.any p)) ∧ Below w.heap.size w w' := by
  have h := containsI (xs.map fun x => .int .i64 x) (xs.map p) (by simp) a c (.func (.func n) #[] #[]) w (by simpa using hl) (lstI ha) ⟨n, #[], rfl, ent, fun i v bb W hv hb _ => by
    rw [List.getElem?_map] at hv hb
    obtain ⟨x, hx, rfl⟩ := Option.map_eq_some_iff.1 hv
    rw [hx] at hb
    injection hb with hb
    subst hb
    exact hp x W⟩
  rw [List.length_map, List.any_map] at h
  exact h
def colsB (xs : List Int) : Bool := !xs.any (fun x => decide (x < 0)) && decide xs.Nodup
set_option maxRecDepth 100000 in
/-- areColumns (102). -/
theorem areCols_any (xs : List Int) (a : Option Addr) (c : Nat) (w : World) (hl : xs.length ≤ 140737488355328) (hx : ∀ x ∈ xs, In64 x) (ha : IntsAt w a xs) :
    Calls Tryz.prog 102 #[.slice a xs.length c] w fun r w' => r = .returned (.bool (colsB xs)) ∧ Below w.heap.size w w' := by
  have HC := hide (containsI_by xs (fun x => decide (x < 0)) 123 (fun args w => by kernel_rfl) belowZero_any a c w hl ha)
  have HU := hide (fun (W : World) (hW : Below w.heap.size w W) => unlikeI_any xs a c W hl hx (ha.later hW))
  unfold colsB
  generalize decide xs.Nodup = nd at *
  cases hn : xs.any (fun x => decide (x < 0))
  · rw [hn] at HC
    clear hn ha hx
    go_enter Tryz.func102, Tryz.ntmps102
    go_wp2_with (first
      | (go_at_call 62; refine (unhide HC).mono ?_; rintro r w1 ⟨rfl, hb1⟩)
      | (go_at_call 124; refine (unhide HU _ hb1).mono ?_; rintro r w2 ⟨rfl, hb2⟩))
    go_ret
    exact ⟨rfl, below_step hb1 hb2⟩
  · rw [hn] at HC
    clear hn ha hx
    go_enter Tryz.func102, Tryz.ntmps102
    go_wp2_with (go_at_call 62; refine (unhide HC).mono ?_; rintro r w1 ⟨rfl, hb1⟩)
    go_ret
    exact ⟨rfl, hb1⟩
/-- No aggregate. -/
def noAgg (x : Int × Int) : Bool := decide (x.1 < 1) || decide (6 < x.1) || decide (x.2 < 0) || (x.1 == 1 && x.2 != 0)
set_option maxRecDepth 100000 in
/-- isNoAgg (103). -/
theorem noAgg_any (f c : Int) (w : World) : Calls Tryz.prog 103 #[.agg #[.int .i64 f, .int .i64 c]] w fun r w' => r = .returned (.bool (noAgg (f, c))) ∧ Below w.heap.size w w' := by
  have HB := hide (below_alloc (Below.refl _ w) (.cells #[.int .i64 f, .int .i64 c] 100))
  obtain ⟨R, hR⟩ : ∃ R, R = noAgg (f, c) := ⟨_, rfl⟩
  rw [← hR]
  unfold noAgg at hR
  have HR := hide hR
  clear hR
  by_cases h1 : f < 1
  · have HZ : Hid (R = true) := by rw [unhide HR]; show _ = _; simp [h1]
    go_enter Tryz.func103, Tryz.ntmps103
    go_wp2
    go_ret
    exact ⟨by rw [unhide HZ]; rfl, unhide HB⟩
  by_cases h2 : 6 < f
  · have HZ : Hid (R = true) := by rw [unhide HR]; show _ = _; simp [h2]
    go_enter Tryz.func103, Tryz.ntmps103
    go_wp2
    go_ret
    exact ⟨by rw [unhide HZ]; rfl, unhide HB⟩
  by_cases h3 : c < 0
  · have HZ : Hid (R = true) := by rw [unhide HR]; show _ = _; simp [h3]
    go_enter Tryz.func103, Tryz.ntmps103
    go_wp2
    go_ret
    exact ⟨by rw [unhide HZ]; rfl, unhide HB⟩
  by_cases h4 : f = 1
  · subst h4
    have HZ : Hid (R = (c != 0)) := by rw [unhide HR]; show _ = _; simp [h3]
    go_enter Tryz.func103, Tryz.ntmps103
    go_wp2
    go_ret
    exact ⟨by rw [unhide HZ]; rfl, unhide HB⟩
  · have h5 : (f == 1) = false := by simpa using h4
    have HZ : Hid (R = false) := by rw [unhide HR, h5]; show _ = _; simp [h1, h2, h3]
    go_enter Tryz.func103, Tryz.ntmps103
    go_wp2
    go_ret
    exact ⟨by rw [unhide HZ]; rfl, unhide HB⟩
/-- A window function. -/
def winB (fn col n : Int) : Bool := if fn == 1 || fn == 2 || fn == 3 then col == 0 && n == 0 else if fn == 4 || fn == 5 then decide (0 ≤ col) else if fn == 6 then decide (0 ≤ col) && decide (0 ≤ n) else false
set_option maxRecDepth 100000 in
/-- isWindow (104). -/
theorem isWin_any (fn col n : Int) (w : World) : Calls Tryz.prog 104 #[.int .i64 fn, .int .i64 col, .int .i64 n] w fun r w' => r = .returned (.bool (winB fn col n)) ∧ Below w.heap.size w w' := by
  by_cases h1 : fn = 1 ∨ fn = 2 ∨ fn = 3
  · have e : winB fn col n = (col == 0 && n == 0) := by rcases h1 with rfl | rfl | rfl <;> rfl
    rw [e]
    cases hc : (col == 0)
    · have hc' : (col == 0) = false := hc
      rcases h1 with rfl | rfl | rfl
      all_goals
        go_enter Tryz.func104, Tryz.ntmps104
        go_wp2
        go_ret
        exact ⟨rfl, Below.refl _ _⟩
    · rcases h1 with rfl | rfl | rfl
      all_goals
        go_enter Tryz.func104, Tryz.ntmps104
        go_wp2
        go_ret
        exact ⟨rfl, Below.refl _ _⟩
  by_cases h2 : fn = 4 ∨ fn = 5
  · have e : winB fn col n = decide (0 ≤ col) := by rcases h2 with rfl | rfl <;> rfl
    rw [e]
    rcases h2 with rfl | rfl
    all_goals
      go_enter Tryz.func104, Tryz.ntmps104
      go_wp2
      go_ret
      exact ⟨rfl, Below.refl _ _⟩
  by_cases h3 : fn = 6
  · subst h3
    have e : winB 6 col n = (decide (0 ≤ col) && decide (0 ≤ n)) := rfl
    rw [e]
    by_cases hc : 0 ≤ col
    · go_enter Tryz.func104, Tryz.ntmps104
      go_wp2
      go_ret
      exact ⟨by simp [hc], Below.refl _ _⟩
    · go_enter Tryz.func104, Tryz.ntmps104
      go_wp2
      go_ret
      exact ⟨by have : decide (0 ≤ col) = false := (by simpa using hc); rw [this]; rfl, Below.refl _ _⟩
  · have a1 : (fn == 1) = false := by simp; omega
    have a2 : (fn == 2) = false := by simp; omega
    have a3 : (fn == 3) = false := by simp; omega
    have a4 : (fn == 4) = false := by simp; omega
    have a5 : (fn == 5) = false := by simp; omega
    have a6 : (fn == 6) = false := by simp; omega
    have e : winB fn col n = false := by unfold winB; rw [a1, a2, a3, a4, a5, a6]; rfl
    rw [e]
    clear h1 h2 h3
    go_enter Tryz.func104, Tryz.ntmps104
    go_wp2
    go_ret
    exact ⟨rfl, Below.refl _ _⟩
end Go.Proofs.YtcpndojkfngioaaGreat

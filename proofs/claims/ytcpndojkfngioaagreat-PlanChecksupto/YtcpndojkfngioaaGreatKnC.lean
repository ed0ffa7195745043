import Derived.Test.YtcpndojkfngioaaGreatKnB
import Derived.Test.YtcpndojkfngioaaGreatRmM
set_option linter.unusedSimpArgs false
set_option linter.unusedVariables false
set_option maxRecDepth 100000
namespace Go.Proofs.YtcpndojkfngioaaGreat
open Go.RowKit Go.Sort

set_option maxHeartbeats 400000 in
set_option maxRecDepth 100000 in
/-- kindOf's closure (69). -/
theorem rfit_any (q : Int) (a : Option Addr) (c : Nat) (l : List Int) (w : World) (hl : l.length ≤ 140737488355328) (ha : IntsAt w a l) :
    Calls Tryz.prog 120 #[.int .i64 q, .slice a l.length c] w fun r w' => r = .returned (.bool (fitB q l)) ∧ Below w.heap.size w w' := by
  have HA := hide ha
  clear ha
  have HR : Hid (fitB q l = (l.drop 0).all fun p => p == q || p == 0) := rfl
  generalize fitB q l = R at *
  go_enter Tryz.func120, Tryz.ntmps120
  go_wp2_with fail
  go_loopw [9] (fun i wr => ∃ k : Nat, k ≤ l.length ∧ i = .int .i64 (k : Int) ∧ Hid (R = (l.drop k).all fun p => p == q || p == 0) ∧ Below w.heap.size w wr) (fun i _ => l.length - (intOf i).toNat)
  case atStart => exact ⟨0, Nat.zero_le _, rfl, unhide HR, Below.refl _ _⟩
  case round =>
    obtain ⟨k, hk, rfl, HN, hb⟩ := hrel
    have HB := hide hb
    by_cases hlt : k < l.length
    · have h9 : (k : Int) < (l.length : Int) := by omega
      obtain ⟨x, hx⟩ : ∃ x, l[k]? = some x := ⟨_, List.getElem?_eq_getElem hlt⟩
      obtain ⟨vb, vo, rfl, d0⟩ := ((unhide HA).later hb).get hx
      rw [all_dropK hx] at HN
      clear hx hb HR
      by_cases h1 : x = q
      · subst h1
        have HN2 : Hid (R = (l.drop (k + 1)).all fun p => p == x || p == 0) := by have := unhide HN; show _ = _; simpa using this
        clear HN
        go_wp2
        exact ⟨⟨k + 1, by omega, by go_num, unhide HN2, unhide HB⟩, by simp [intOf]; omega⟩
      · have e1 : (x != q) = true := by simpa using h1
        have e2 : (x == q) = false := by simpa using h1
        rw [e2, Bool.false_or] at HN
        by_cases h2 : x = 0
        · subst h2
          have HN2 : Hid (R = (l.drop (k + 1)).all fun p => p == q || p == 0) := by have := unhide HN; show _ = _; simpa using this
          clear HN h1 e2
          go_wp2
          exact ⟨⟨k + 1, by omega, by go_num, unhide HN2, unhide HB⟩, by simp [intOf]; omega⟩
        · have e3 : (x != 0) = true := by simpa using h2
          have e4 : (x == 0) = false := by simpa using h2
          rw [e4, Bool.false_and] at HN
          clear h1 h2 e2 e4
          go_wp2
          go_ret
          exact ⟨by rw [unhide HN]; rfl, unhide HB⟩
    · have h9 : ¬ (k : Int) < (l.length : Int) := by omega
      rw [List.drop_eq_nil_of_le (by omega), List.all_nil] at HN
      clear hb
      go_wp2
      go_ret
      exact ⟨by rw [unhide HN]; rfl, unhide HB⟩
def oneI (a b : Int) : Int × Bool := (max a b, (a == b || a == 0) || b == 0)
set_option maxHeartbeats 400000 in
/-- kindOf's other closure (70). -/
theorem rone_any (a b : Int) (w : World) : Calls Tryz.prog 121 #[.int .i64 a, .int .i64 b] w fun r w' => r = .returned (.tuple #[.int .i64 (oneI a b).1, .bool (oneI a b).2]) ∧ Below w.heap.size w w' := by
  have hm : (oneI a b).1 = if a < b then b else a := by show max a b = _; rw [max_if]
  by_cases h1 : a = b
  · subst h1
    have h2 : oneI a a = (a, true) := by unfold oneI; simp
    rw [h2]
    clear hm h2
    go_enter Tryz.func121, Tryz.ntmps121
    go_wp2
    refine bodyPost_ret (v := .tuple #[.int .i64 a, .bool true]) (by simp [results, Tryz.results121, go_sem]) rfl ⟨rfl, by first | exact Below.refl _ _ | exact below_alloc (Below.refl _ _) _⟩
  · have e1 : (a == b) = false := by simpa using h1
    by_cases h2 : a = 0
    · subst h2
      have h3 : (oneI 0 b).2 = true := by unfold oneI; simp
      rw [hm, h3]
      clear hm h3
      by_cases hab : 0 < b
      · rw [if_pos hab]
        go_enter Tryz.func121, Tryz.ntmps121
        go_wp2
        refine bodyPost_ret (v := .tuple #[.int .i64 b, .bool true]) (by simp [results, Tryz.results121, go_sem]) rfl ⟨rfl, by first | exact Below.refl _ _ | exact below_alloc (Below.refl _ _) _⟩
      · rw [if_neg hab]
        go_enter Tryz.func121, Tryz.ntmps121
        go_wp2
        refine bodyPost_ret (v := .tuple #[.int .i64 0, .bool true]) (by simp [results, Tryz.results121, go_sem]) rfl ⟨rfl, by first | exact Below.refl _ _ | exact below_alloc (Below.refl _ _) _⟩
    · have e2 : (a == 0) = false := by simpa using h2
      have h3 : (oneI a b).2 = (b == 0) := by unfold oneI; rw [e1, e2]; rfl
      rw [hm, h3]
      clear hm h3
      by_cases hab : a < b
      · rw [if_pos hab]
        go_enter Tryz.func121, Tryz.ntmps121
        go_wp2
        refine bodyPost_ret (v := .tuple #[.int .i64 b, .bool (b == 0)]) (by simp [results, Tryz.results121, go_sem]) rfl ⟨rfl, by first | exact Below.refl _ _ | exact below_alloc (Below.refl _ _) _⟩
      · rw [if_neg hab]
        go_enter Tryz.func121, Tryz.ntmps121
        go_wp2
        refine bodyPost_ret (v := .tuple #[.int .i64 a, .bool (b == 0)]) (by simp [results, Tryz.results121, go_sem]) rfl ⟨rfl, by first | exact Below.refl _ _ | exact below_alloc (Below.refl _ _) _⟩
theorem one_comm (a b : Int) (ha : 0 ≤ a) (hb : 0 ≤ b) : (oneI a b).2 = (comm a b).2 ∧ ((comm a b).2 = true → (oneI a b).1 = (comm a b).1) := by
  unfold oneI comm
  by_cases h1 : a = 0
  · subst h1
    simp
    omega
  · have e1 : (a == 0) = false := by simpa using h1
    rw [e1]
    simp only [Bool.false_eq_true, if_false, Bool.or_false]
    by_cases h2 : a = b
    · subst h2; simp
    · have e2 : (a == b) = false := by simpa using h2
      rw [e2]
      simp
      intro h3
      omega
/-- The document's way. -/
def kOfR (op : Int) (l : List Int) : Int × Bool :=
  if op == 5 then (1, true) else if op == 6 then (1, fitB 2 l) else if op == 18 then (2, fitB 2 l)
  else if decide (12 ≤ op) && decide (op ≤ 17) then (1, (oneI (l.getD 0 0) (l.getD 1 0)).2)
  else if op == 21 then ((oneI (l.getD 1 0) (l.getD 2 0)).1, (oneI (l.getD 1 0) (l.getD 2 0)).2 && fitB 1 [l.getD 0 0])
  else (1, fitB 1 l)
theorem kOfR_eq (op : Int) (l : List Int) (h : ∀ x ∈ l, 0 ≤ x) (hl : (l.length : Int) = arI op) : (kOfR op l).2 = (kOf op l).2 ∧ ((kOf op l).2 = true → (kOfR op l).1 = (kOf op l).1) := by
  have hd : ∀ i, 0 ≤ l.getD i 0 := fun i => by
    rw [List.getD_eq_getElem?_getD]
    cases hi : l[i]? with
    | none => exact Int.le_refl _
    | some x => exact h x (List.mem_of_getElem? hi)
  unfold kOfR kOf
  by_cases h5 : (op == 5) = true
  · rw [if_pos h5, if_pos h5]; exact ⟨rfl, fun _ => rfl⟩
  · rw [if_neg h5, if_neg h5]
    by_cases h6 : (op == 6) = true
    · rw [if_pos h6, if_pos h6]; exact ⟨rfl, fun _ => rfl⟩
    · rw [if_neg h6, if_neg h6]
      by_cases h18 : (op == 18) = true
      · rw [if_pos h18, if_pos h18]; exact ⟨rfl, fun _ => rfl⟩
      · rw [if_neg h18, if_neg h18]
        by_cases hc : (decide (12 ≤ op) && decide (op ≤ 17)) = true
        · rw [if_pos hc, if_pos hc]
          exact ⟨(one_comm _ _ (hd 0) (hd 1)).1, fun _ => rfl⟩
        · rw [if_neg hc, if_neg hc]
          by_cases h21 : (op == 21) = true
          · rw [if_pos h21, if_pos h21]
            have h21' : op = 21 := by simpa using h21
            have hl3 : l.length = 3 := by rw [h21', show arI 21 = 3 by decide] at hl; omega
            match l, hl3 with
            | [p, q, r], _ =>
              have := one_comm q r (hd 1) (hd 2)
              refine ⟨?_, fun hh => ?_⟩
              · show ((oneI q r).2 && fitB 1 [p]) = ((comm q r).2 && fitB 1 [p])
                rw [this.1]
              · have hh : ((comm q r).2 && fitB 1 [p]) = true := hh
                rw [Bool.and_eq_true] at hh
                exact this.2 hh.1
          · rw [if_neg h21, if_neg h21]; exact ⟨rfl, fun _ => rfl⟩
theorem clean_nat (v : Val) : 0 ≤ (cleanV v).k := by
  unfold cleanV
  split
  · show (0 : Int) ≤ 1; decide
  · split
    · show (0 : Int) ≤ 2; decide
    · exact Int.le_refl _
mutual
theorem kE_nat (ks : List Int) (hks : ∀ k ∈ ks, 0 ≤ k) : ∀ (e : Ex) {y : Int}, kE ks e = some y → 0 ≤ y
  | .mk op n v l, y, h => by
    rw [kE] at h
    split at h
    · injection h with h
      rw [← h, List.getD_eq_getElem?_getD]
      cases hi : ks[n.toNat]? with
      | none => exact Int.le_refl _
      | some x => exact hks x (List.mem_of_getElem? hi)
    · split at h
      · injection h with h
        rw [← h]
        exact clean_nat v
      · cases hl : kL ks l with
        | none => rw [hl] at h; cases h
        | some d =>
          rw [hl] at h
          have hd := kL_nat ks hks l hl
          simp only at h
          split at h
          · injection h with h
            rw [← h]
            have hdd : ∀ i, 0 ≤ d.getD i 0 := fun i => by
              rw [List.getD_eq_getElem?_getD]
              cases hi : d[i]? with
              | none => exact Int.le_refl _
              | some x => exact hd x (List.mem_of_getElem? hi)
            have hc : ∀ p q : Int, 0 ≤ p → 0 ≤ q → 0 ≤ (comm p q).1 := fun p q hp hq => by unfold comm; split <;> assumption
            unfold kOf
            split
            · show (0 : Int) ≤ 1; decide
            · split
              · show (0 : Int) ≤ 1; decide
              · split
                · show (0 : Int) ≤ 2; decide
                · split
                  · show (0 : Int) ≤ 1; decide
                  · split
                    · exact hc _ _ (hdd 1) (hdd 2)
                    · show (0 : Int) ≤ 1; decide
          · cases h
theorem kL_nat (ks : List Int) (hks : ∀ k ∈ ks, 0 ≤ k) : ∀ (l : List Ex) {d : List Int}, kL ks l = some d → ∀ x ∈ d, 0 ≤ x
  | [], d, h, x, hx => by rw [kL] at h; injection h with h; subst h; cases hx
  | e :: l, d, h, x, hx => by
    rw [kL] at h
    cases he : kE ks e with
    | none => rw [he] at h; cases h
    | some k =>
      rw [he] at h
      cases hl : kL ks l with
      | none => rw [hl] at h; cases h
      | some d' =>
        rw [hl] at h
        injection h with h
        subst h
        rcases List.mem_cons.1 hx with rfl | hx
        · exact kE_nat ks hks e he
        · exact kL_nat ks hks l hl x hx
end
end Go.Proofs.YtcpndojkfngioaaGreat

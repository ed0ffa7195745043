import Derived.Test.YtfnacpkodfhfoadExG
import Derived.Test.YtfnacpkodfhfoadExI
set_option linter.unusedSimpArgs false
set_option linter.unusedVariables false
namespace Go.Proofs.Ytfnacpkodfhfoad
open Go.RowKit Go.Sort

def turnI (op : Int) : Int := if op == 14 then 16 else if op == 15 then 17 else if op == 16 then 14 else if op == 17 then 15 else op
set_option maxHeartbeats 400000 in
/-- turned (64). -/
theorem turned_any (op : Int) (w : World) : Calls Try.prog 64 #[.int .i64 op] w fun r w' => r = .returned (.int .i64 (turnI op)) ∧ Below w.heap.size w w' := by
  by_cases h1 : op = 14
  · subst h1
    go_enter Try.func64, Try.ntmps64
    go_wp2
    go_ret
    exact ⟨rfl, by first | exact Below.refl _ _ | exact below_alloc (Below.refl _ _) _⟩
  by_cases h2 : op = 15
  · subst h2
    go_enter Try.func64, Try.ntmps64
    go_wp2
    go_ret
    exact ⟨rfl, by first | exact Below.refl _ _ | exact below_alloc (Below.refl _ _) _⟩
  by_cases h3 : op = 16
  · subst h3
    go_enter Try.func64, Try.ntmps64
    go_wp2
    go_ret
    exact ⟨rfl, by first | exact Below.refl _ _ | exact below_alloc (Below.refl _ _) _⟩
  by_cases h4 : op = 17
  · subst h4
    go_enter Try.func64, Try.ntmps64
    go_wp2
    go_ret
    exact ⟨rfl, by first | exact Below.refl _ _ | exact below_alloc (Below.refl _ _) _⟩
  have hk : turnI op = op := by
    unfold turnI
    rw [if_neg (by simpa using h1), if_neg (by simpa using h2), if_neg (by simpa using h3), if_neg (by simpa using h4)]
  rw [hk]
  clear hk
  go_enter Try.func64, Try.ntmps64
  go_wp2
  go_ret
  exact ⟨rfl, by first | exact Below.refl _ _ | exact below_alloc (Below.refl _ _) _⟩
def outB (op l g : Int) : Bool := if op == 12 then decide (0 < l) || decide (g < 0) else if op == 13 then l == 0 && g == 0 else if op == 14 then decide (0 ≤ l) else if op == 15 then decide (0 < l) else if op == 16 then decide (g ≤ 0) else decide (g < 0)
set_option maxHeartbeats 1000000 in
/-- isOutside (65). -/
theorem outside_any (op l g : Int) (w : World) : Calls Try.prog 65 #[.int .i64 op, .int .i64 l, .int .i64 g] w fun r w' => r = .returned (.bool (outB op l g)) ∧ Below w.heap.size w w' := by
  by_cases h1 : op = 12
  · subst h1
    have hk : outB 12 l g = (decide (0 < l) || decide (g < 0)) := rfl
    rw [hk]
    clear hk
    by_cases hl : 0 < l
    · have e1 : decide (0 < l) = true := by simpa using hl
      rw [e1, Bool.true_or]
      clear e1
      go_enter Try.func65, Try.ntmps65
      go_wp2
      go_ret
      exact ⟨rfl, by first | exact Below.refl _ _ | exact below_alloc (Below.refl _ _) _⟩
    · have e1 : decide (0 < l) = false := by simpa using hl
      rw [e1, Bool.false_or]
      clear e1
      go_enter Try.func65, Try.ntmps65
      go_wp2
      go_ret
      exact ⟨rfl, by first | exact Below.refl _ _ | exact below_alloc (Below.refl _ _) _⟩
  by_cases h2 : op = 13
  · subst h2
    have hk : outB 13 l g = (l == 0 && g == 0) := rfl
    rw [hk]
    clear hk
    by_cases hl : l = 0
    · subst hl
      simp only [beq_self_eq_true, Bool.true_and]
      go_enter Try.func65, Try.ntmps65
      go_wp2
      go_ret
      exact ⟨rfl, by first | exact Below.refl _ _ | exact below_alloc (Below.refl _ _) _⟩
    · have e1 : (l == 0) = false := by simpa using hl
      rw [e1, Bool.false_and]
      clear e1
      go_enter Try.func65, Try.ntmps65
      go_wp2
      go_ret
      exact ⟨rfl, by first | exact Below.refl _ _ | exact below_alloc (Below.refl _ _) _⟩
  by_cases h3 : op = 14
  · subst h3
    have hk : outB 14 l g = decide (0 ≤ l) := rfl
    rw [hk]
    clear hk
    go_enter Try.func65, Try.ntmps65
    go_wp2
    go_ret
    exact ⟨rfl, by first | exact Below.refl _ _ | exact below_alloc (Below.refl _ _) _⟩
  by_cases h4 : op = 15
  · subst h4
    have hk : outB 15 l g = decide (0 < l) := rfl
    rw [hk]
    clear hk
    go_enter Try.func65, Try.ntmps65
    go_wp2
    go_ret
    exact ⟨rfl, by first | exact Below.refl _ _ | exact below_alloc (Below.refl _ _) _⟩
  by_cases h5 : op = 16
  · subst h5
    have hk : outB 16 l g = decide (g ≤ 0) := rfl
    rw [hk]
    clear hk
    go_enter Try.func65, Try.ntmps65
    go_wp2
    go_ret
    exact ⟨rfl, by first | exact Below.refl _ _ | exact below_alloc (Below.refl _ _) _⟩
  have hk : outB op l g = decide (g < 0) := by
    unfold outB
    rw [if_neg (by simpa using h1), if_neg (by simpa using h2), if_neg (by simpa using h3), if_neg (by simpa using h4), if_neg (by simpa using h5)]
  rw [hk]
  clear hk
  go_enter Try.func65, Try.ntmps65
  go_wp2
  go_ret
  exact ⟨rfl, by first | exact Below.refl _ _ | exact below_alloc (Below.refl _ _) _⟩
theorem field_k (k n : Int) (s : ByteArray) (W : World) : Sem.run Try.prog (Instr.field 23 (.agg #[.int .i64 k, .int .i64 n, .string s]) 0) W = .ok (.int .i64 k) W := by kernel_rfl
def nulV (v : Val) : Bool := (cleanV v).k == 0
set_option maxHeartbeats 400000 in
set_option maxRecDepth 100000 in
/-- isNull (37). -/
theorem segnull_any (v : Val) (w : World) : Calls Try.prog 37 #[v.v] w fun r w' => r = .returned (.bool (nulV v)) ∧ Below w.heap.size w w' := by
  have HC := hide (fun W => clean_any v W)
  have HB0 := hide (below_alloc (Below.refl _ w) (.cells #[.int .i64 v.k, .int .i64 v.n, .string v.s] 23))
  unfold nulV
  rw [Val.open_, Val.open_] at HC
  rw [Val.open_]
  generalize cleanV v = u at *
  have hfk := field_k u.k u.n u.s
  go_enter Try.func37, Try.ntmps37
  go_wp2_with (go_at_call 50; refine (unhide HC _).mono ?_; rintro r w1 ⟨rfl, hb1⟩)
  go_ret
  exact ⟨rfl, below_step (unhide HB0) hb1⟩
def zeroE' : Ex := .mk 0 0 .null []
def nulcol (e : Ex) : Bool := e.op == 5 && (e.args.headD zeroE').op == 1
set_option maxHeartbeats 400000 in
set_option maxRecDepth 100000 in
/-- isNullOfColumn (36). -/
theorem nulcol_any (e : Ex) (hs : e.op = 5 → e.args.length = 1) (a : Option Addr) (c : Nat) (w : World) (ha : Ex.all w a e.args) : Calls Try.prog 36 #[e.val a c] w fun r w' => r = .returned (.bool (nulcol e)) ∧ Below w.heap.size w w' := by
  have hBa := below_alloc (Below.refl _ w) (.cells #[.int .i64 e.op, .int .i64 e.n, .int .i64 e.v.k, .int .i64 e.v.n, .string e.v.s, .slice a e.args.length c] 26)
  rw [Ex.val_open]
  by_cases h5 : e.op = 5
  · have hl := hs h5
    obtain ⟨x, hx⟩ : ∃ x, e.args = [x] := by
      match e.args, hl with
      | [x], _ => exact ⟨x, rfl⟩
    have hk : nulcol e = (x.op == 1) := by unfold nulcol; rw [h5, hx]; rfl
    rw [hx] at ha
    rw [hk, h5, hx]
    rw [h5, hx] at hBa
    obtain ⟨vb, vo, rfl, hat⟩ := Ex.all_get (Ex.all_later _ ha hBa) (i := 0) (e := x) rfl
    obtain ⟨a', c', ⟨d0, d1, d2, d3, d4, d5⟩, hal⟩ := Ex.at_open hat
    rw [Nat.zero_mul, Nat.add_zero] at d0 d1 d2 d3 d4 d5
    clear hal hat hk hl hs ha hx
    have HB := hide hBa
    rw [List.length_cons, List.length_nil] at d0 d1 d2 d3 d4 d5 HB ⊢
    clear hBa
    go_enter Try.func36, Try.ntmps36
    go_wp2
    go_ret
    exact ⟨rfl, unhide HB⟩
  · have e1 : (e.op == 5) = false := by simpa using h5
    have hk : nulcol e = false := by unfold nulcol; rw [e1]; rfl
    rw [hk]
    clear hk hs
    go_enter Try.func36, Try.ntmps36
    go_wp2
    go_ret
    exact ⟨rfl, hBa⟩
end Go.Proofs.Ytfnacpkodfhfoad
set_option linter.unusedSimpArgs false
set_option linter.unusedVariables false
namespace Go.Proofs.Ytfnacpkodfhfoad
open Go.RowKit Go.Sort

/-- These columns are null. -/
def Nulled (row : List Val) (cols : List Int) : Prop := ∀ (k : Nat) x, ((k : Int)) ∈ cols → row[k]? = some x → x = .null
theorem one_arg {e : Ex} (h : goodE e) (ho : arI e.op = 1) : ∃ x, e.args = [x] := by
  have hl := sound_len (good_open h).1
  rw [ho] at hl
  match he : e.args, hl with
  | [x], _ => exact ⟨x, rfl⟩
  | [], hl => simp at hl
  | _ :: _ :: _, hl => simp at hl; omega
theorem ar_cases (op : Int) : (arI op = 0 ∧ (op = 1 ∨ op = 2)) ∨ (arI op = 1 ∧ 3 ≤ op ∧ op ≤ 6) ∨ (arI op = 2 ∧ 7 ≤ op ∧ op ≤ 20) ∨ (arI op = 3 ∧ op = 21) ∨ arI op = -1 := by
  unfold arI
  by_cases h1 : op = 1
  · subst h1; exact .inl ⟨rfl, .inl rfl⟩
  by_cases h2 : op = 2
  · subst h2; exact .inl ⟨rfl, .inr rfl⟩
  have e1 : (op == 1) = false := by simpa using h1
  have e2 : (op == 2) = false := by simpa using h2
  rw [e1, e2]
  by_cases h3 : 3 ≤ op ∧ op ≤ 6
  · refine .inr (.inl ⟨?_, h3.1, h3.2⟩)
    simp [h3.1, h3.2]
  by_cases h4 : 7 ≤ op ∧ op ≤ 20
  · refine .inr (.inr (.inl ⟨?_, h4.1, h4.2⟩))
    have : ¬ op ≤ 6 := by omega
    simp [h4.1, h4.2, this]
  have g1 : (decide (3 ≤ op) && decide (op ≤ 6)) = false := by simp; omega
  have g2 : (decide (7 ≤ op) && decide (op ≤ 20)) = false := by simp; omega
  rw [g1, g2]
  by_cases h5 : op = 21
  · subst h5; exact .inr (.inr (.inr (.inl ⟨rfl, rfl⟩)))
  · have e5 : (op == 21) = false := by simpa using h5
    rw [e5]
    exact .inr (.inr (.inr (.inr rfl)))
theorem one_null {op : Int} (h5 : (op == 5) = false) : oneV op .null = .null := by
  unfold oneV
  rw [h5]
  cases (op == 3) <;> cases (op == 4) <;> rfl
theorem two_null {op : Int} (h : op ≤ 18) {x y : Val} (hxy : x = .null ∨ y = .null) : twoV op x y = .null := by
  unfold twoV
  split
  · unfold reckV
    rcases hxy with rfl | rfl
    · rfl
    · have : ((Val.null).k == 1) = false := rfl
      rw [this, Bool.and_false]; rfl
  · split
    · unfold testV
      rcases hxy with rfl | rfl
      · rfl
      · have : nullB Val.null = true := rfl
        rw [this, Bool.or_true]; rfl
    · rename_i h1 h2
      have e : (op == 18) = true := by simp at h1 h2; simp; omega
      rw [e]
      simp only [if_true]
      unfold catV
      rcases hxy with rfl | rfl
      · rfl
      · have : ((Val.null).k == 2) = false := rfl
        rw [this, Bool.and_false, Bool.false_and]; rfl
theorem an_null {row : List Val} {cols : List Int} (hn : Nulled row cols) : ∀ (k : Nat) (e : Ex), e.size ≤ k → goodE e → anE cols e = true → evalE row e = .null
  | 0, e, hs, _, _ => by rw [Ex.size_mk] at hs; omega
  | k + 1, e, hs, hg, ha => by
    rw [anE_eq] at ha
    rw [evalE_eq]
    have hl := sound_len (good_open hg).1
    have IH := fun (i : Nat) (x : Ex) (hx : e.args[i]? = some x) => an_null hn k x (by have := Ex.size_arg hx; omega) (good_arg hg hx)
    rcases ar_cases e.op with ⟨h0, hop⟩ | ⟨h0, h3, h6⟩ | ⟨h0, h7, h20⟩ | ⟨h0, h21⟩ | h0
    · have hnil : e.args = [] := List.eq_nil_of_length_eq_zero (by omega)
      rw [hnil, evalL]
      rcases no_args hg hnil with ⟨h1, hn0⟩ | h2
      · rw [h1] at ha ⊢
        simp only [beq_self_eq_true, if_true] at ha
        show (if (1 : Int) == 2 then cleanV e.v else if decide ((row.length : Int) ≤ e.n) then Val.null else cleanV (row.getD e.n.toNat .null)) = _
        have e12 : ((1 : Int) == 2) = false := rfl
        rw [e12]
        simp only [Bool.false_eq_true, if_false]
        by_cases hlen : (row.length : Int) ≤ e.n
        · simp [hlen]
        · obtain ⟨x, hx⟩ : ∃ x, row[e.n.toNat]? = some x := ⟨_, List.getElem?_eq_getElem (by omega)⟩
          have hmem : ((e.n.toNat : Nat) : Int) ∈ cols := by
            obtain ⟨c, hc, he⟩ := List.any_eq_true.1 ha
            have : e.n = c := by simpa using he
            rw [show ((e.n.toNat : Nat) : Int) = c by omega]; exact hc
          have := hn e.n.toNat x hmem hx
          rw [List.getD_eq_getElem?_getD, hx, this]
          simp [hlen]
          rfl
      · rw [h2] at ha ⊢
        have e21 : ((2 : Int) == 1) = false := rfl
        rw [e21] at ha
        simp only [Bool.false_eq_true, if_false, beq_self_eq_true, if_true] at ha
        show (if (2 : Int) == 2 then cleanV e.v else if decide ((row.length : Int) ≤ e.n) then Val.null else cleanV (row.getD e.n.toNat .null)) = _
        simp only [beq_self_eq_true, if_true]
        have hz : (cleanV e.v).k = 0 := by simpa using ha
        unfold cleanV at hz ⊢
        split at hz
        · cases hz
        · split at hz
          · cases hz
          · rename_i q1 q2
            rw [if_neg q1, if_neg q2]
    · obtain ⟨x, hx⟩ := one_arg hg h0
      have e1 : (e.op == 1) = false := by simp; omega
      have e2 : (e.op == 2) = false := by simp; omega
      rw [e1, e2] at ha
      simp only [Bool.false_eq_true, if_false] at ha
      have e19 : (e.op == 19) = false := by simp; omega
      have e20 : (e.op == 20) = false := by simp; omega
      have e21 : (e.op == 21) = false := by simp; omega
      rw [e19, e20, e21] at ha
      cases h5 : (e.op == 5)
      · rw [h5, hx] at ha
        have hax : anE cols x = true := by simpa using ha
        rw [hx, evalL, evalL, IH 0 x (by rw [hx]; rfl) hax]
        exact one_null h5
      · rw [h5] at ha; simp at ha
    · obtain ⟨x, y, hxy⟩ := two_args hg h0
      have e1 : (e.op == 1) = false := by simp; omega
      have e2 : (e.op == 2) = false := by simp; omega
      have e5 : (e.op == 5) = false := by simp; omega
      have e21 : (e.op == 21) = false := by simp; omega
      rw [e1, e2, e5, e21] at ha
      cases h19 : (e.op == 19)
      · cases h20' : (e.op == 20)
        · rw [h19, h20', hxy] at ha
          have hax : anE cols x = true ∨ anE cols y = true := by simpa using ha
          have hle : e.op ≤ 18 := by simp at h19 h20'; omega
          rw [hxy, evalL, evalL, evalL]
          show twoV e.op (evalE row x) (evalE row y) = .null
          refine two_null hle ?_
          rcases hax with h | h
          · exact .inl (IH 0 x (by rw [hxy]; rfl) h)
          · exact .inr (IH 1 y (by rw [hxy]; rfl) h)
        · rw [h20'] at ha; simp at ha
      · rw [h19] at ha; simp at ha
    · rw [h21] at ha
      have e1 : ((21 : Int) == 1) = false := rfl
      have e2 : ((21 : Int) == 2) = false := rfl
      rw [e1, e2] at ha
      simp at ha
    · rw [h0] at hl; omega
theorem true_clean (v : Val) : trueB (cleanV v) = trueB v := by
  unfold cleanV
  split
  · rename_i h; unfold trueB; rw [h]; rfl
  · rename_i h
    have h' : (v.k == 1) = false := by simpa using h
    split
    · unfold trueB; rw [h']; rfl
    · unfold trueB; rw [h']; rfl
theorem nt_false {row : List Val} {cols : List Int} (hn : Nulled row cols) : ∀ (k : Nat) (e : Ex), e.size ≤ k → goodE e → ntE cols e = true → trueB (evalE row e) = false
  | 0, e, hs, _, _ => by rw [Ex.size_mk] at hs; omega
  | k + 1, e, hs, hg, ha => by
    have ha0 := ha
    rw [ntE_eq] at ha
    have IH := fun (i : Nat) (x : Ex) (hx : e.args[i]? = some x) => nt_false hn k x (by have := Ex.size_arg hx; omega) (good_arg hg hx)
    cases h2 : (e.op == 2)
    · cases h19 : (e.op == 19)
      · cases h20 : (e.op == 20)
        · rw [h2, h19, h20] at ha
          have : anE cols e = true := by simpa using ha
          rw [an_null hn e.size e (Nat.le_refl _) hg this]; rfl
        · have ho : e.op = 20 := by simpa using h20
          obtain ⟨x, y, hxy⟩ := two_args hg (by rw [ho]; rfl)
          rw [h2, h19, h20, hxy, (nt_two cols x y).2] at ha
          have hb : ntE cols x = true ∧ ntE cols y = true := by simpa using ha
          have fx := IH 0 x (by rw [hxy]; rfl) hb.1
          have fy := IH 1 y (by rw [hxy]; rfl) hb.2
          rw [evalE_eq, hxy, evalL, evalL, evalL, ho]
          show trueB (twoV 20 (evalE row x) (evalE row y)) = false
          show trueB (bothV 20 (evalE row x) (evalE row y)) = false
          unfold bothV
          rw [if_neg (by decide), if_pos rfl, fx, fy]
          simp only [Bool.or_self, Bool.false_eq_true, if_false]
          split <;> rfl
      · have ho : e.op = 19 := by simpa using h19
        obtain ⟨x, y, hxy⟩ := two_args hg (by rw [ho]; rfl)
        rw [h2, h19, hxy, (nt_two cols x y).1] at ha
        have hb : ntE cols x = true ∨ ntE cols y = true := by simpa using ha
        have fxy : trueB (evalE row x) = false ∨ trueB (evalE row y) = false := by
          rcases hb with h | h
          · exact .inl (IH 0 x (by rw [hxy]; rfl) h)
          · exact .inr (IH 1 y (by rw [hxy]; rfl) h)
        rw [evalE_eq, hxy, evalL, evalL, evalL, ho]
        show trueB (bothV 19 (evalE row x) (evalE row y)) = false
        generalize evalE row x = a at *
        generalize evalE row y = b at *
        unfold bothV
        rw [if_pos rfl]
        split
        · rfl
        · rename_i hf
          split
          · rename_i hk
            exfalso
            simp only [falseB, trueB, Bool.or_eq_true, Bool.and_eq_true, not_or, beq_iff_eq, Bool.and_eq_false_iff, bne_iff_ne, not_and, bne_eq_false_iff_eq] at hf hk fxy
            rcases fxy with h | h
            · rcases h with h | h
              · simp at h; exact h hk.1
              · exact hf.1 hk.1 h
            · rcases h with h | h
              · simp at h; exact h hk.2
              · exact hf.2 hk.2 h
          · rfl
    · have ho : e.op = 2 := by simpa using h2
      rw [h2] at ha
      have ht : trueB e.v = false := by simpa using ha
      have hnil : e.args = [] := by
        have hl := sound_len (good_open hg).1
        rw [ho] at hl
        exact List.eq_nil_of_length_eq_zero (by have : arI 2 = 0 := rfl
                                                omega)
      rw [evalE_eq, hnil, evalL, ho]
      show trueB (cleanV e.v) = false
      rw [true_clean]; exact ht
end Go.Proofs.Ytfnacpkodfhfoad

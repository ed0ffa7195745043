import Derived.Test.YtfnacpkodfhfoacFoC
import Derived.Test.YtfnacpkodfhfoacFoD
set_option linter.unusedSimpArgs false
set_option linter.unusedVariables false
namespace Go.Proofs.Ytfnacpkodfhfoac
open Go.RowKit Go.Sort

theorem ent51 : Enters 51 := fun args w => by kernel_rfl
theorem ent53 : Enters 53 := fun args w => by kernel_rfl
theorem ent54 : Enters 54 := fun args w => by kernel_rfl
theorem test_const (W : World) : TestE W (.func (.func 51) #[] #[]) notConst := ⟨51, #[], rfl, ent51, fun x a c W' _ _ _ => by simpa using notconst_any x a c W'⟩
theorem test_zero (W : World) : TestE W (.func (.func 53) #[] #[]) isZeroE := ⟨53, #[], rfl, ent53, fun x a c W' _ _ _ => by simpa using iszero_any x a c W'⟩
theorem test_true (W : World) : TestE W (.func (.func 54) #[] #[]) isTrueE := ⟨54, #[], rfl, ent54, fun x a c W' _ _ _ => by simpa using istrue_any x a c W'⟩
/-- What simpler answers. -/
def SimpOk (e : Ex) (lo : Nat) (w : World) (r : Ending) (w' : World) : Prop := ∃ a2 c2, r = .returned ((simpE e).val a2 c2) ∧ ExK lo w' a2 (simpE e).args ∧ Below w.heap.size w w'
theorem exk_nil (lo : Nat) (w : World) (a : Option Addr) : ExK lo w a [] := fun _ _ => by rw [Ex.all]; trivial
set_option maxHeartbeats 1000000 in
set_option maxRecDepth 100000 in
theorem simp_all (e : Ex) (hg : goodE e) (hf : e.fin) (hl : 0 < e.args.length) (hc : e.args.any notConst = false) (a : Option Addr) (c : Nat) (lo : Nat) (w : World) (ha : Ex.all w a e.args) : Calls Try.prog 36 #[e.val a c] w (SimpOk e lo w) := by
  have hse : simpE e = conE (evalE [] e) := by unfold simpE; rw [hc]; simp [hl]
  obtain ⟨⟨hlen, _, _, _⟩, hfl⟩ := Ex.fin_open hf
  have HC := hide (fun (W : World) (hW : Below w.heap.size w W) => containsE_any (.func (.func 51) #[] #[]) notConst a c e.args W hlen hfl (Ex.all_later _ ha hW) (test_const W))
  have HR := hide (fun (W : World) (hW : Below w.heap.size w W) => ready_all e.size e (Nat.le_refl _) hf hg a c W (Ex.all_later _ ha hW))
  have HK := hide (fun W => constant_any (evalE [] e) W)
  have HV := hide hse
  rw [hc] at HC
  have hl2 : (0 : Int) < (e.args.length : Int) := by omega
  have HB0 : Hid (Below w.heap.size w ((w.alloc (.cells #[.int .i64 e.op, .int .i64 e.n, .int .i64 e.v.k, .int .i64 e.v.n, .string e.v.s, .slice a e.args.length c] 26)).alloc (.cells #[.int .i64 0, .int .i64 0, .int .i64 0, .int .i64 0, .string ⟨#[]⟩, .slice none 0 0] 26))) := below_alloc (below_alloc (Below.refl _ w) _) _
  have H6 : Hid (Six ((w.alloc (.cells #[.int .i64 e.op, .int .i64 e.n, .int .i64 e.v.k, .int .i64 e.v.n, .string e.v.s, .slice a e.args.length c] 26)).alloc (.cells #[.int .i64 0, .int .i64 0, .int .i64 0, .int .i64 0, .string ⟨#[]⟩, .slice none 0 0] 26)) w.heap.size e a c) := (Six.new w e a c).later (below_alloc (Below.refl _ _) _)
  have HZ : Hid (Box6 ((w.alloc (.cells #[.int .i64 e.op, .int .i64 e.n, .int .i64 e.v.k, .int .i64 e.v.n, .string e.v.s, .slice a e.args.length c] 26)).alloc (.cells #[.int .i64 0, .int .i64 0, .int .i64 0, .int .i64 0, .string ⟨#[]⟩, .slice none 0 0] 26)) (w.heap.size + 1) zeroE none 0) := by
    have h := Box6.new (w.alloc (.cells #[.int .i64 e.op, .int .i64 e.n, .int .i64 e.v.k, .int .i64 e.v.n, .string e.v.s, .slice a e.args.length c] 26)) zeroE none 0
    rw [show (w.alloc (.cells #[.int .i64 e.op, .int .i64 e.n, .int .i64 e.v.k, .int .i64 e.v.n, .string e.v.s, .slice a e.args.length c] 26)).heap.size = w.heap.size + 1 by simp [go_sem]] at h
    exact h
  rw [Ex.val_open] at HR ⊢
  clear ha hc hse
  go_enter Try.func36, Try.ntmps36
  go_wp2_with (first
    | (go_at_call 25; refine (unhide HC _ (unhide HB0)).mono ?_; rintro r w1 ⟨rfl, hb1⟩; have hB1 := below_step (unhide HB0) hb1; obtain ⟨b0, b1, b2, b3, b4, b5⟩ := (unhide H6).later hb1)
    | (go_at_call 52; refine (unhide HR _ hB1).mono ?_; rintro r w2 ⟨F, rfl, hF, hb2⟩; obtain ⟨n4, k4, rfl, e4, H4⟩ := hF; unfold Enters at e4; have HC4 := hide (H4 w2 none 0 [] (Kept.refl _ _ _) (.inl rfl) (by simp) (by simp)); clear H4)
    | (go_at_call 34; refine (unhide HK w3).mono ?_; rintro r w4 ⟨rfl, hb4⟩; rw [Ex.val_open]; obtain ⟨⟨z0, z1, z2, z3, z4, z5⟩, f0, f1, f2, f3, f4, f5⟩ := (unhide HZ).later (below_step (below_step (below_step hb1 hb2) hb3) hb4))
    | (refine (unhide HC4).mono ?_; rintro r w3 ⟨rfl, hb3⟩))
  refine bodyPost_ret (v := (conE (evalE [] e)).val none 0) (by simp [results, Try.results36, go_sem, Ex.val, Ex.op, Ex.n, Ex.v, Ex.args, *]) rfl ⟨none, 0, by rw [unhide HV], by rw [unhide HV]; exact exk_nil _ _ _, ?_⟩
  exact put6 (below_step (below_step (below_step hB1 hb2) hb3) hb4) (by omega) _ _ _ _ _ _
end Go.Proofs.Ytfnacpkodfhfoac
set_option linter.unusedSimpArgs false
set_option linter.unusedVariables false
namespace Go.Proofs.Ytfnacpkodfhfoac
open Go.RowKit Go.Sort

theorem exk_lo {lo : Nat} {w : World} {b off i : Nat} {l : List Ex} {x : Ex} (hK : ExK lo w (some ⟨b, off, none⟩) l) (hx : l[i]? = some x) : lo ≤ b := by
  by_cases h : lo ≤ b
  · exact h
  · exfalso
    have hlt : b < lo := by omega
    obtain ⟨b', off', e', h1⟩ := Ex.all_get (hK w (Kept.refl _ _ _)) hx
    injection e' with e'
    injection e' with e1 e2
    subst e1 e2
    obtain ⟨a1, c1, ⟨d0, _⟩, _⟩ := Ex.at_open h1
    obtain ⟨b', off', e', h2⟩ := Ex.all_get (hK (w.setCell ⟨b, off + i * 6, none⟩ (.bool true)) (Kept.of_low _ _ _ _ hlt)) hx
    injection e' with e'
    injection e' with e1 e2
    subst e1 e2
    obtain ⟨a2, c2, ⟨q0, _⟩, _⟩ := Ex.at_open h2
    have h3 : (w.setCell ⟨b, off + i * 6, none⟩ (.bool true)).cell? ⟨b, off + i * 6, none⟩ = some (.bool true) := by simp [go_sem, d0]
    rw [h3] at q0
    cases q0
/-- A part of what lies in the blocks from lo on lies there too. -/
theorem exk_child {lo : Nat} {w : World} {b off i n c' : Nat} {l : List Ex} {x : Ex} {a' : Option Addr} (hK : ExK lo w (some ⟨b, off, none⟩) l) (hx : l[i]? = some x) (hc : w.cell? ⟨b, off + i * 6 + 5, none⟩ = some (.slice a' n c')) : ExK lo w a' x.args := by
  have hlo := exk_lo hK hx
  intro W' hW
  obtain ⟨b', off', e', h1⟩ := Ex.all_get (hK W' hW) hx
  injection e' with e'
  injection e' with e1 e2
  subst e1 e2
  obtain ⟨a1, c1, ⟨_, _, _, _, _, d5⟩, h2⟩ := Ex.at_open h1
  have h3 := Kept.cell hc hW hlo (by simp)
  rw [h3] at d5
  injection d5 with d5
  injection d5 with d5
  rw [d5]
  exact h2
set_option maxHeartbeats 1000000 in
set_option maxRecDepth 100000 in
theorem simp_same (e : Ex) (hf : e.fin) (hc : e.args.any notConst = true ∨ e.args = []) (h19 : ¬ e.op = 19) (h20 : ¬ e.op = 20) (h21 : ¬ e.op = 21) (a : Option Addr) (c : Nat) (lo : Nat) (w : World) (hK : ExK lo w a e.args) : Calls Try.prog 36 #[e.val a c] w (SimpOk e lo w) := by
  have hse : simpE e = e := by
    have e19 : (e.op == 19) = false := by simpa using h19
    have e20 : (e.op == 20) = false := by simpa using h20
    have e21 : (e.op == 21) = false := by simpa using h21
    unfold simpE
    rw [e19, e20, e21]
    rcases hc with hc | hc
    · rw [hc]; simp
    · rw [hc]; simp
  obtain ⟨⟨hlen, _, _, _⟩, hfl⟩ := Ex.fin_open hf
  have ha := hK.now
  have HC := hide (fun (W : World) (hW : Below w.heap.size w W) => containsE_any (.func (.func 51) #[] #[]) notConst a c e.args W hlen hfl (Ex.all_later _ ha hW) (test_const W))
  have HV := hide hse
  have HK := hide hK
  have HB0 : Hid (Below w.heap.size w ((w.alloc (.cells #[.int .i64 e.op, .int .i64 e.n, .int .i64 e.v.k, .int .i64 e.v.n, .string e.v.s, .slice a e.args.length c] 26)).alloc (.cells #[.int .i64 0, .int .i64 0, .int .i64 0, .int .i64 0, .string ⟨#[]⟩, .slice none 0 0] 26))) := below_alloc (below_alloc (Below.refl _ w) _) _
  have H6 : Hid (Six ((w.alloc (.cells #[.int .i64 e.op, .int .i64 e.n, .int .i64 e.v.k, .int .i64 e.v.n, .string e.v.s, .slice a e.args.length c] 26)).alloc (.cells #[.int .i64 0, .int .i64 0, .int .i64 0, .int .i64 0, .string ⟨#[]⟩, .slice none 0 0] 26)) w.heap.size e a c) := (Six.new w e a c).later (below_alloc (Below.refl _ _) _)
  have HZ : Hid (Box6 ((w.alloc (.cells #[.int .i64 e.op, .int .i64 e.n, .int .i64 e.v.k, .int .i64 e.v.n, .string e.v.s, .slice a e.args.length c] 26)).alloc (.cells #[.int .i64 0, .int .i64 0, .int .i64 0, .int .i64 0, .string ⟨#[]⟩, .slice none 0 0] 26)) (w.heap.size + 1) zeroE none 0) := by
    have h := Box6.new (w.alloc (.cells #[.int .i64 e.op, .int .i64 e.n, .int .i64 e.v.k, .int .i64 e.v.n, .string e.v.s, .slice a e.args.length c] 26)) zeroE none 0
    rw [show (w.alloc (.cells #[.int .i64 e.op, .int .i64 e.n, .int .i64 e.v.k, .int .i64 e.v.n, .string e.v.s, .slice a e.args.length c] 26)).heap.size = w.heap.size + 1 by simp [go_sem]] at h
    exact h
  rcases hc with hc | hc
  · have hl2 : (0 : Int) < (e.args.length : Int) := by
      cases h : e.args with
      | nil => rw [h] at hc; cases hc
      | cons x l => simp
    rw [hc] at HC
    rw [Ex.val_open]
    clear ha hc hse hK
    go_enter Try.func36, Try.ntmps36
    go_wp2_with (go_at_call 25; refine (unhide HC _ (unhide HB0)).mono ?_; rintro r w1 ⟨rfl, hb1⟩; have hB1 := below_step (unhide HB0) hb1; obtain ⟨b0, b1, b2, b3, b4, b5⟩ := (unhide H6).later hb1; obtain ⟨⟨z0, z1, z2, z3, z4, z5⟩, f0, f1, f2, f3, f4, f5⟩ := (unhide HZ).later hb1)
    have hE := put6 hB1 (B := w.heap.size + 1) (by omega) (.int .i64 e.op) (.int .i64 e.n) (.int .i64 e.v.k) (.int .i64 e.v.n) (.string e.v.s) (.slice a e.args.length c)
    refine bodyPost_ret (v := e.val a c) (by simp [results, Try.results36, go_sem, Ex.val, *]) rfl ⟨a, c, by rw [unhide HV], by rw [unhide HV]; exact (unhide HK).on (Kept.of_below _ _ hE), hE⟩
  · have hl0 : e.args.length = 0 := by rw [hc]; rfl
    rw [Ex.val_open, hl0]
    rw [hl0] at HB0 H6 HZ
    clear ha hc hse hK HC
    go_enter Try.func36, Try.ntmps36
    go_wp2
    refine bodyPost_ret (v := e.val a c) (by simp [results, Try.results36, go_sem, Ex.val, *]) rfl ⟨a, c, by rw [unhide HV], by rw [unhide HV]; exact (unhide HK).on (Kept.of_below _ _ (below_alloc (below_alloc (Below.refl _ w) _) _)), below_alloc (below_alloc (Below.refl _ w) _) _⟩
end Go.Proofs.Ytfnacpkodfhfoac
set_option linter.unusedSimpArgs false
set_option linter.unusedVariables false
namespace Go.Proofs.Ytfnacpkodfhfoac
open Go.RowKit Go.Sort

set_option maxHeartbeats 1000000 in
set_option maxRecDepth 100000 in
theorem simp_or (e : Ex) (hf : e.fin) (hc : e.args.any notConst = true) (h20 : e.op = 20) (a : Option Addr) (c : Nat) (lo : Nat) (w : World) (hK : ExK lo w a e.args) : Calls Try.prog 36 #[e.val a c] w (SimpOk e lo w) := by
  have hse : simpE e = if e.args.any isTrueE then conE (.num 1) else e := by
    unfold simpE
    rw [hc, h20]
    simp
  obtain ⟨⟨hlen, _, _, _⟩, hfl⟩ := Ex.fin_open hf
  have ha := hK.now
  have HC := hide (fun (W : World) (hW : Below w.heap.size w W) => containsE_any (.func (.func 51) #[] #[]) notConst a c e.args W hlen hfl (Ex.all_later _ ha hW) (test_const W))
  have HT := hide (fun (W : World) (hW : Below w.heap.size w W) => containsE_any (.func (.func 54) #[] #[]) isTrueE a c e.args W hlen hfl (Ex.all_later _ ha hW) (test_true W))
  have HN := hide (fun W => expnum0 1 W)
  have HCO := hide (fun W => constant_any (.num 1) W)
  have HV := hide hse
  have HK := hide hK
  have HB0 : Hid (Below w.heap.size w ((w.alloc (.cells #[.int .i64 e.op, .int .i64 e.n, .int .i64 e.v.k, .int .i64 e.v.n, .string e.v.s, .slice a e.args.length c] 26)).alloc (.cells #[.int .i64 0, .int .i64 0, .int .i64 0, .int .i64 0, .string ⟨#[]⟩, .slice none 0 0] 26))) := below_alloc (below_alloc (Below.refl _ w) _) _
  have H6 : Hid (Six ((w.alloc (.cells #[.int .i64 e.op, .int .i64 e.n, .int .i64 e.v.k, .int .i64 e.v.n, .string e.v.s, .slice a e.args.length c] 26)).alloc (.cells #[.int .i64 0, .int .i64 0, .int .i64 0, .int .i64 0, .string ⟨#[]⟩, .slice none 0 0] 26)) w.heap.size e a c) := (Six.new w e a c).later (below_alloc (Below.refl _ _) _)
  have HZ : Hid (Box6 ((w.alloc (.cells #[.int .i64 e.op, .int .i64 e.n, .int .i64 e.v.k, .int .i64 e.v.n, .string e.v.s, .slice a e.args.length c] 26)).alloc (.cells #[.int .i64 0, .int .i64 0, .int .i64 0, .int .i64 0, .string ⟨#[]⟩, .slice none 0 0] 26)) (w.heap.size + 1) zeroE none 0) := by
    have h := Box6.new (w.alloc (.cells #[.int .i64 e.op, .int .i64 e.n, .int .i64 e.v.k, .int .i64 e.v.n, .string e.v.s, .slice a e.args.length c] 26)) zeroE none 0
    rw [show (w.alloc (.cells #[.int .i64 e.op, .int .i64 e.n, .int .i64 e.v.k, .int .i64 e.v.n, .string e.v.s, .slice a e.args.length c] 26)).heap.size = w.heap.size + 1 by simp [go_sem]] at h
    exact h
  have hl2 : (0 : Int) < (e.args.length : Int) := by
    cases h : e.args with
    | nil => rw [h] at hc; cases hc
    | cons x l => simp
  rw [hc] at HC
  rw [Ex.val_open]
  rw [h20] at HB0 H6 HZ ⊢
  clear ha hc hse hK
  cases ht : e.args.any isTrueE with
  | true =>
    rw [ht] at HT HV
    simp only [if_true] at HV
    clear ht
    go_enter Try.func36, Try.ntmps36
    go_wp2_with (first
      | (go_at_call 25; refine (unhide HT _ hB1).mono ?_; rintro r w2 ⟨rfl, hb2⟩)
      | (go_at_call 25; refine (unhide HC _ (unhide HB0)).mono ?_; rintro r w1 ⟨rfl, hb1⟩; have hB1 := below_step (unhide HB0) hb1; obtain ⟨b0, b1, b2, b3, b4, b5⟩ := (unhide H6).later hb1)
      | (go_at_call 55; refine (unhide HN w2).mono ?_; rintro r w3 ⟨rfl, hb3⟩)
      | (go_at_call 34; refine (unhide HCO w3).mono ?_; rintro r w4 ⟨rfl, hb4⟩; rw [Ex.val_open]; obtain ⟨⟨z0, z1, z2, z3, z4, z5⟩, f0, f1, f2, f3, f4, f5⟩ := (unhide HZ).later (below_step (below_step (below_step hb1 hb2) hb3) hb4)))
    have hE := put6 (below_step (below_step (below_step hB1 hb2) hb3) hb4) (B := w.heap.size + 1) (by omega) (.int .i64 2) (.int .i64 0) (.int .i64 1) (.int .i64 1) (.string ⟨#[]⟩) (.slice none 0 0)
    refine bodyPost_ret (v := (conE (.num 1)).val none 0) (by simp [results, Try.results36, go_sem, Ex.val, Ex.op, Ex.n, Ex.v, Ex.args, Val.num, *]) rfl ⟨none, 0, by rw [unhide HV], by rw [unhide HV]; exact exk_nil _ _ _, hE⟩
  | false =>
    rw [ht] at HT HV
    simp only [Bool.false_eq_true, if_false] at HV
    clear ht
    go_enter Try.func36, Try.ntmps36
    go_wp2_with (first
      | (go_at_call 25; refine (unhide HT _ hB1).mono ?_; rintro r w2 ⟨rfl, hb2⟩; obtain ⟨b0, b1, b2, b3, b4, b5⟩ := (unhide H6).later (below_step hb1 hb2); obtain ⟨⟨z0, z1, z2, z3, z4, z5⟩, f0, f1, f2, f3, f4, f5⟩ := (unhide HZ).later (below_step hb1 hb2))
      | (go_at_call 25; refine (unhide HC _ (unhide HB0)).mono ?_; rintro r w1 ⟨rfl, hb1⟩; have hB1 := below_step (unhide HB0) hb1; obtain ⟨b0, b1, b2, b3, b4, b5⟩ := (unhide H6).later hb1))
    have hE := put6 (below_step hB1 hb2) (B := w.heap.size + 1) (by omega) (.int .i64 20) (.int .i64 e.n) (.int .i64 e.v.k) (.int .i64 e.v.n) (.string e.v.s) (.slice a e.args.length c)
    refine bodyPost_ret (v := e.val a c) (by simp [results, Try.results36, go_sem, Ex.val, *]) rfl ⟨a, c, by rw [unhide HV], by rw [unhide HV]; exact (unhide HK).on (Kept.of_below _ _ hE), hE⟩
end Go.Proofs.Ytfnacpkodfhfoac

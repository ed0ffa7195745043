import Derived.Test.YtmagpdblacgneaaGreatExS
import Derived.Test.YtmagpdblacgneaaGreatExU
import Derived.Test.YtmagpdblacgneaaGreatExC
set_option linter.unusedSimpArgs false
set_option linter.unusedVariables false
namespace Go.Proofs.YtmagpdblacgneaaGreat
open Go.RowKit Go.Sort

set_option maxHeartbeats 400000 in
set_option maxRecDepth 100000 in
theorem ready0 (e : Ex) (hg : goodE e) (hx : e.args = []) (a : Option Addr) (c : Nat) (w : World) :
    Calls Tryz.prog 45 #[e.val a c] w fun r w' => ∃ F, r = .returned F ∧ WorkK w.heap.size [] w' F e ∧ Below w.heap.size w w' := by
  have HL := hide (leaf_k e hg hx a c (w.alloc (.cells #[.int .i64 e.op, .int .i64 e.n, .int .i64 e.v.k, .int .i64 e.v.n, .string e.v.s, .slice a 0 c] 26)))
  have hln : e.args.length = 0 := by rw [hx]; rfl
  have HB := hide (below_alloc (Below.refl _ w) (.cells #[.int .i64 e.op, .int .i64 e.n, .int .i64 e.v.k, .int .i64 e.v.n, .string e.v.s, .slice a 0 c] 26))
  rw [Ex.val_open, hln] at HL ⊢
  clear hg hx hln
  go_enter Tryz.func45, Tryz.ntmps45
  go_wp2_with (go_at_call 58; refine (unhide HL).mono ?_; rintro r w1 ⟨F, rfl, hF, hb1⟩)
  go_ret
  exact ⟨F, rfl, hF.more (unhide HB).size (by simp), below_step (unhide HB) hb1⟩
theorem ar_le (op : Int) : arI op = 0 ∨ arI op = 1 ∨ arI op = 2 ∨ arI op = 3 ∨ arI op < 0 := by
  unfold arI
  repeat' split
  all_goals omega
theorem ready_all : ∀ (k : Nat) (e : Ex), e.size ≤ k → e.fin → goodE e → ∀ (a : Option Addr) (c : Nat) (w : World), Ex.all w a e.args →
    Calls Tryz.prog 45 #[e.val a c] w fun r w' => ∃ F, r = .returned F ∧ WorkK w.heap.size [] w' F e ∧ Below w.heap.size w w'
  | 0, e, hs, _, _, _, _, _, _ => by rw [Ex.size_mk] at hs; omega
  | k + 1, e, hs, hf, hg, a, c, w, ha => by
    have IH : ∀ (i : Nat) (x : Ex), e.args[i]? = some x → ∀ (a' : Option Addr) (c' : Nat) (W : World), Ex.all W a' x.args → Calls Tryz.prog 45 #[x.val a' c'] W fun r w' => ∃ F, r = .returned F ∧ WorkK W.heap.size [] w' F x ∧ Below W.heap.size W w' :=
      fun i x hx a' c' W h => ready_all k x (by have := Ex.size_arg hx; omega) (Ex.fin_arg hf hx) (good_arg hg hx) a' c' W h
    have hl := sound_len (good_open hg).1
    have har := ar_le e.op
    match he : e.args, hl with
    | [], _ => exact ready0 e hg he a c w
    | [x], _ => exact ready1 e x he (Ex.fin_arg hf (i := 0) (by rw [he]; rfl)) a c w ha (IH 0 x (by rw [he]; rfl))
    | [x, y], _ => exact ready2 e x y he (Ex.fin_arg hf (i := 0) (by rw [he]; rfl)) (Ex.fin_arg hf (i := 1) (by rw [he]; rfl)) a c w ha IH
    | [x, y, z], _ => exact ready3 e x y z he (Ex.fin_arg hf (i := 0) (by rw [he]; rfl)) (Ex.fin_arg hf (i := 1) (by rw [he]; rfl)) (Ex.fin_arg hf (i := 2) (by rw [he]; rfl)) a c w ha IH
    | _ :: _ :: _ :: _ :: _, hl => exfalso; simp only [List.length_cons] at hl; omega
/-- What Eval answers. -/
def evalB (row : List Val) (e : Ex) : Val := if builtE e then evalE row e else .null
/-- A function that answers as Eval does, by the blocks that it needs. -/
def WorkB (lo : Nat) (N : List Nat) (W : World) (F : Value) (e : Ex) : Prop := ∃ n k, F = .func (.func n) #[] k ∧ Enters n ∧ ∀ W' a c row, Kept lo N W W' → RowAt W' a row → (∀ x ∈ row, VOk x) → row.length ≤ 140737488355328 → Calls Tryz.prog n (#[.slice a row.length c] ++ k) W' fun r w' => r = .returned (evalB row e).v ∧ Below W'.heap.size W' w'
theorem WorkB.more {lo lo' : Nat} {W : World} {F : Value} {x : Ex} (h : WorkB lo [] W F x) (hl : lo' ≤ lo) : WorkB lo' [] W F x := by
  obtain ⟨n, k, rfl, e, H⟩ := h
  exact ⟨n, k, rfl, e, fun W'' a c row h1 h2 h3 h4 => H W'' a c row (h1.more hl (by simp)) h2 h3 h4⟩
theorem ent27 : Enters 77 := fun args w => by kernel_rfl
set_option maxHeartbeats 400000 in
set_option maxRecDepth 100000 in
theorem nothing_any (a : Option Addr) (n c : Nat) (w : World) : Calls Tryz.prog 77 #[.slice a n c] w fun r w' => r = .returned Val.null.v ∧ Below w.heap.size w w' := by
  go_enter Tryz.func77, Tryz.ntmps77
  go_wp2
  refine bodyPost_ret (v := Val.null.v) (by simp [results, Tryz.results77, go_sem, Val.v, Val.null]) rfl ⟨rfl, below_alloc (Below.refl _ _) _⟩
set_option maxHeartbeats 400000 in
set_option maxRecDepth 100000 in
/-- Ready (15). -/
theorem readyB_any (e : Ex) (hf : e.fin) (a : Option Addr) (c : Nat) (w : World) (ha : Ex.all w a e.args) :
    Calls Tryz.prog 55 #[e.val a c] w fun r w' => ∃ F, r = .returned F ∧ WorkB w.heap.size [] w' F e ∧ Below w.heap.size w w' := by
  have HB := hide (fun (W : World) (hW : Below w.heap.size w W) => built_any e hf a c W (Ex.all_later _ ha hW))
  have HN := hide (fun (hg : goodE e) (W : World) (hW : Below w.heap.size w W) => ready_all e.size e (Nat.le_refl _) hf hg a c W (Ex.all_later _ ha hW))
  have HG := hide (built_good (e := e))
  clear ha
  rw [Ex.val_open] at HB HN ⊢
  have HB0 := hide (below_alloc (Below.refl _ w) (.cells #[.int .i64 e.op, .int .i64 e.n, .int .i64 e.v.k, .int .i64 e.v.n, .string e.v.s, .slice a e.args.length c] 26))
  have H6 : Hid (Six (w.alloc (.cells #[.int .i64 e.op, .int .i64 e.n, .int .i64 e.v.k, .int .i64 e.v.n, .string e.v.s, .slice a e.args.length c] 26)) w.heap.size e a c) := Six.new w e a c
  rcases Bool.eq_false_or_eq_true (builtE e) with hb | hb
  · have HE : Hid (∀ row, evalB row e = evalE row e) := fun row => by unfold evalB; rw [hb, if_pos rfl]
    have HN := hide (unhide HN (unhide HG hb))
    rw [hb] at HB
    clear hb
    go_enter Tryz.func55, Tryz.ntmps55
    go_wp2_with (first
      | (go_at_call 21; refine (unhide HB _ (unhide HB0)).mono ?_; rintro r w1 ⟨rfl, hb1⟩; have hB1 := below_step (unhide HB0) hb1; obtain ⟨b0, b1, b2, b3, b4, b5⟩ := (unhide H6).later hb1)
      | (go_at_call 45; refine (unhide HN _ hB1).mono ?_; rintro r w2 ⟨F, rfl, hF, hb2⟩))
    go_ret
    refine ⟨F, rfl, ?_, below_step hB1 hb2⟩
    obtain ⟨n, k, hF1, hF2, hF3⟩ := hF.more hB1.size (N' := []) (by simp)
    exact ⟨n, k, hF1, hF2, fun W' a c row h1 h2 h3 h4 => by rw [unhide HE row]; exact hF3 W' a c row h1 h2 h3 h4⟩
  · have HE : Hid (∀ row, evalB row e = .null) := fun row => by unfold evalB; rw [hb, if_neg (by simp)]
    rw [hb] at HB
    clear hb
    go_enter Tryz.func55, Tryz.ntmps55
    go_wp2_with (go_at_call 21; refine (unhide HB _ (unhide HB0)).mono ?_; rintro r w1 ⟨rfl, hb1⟩)
    go_ret
    refine ⟨_, rfl, ⟨77, #[], rfl, ent27, fun W' a c row h1 h2 h3 h4 => ?_⟩, below_step (unhide HB0) hb1⟩
    rw [unhide HE row]
    exact nothing_any a row.length c W'
set_option maxHeartbeats 400000 in
set_option maxRecDepth 100000 in
/-- Eval (8). -/
theorem evals_any (e : Ex) (hf : e.fin) (row : List Val) (hv : ∀ x ∈ row, VOk x) (hl : row.length ≤ 140737488355328) (a aR : Option Addr) (c cR : Nat) (w : World) (ha : Ex.all w a e.args) (hr : RowAt w aR row) :
    Calls Tryz.prog 37 #[e.val a c, .slice aR row.length cR] w fun r w' => r = .returned (evalB row e).v ∧ Below w.heap.size w w' := by
  have HN := hide (fun (W : World) (hW : Below w.heap.size w W) => readyB_any e hf a c W (Ex.all_later _ ha hW))
  have HRW := hide (fun (W : World) (hW : Below w.heap.size w W) => hr.later hW)
  have HV := hide hv
  clear ha hr hv
  rw [Ex.val_open] at HN ⊢
  have HB0 : Hid (Below w.heap.size w ((w.alloc (.cells #[.int .i64 e.op, .int .i64 e.n, .int .i64 e.v.k, .int .i64 e.v.n, .string e.v.s, .slice a e.args.length c] 26)).alloc (.cells #[.int .i64 0, .int .i64 0, .string ⟨#[]⟩] 23))) := below_alloc (below_alloc (Below.refl _ w) _) _
  have HZ : Hid (ZeroAt ((w.alloc (.cells #[.int .i64 e.op, .int .i64 e.n, .int .i64 e.v.k, .int .i64 e.v.n, .string e.v.s, .slice a e.args.length c] 26)).alloc (.cells #[.int .i64 0, .int .i64 0, .string ⟨#[]⟩] 23)) (w.heap.size + 1)) := by
    refine ⟨?_, ?_, ?_, ?_, ?_, ?_⟩ <;> simp [go_sem]
  have HW : Hid (∀ W F, WorkB w.heap.size [] W F e → Below w.heap.size w W → ∃ n k, F = .func (.func n) #[] k ∧ Enters n ∧ Calls Tryz.prog n (#[.slice aR row.length cR] ++ k) W fun r w' => r = .returned (evalB row e).v ∧ Below W.heap.size W w') := fun W F hF hW => by
    obtain ⟨n, k, h1, h2, h3⟩ := hF
    exact ⟨n, k, h1, h2, h3 W aR cR row (Kept.refl _ _ _) (unhide HRW _ hW) (unhide HV) hl⟩
  generalize evalB row e = res at *
  go_enter Tryz.func37, Tryz.ntmps37
  go_wp2_with (first
    | (go_at_call 55; refine (unhide HN _ (unhide HB0)).mono ?_; rintro r w2 ⟨F, rfl, hF, hb2⟩; have hB2 := below_step (unhide HB0) hb2; obtain ⟨n4, k4, rfl, e4, H4⟩ := unhide HW w2 F (WorkB.more hF (unhide HB0).size) hB2; unfold Enters at e4; have HC4 := hide H4; clear H4 hF)
    | (refine (unhide HC4).mono ?_; rintro r w3 ⟨rfl, hb3⟩; have hB3 := below_step hB2 hb3; rw [Val.open_]; obtain ⟨z0, z1, z2, z3, z4, z5⟩ := (unhide HZ).later (below_step hb2 hb3)))
  refine bodyPost_ret (v := res.v) (by simp [results, Tryz.results37, go_sem, Val.v, *]) rfl ⟨rfl, ?_⟩
  exact put3 hB3 (by omega) _ _ _
end Go.Proofs.YtmagpdblacgneaaGreat
set_option linter.unusedSimpArgs false
set_option linter.unusedVariables false
namespace Go.Proofs.YtmagpdblacgneaaGreat
open Go.RowKit Go.Sort

set_option maxHeartbeats 400000 in
theorem constant_any (v : Val) (w : World) : Calls Tryz.prog 25 #[v.v] w fun r w' => r = .returned ((Ex.mk 2 0 v []).val none 0) ∧ Below w.heap.size w w' := by
  rw [Val.open_]
  go_enter Tryz.func25, Tryz.ntmps25
  go_wp2
  refine bodyPost_ret (v := (Ex.mk 2 0 v []).val none 0) (by simp [results, Tryz.results25, go_sem, Ex.val, Ex.op, Ex.n, Ex.v, Ex.args]) rfl ?_
  exact ⟨rfl, by first | exact Below.refl _ _ | exact below_alloc (Below.refl _ _) _ | exact below_alloc (below_alloc (Below.refl _ _) _) _⟩
/-- A node's box of its own: what is in it, and that it may be written. -/
def Box6 (w : World) (b : Nat) (e : Ex) (a : Option Addr) (c : Nat) : Prop := Six w b e a c ∧ (w.frozen? ⟨b, 0, none⟩ = false ∧ w.frozen? ⟨b, 1, none⟩ = false ∧ w.frozen? ⟨b, 2, none⟩ = false ∧ w.frozen? ⟨b, 3, none⟩ = false ∧ w.frozen? ⟨b, 4, none⟩ = false ∧ w.frozen? ⟨b, 5, none⟩ = false)
theorem Box6.later {w w1 : World} {b : Nat} {e : Ex} {a : Option Addr} {c : Nat} (h : Box6 w b e a c) (hb : Below w.heap.size w w1) : Box6 w1 b e a c := by
  obtain ⟨h0, f0, f1, f2, f3, f4, f5⟩ := h
  obtain ⟨hc, hf⟩ := bcell hb
  have hl : b < w.heap.size := World.block_lt_of_cell? w _ h0.1
  refine ⟨h0.later hb, ?_⟩
  rw [hf _ _ hl, hf _ _ hl, hf _ _ hl, hf _ _ hl, hf _ _ hl, hf _ _ hl]
  exact ⟨f0, f1, f2, f3, f4, f5⟩
theorem Box6.new (w : World) (e : Ex) (a : Option Addr) (c : Nat) : Box6 (w.alloc (e.box a c)) w.heap.size e a c := ⟨Six.new w e a c, by simp [go_sem], by simp [go_sem], by simp [go_sem], by simp [go_sem], by simp [go_sem], by simp [go_sem]⟩
/-- The expression that is none. -/
abbrev zeroE : Ex := .mk 0 0 .null []
theorem put6 {w W : World} {B : Nat} (hb : Below w.heap.size w W) (hB : w.heap.size ≤ B) (u0 u1 u2 u3 u4 u5 : Value) : Below w.heap.size w ((((((W.setCell ⟨B, 0, none⟩ u0).setCell ⟨B, 1, none⟩ u1).setCell ⟨B, 2, none⟩ u2).setCell ⟨B, 3, none⟩ u3).setCell ⟨B, 4, none⟩ u4).setCell ⟨B, 5, none⟩ u5) :=
  ((((((hb.setCell (by simpa using hB) _).setCell (by simpa using hB) _).setCell (by simpa using hB) _).setCell (by simpa using hB) _).setCell (by simpa using hB) _).setCell (by simpa using hB) _)
set_option maxHeartbeats 400000 in
/-- needed (60). -/
theorem needed_any (e : Ex) (a : Option Addr) (c : Nat) (w : World) : Calls Tryz.prog 43 #[e.val a c] w fun r w' => r = .returned ((needE e).val none 0) ∧ Below w.heap.size w w' := by
  have HC := hide (fun W => clean_any e.v W)
  have HK := hide (fun W => constant_any (cleanV e.v) W)
  have HB := hide (below_alloc (Below.refl _ w) (.cells #[.int .i64 e.op, .int .i64 e.n, .int .i64 e.v.k, .int .i64 e.v.n, .string e.v.s, .slice a e.args.length c] 26))
  have H6 : Hid (Six (w.alloc (.cells #[.int .i64 e.op, .int .i64 e.n, .int .i64 e.v.k, .int .i64 e.v.n, .string e.v.s, .slice a e.args.length c] 26)) w.heap.size e a c) := Six.new w e a c
  obtain ⟨R, hR⟩ : ∃ R, R = (needE e).val none 0 := ⟨_, rfl⟩
  rw [← hR]
  by_cases h1 : e.op = 1
  · have hR2 : R = .agg #[.int .i64 1, .int .i64 e.n, .int .i64 0, .int .i64 0, .string ⟨#[]⟩, .slice none 0 0] := by rw [hR, show needE e = .mk 1 e.n .null [] by unfold needE; rw [h1]; rfl]; rfl
    subst hR2
    clear hR
    rw [Ex.val_open, h1]
    rw [h1] at HB
    go_enter Tryz.func43, Tryz.ntmps43
    go_wp2
    refine bodyPost_ret (v := .agg #[.int .i64 1, .int .i64 e.n, .int .i64 0, .int .i64 0, .string ⟨#[]⟩, .slice none 0 0]) (by simp [results, Tryz.results43, go_sem]) rfl ?_
    exact ⟨rfl, below_alloc (unhide HB) _⟩
  by_cases h2 : e.op = 2
  · have hR2 : R = (Ex.mk 2 0 (cleanV e.v) []).val none 0 := by rw [hR, show needE e = .mk 2 0 (cleanV e.v) [] by unfold needE; rw [h2]; rfl]
    subst hR2
    clear hR h1
    rw [Ex.val_open, h2]
    rw [h2] at HB
    rw [Val.open_] at HC
    have HB2 := hide (below_alloc (unhide HB) (zeroE.box none 0))
    have HZ := hide (Box6.new (w.alloc (.cells #[.int .i64 2, .int .i64 e.n, .int .i64 e.v.k, .int .i64 e.v.n, .string e.v.s, .slice a e.args.length c] 26)) zeroE none 0)
    have hsz : (w.alloc (.cells #[.int .i64 2, .int .i64 e.n, .int .i64 e.v.k, .int .i64 e.v.n, .string e.v.s, .slice a e.args.length c] 26)).heap.size = w.heap.size + 1 := by simp [go_sem]
    rw [hsz] at HZ
    clear hsz
    generalize cleanV e.v = cv at *
    go_enter Tryz.func43, Tryz.ntmps43
    go_wp2_with (first
      | (go_at_call 57; refine (unhide HC _).mono ?_; rintro r w1 ⟨rfl, hb1⟩)
      | (go_at_call 25; refine (unhide HK _).mono ?_; rintro r w2 ⟨rfl, hb2⟩; obtain ⟨⟨z0, z1, z2, z3, z4, z5⟩, f0, f1, f2, f3, f4, f5⟩ := (unhide HZ).later (below_step hb1 hb2); rw [Ex.val_open]))
    refine bodyPost_ret (v := (Ex.mk 2 0 cv []).val none 0) (by simp [results, Tryz.results43, go_sem, Ex.val, Ex.op, Ex.n, Ex.v, Ex.args, *]) rfl ?_
    exact ⟨rfl, put6 (below_step (below_step (unhide HB2) hb1) hb2) (by omega) _ _ _ _ _ _⟩
  · have e1 : (e.op == 1) = false := by simpa using h1
    have e2 : (e.op == 2) = false := by simpa using h2
    have hR2 : R = .agg #[.int .i64 e.op, .int .i64 0, .int .i64 0, .int .i64 0, .string ⟨#[]⟩, .slice none 0 0] := by rw [hR, show needE e = .mk e.op 0 .null [] by unfold needE; rw [e1, e2]; rfl]; rfl
    subst hR2
    clear hR e1 e2
    rw [Ex.val_open]
    go_enter Tryz.func43, Tryz.ntmps43
    go_wp2
    refine bodyPost_ret (v := .agg #[.int .i64 e.op, .int .i64 0, .int .i64 0, .int .i64 0, .string ⟨#[]⟩, .slice none 0 0]) (by simp [results, Tryz.results43, go_sem]) rfl ?_
    exact ⟨rfl, below_alloc (unhide HB) _⟩
end Go.Proofs.YtmagpdblacgneaaGreat

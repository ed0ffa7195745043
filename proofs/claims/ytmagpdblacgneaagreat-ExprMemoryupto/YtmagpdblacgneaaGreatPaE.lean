import Derived.Test.YtmagpdblacgneaaGreatExV
import Derived.Test.YtmagpdblacgneaaGreatPaG
set_option linter.unusedSimpArgs false
set_option linter.unusedVariables false
set_option maxRecDepth 100000
namespace Go.Proofs.YtmagpdblacgneaaGreat
open Go.RowKit Go.Sort

mutual
theorem eval_copy (row : List Val) : ∀ (e : Ex), goodE e → evalE row (copyE e) = evalE row e
  | .mk op n v l, hg => by
    have hl := evalL_copy row l (good_open hg).2
    have hn := no_args hg
    rw [copyE, evalE, evalE, hl]
    cases l with
    | nil =>
      rw [evalL]
      simp only [nodeV]
      rcases hn rfl with ⟨h1, _⟩ | h2
      · have h1 : op = 1 := h1
        subst h1; rfl
      · have h2 : op = 2 := h2
        subst h2
        simp only [beq_self_eq_true, if_true]
        rw [clean_clean]
    | cons x l =>
      rw [evalL]
      cases l with
      | nil => rw [evalL]; rfl
      | cons y l =>
        rw [evalL]
        cases l with
        | nil => rw [evalL]; rfl
        | cons z l => rw [evalL]; rfl
theorem evalL_copy (row : List Val) : ∀ (l : List Ex), goodL l → evalL row (copyL l) = evalL row l
  | [], _ => by rw [copyL]
  | e :: l, hg => by
    rw [goodL] at hg
    rw [copyL, evalL, evalL, eval_copy row e hg.1, evalL_copy row l hg.2]
end
theorem evalB_copy (row : List Val) (e : Ex) : evalB row (copyE e) = evalB row e := by
  unfold evalB
  rw [built_copy]
  by_cases h : builtE e = true
  · rw [if_pos h, if_pos h, eval_copy row e (built_good h)]
  · rw [if_neg h, if_neg h]
theorem evalB_copyT (row : List Val) (e : Ex) : evalB row (copyT e) = evalB row e := by
  unfold copyT
  split
  · exact evalB_copy row e
  · rfl
theorem copyT_fin {e : Ex} (h : e.fin) : (copyT e).fin := by
  unfold copyT
  split
  · exact copy_fin e h
  · exact h
mutual
/-- The parts that an expression joins by And. -/
def partsE : Ex → List Ex
  | .mk op n v l => if op == 19 && builtE (.mk op n v l) then partsL l else [copyT (.mk op n v l)]
def partsL : List Ex → List Ex
  | [] => []
  | e :: l => partsE e ++ partsL l
end
theorem partsE_eq (e : Ex) : partsE e = if e.op == 19 && builtE e then partsL e.args else [copyT e] := by cases e; rw [partsE]; rfl
theorem true_both (x y : Val) : trueB (bothV 19 x y) = (trueB x && trueB y) := by
  unfold bothV
  rw [if_pos rfl]
  obtain ⟨k1, n1, s1⟩ := x
  obtain ⟨k2, n2, s2⟩ := y
  unfold trueB falseB truthV
  simp only [Val.num, Val.null]
  by_cases a1 : k1 = 1 <;> by_cases a2 : k2 = 1 <;> by_cases b1 : n1 = 0 <;> by_cases b2 : n2 = 0 <;> simp [a1, a2, b1, b2]
mutual
theorem parts_true (row : List Val) : ∀ (e : Ex), (partsE e).all (fun p => trueB (evalB row p)) = trueB (evalB row e)
  | .mk op n v l => by
    rw [partsE]
    by_cases h : (op == 19 && builtE (.mk op n v l)) = true
    · rw [if_pos h]
      simp only [Bool.and_eq_true, beq_iff_eq] at h
      obtain ⟨h1, h2⟩ := h
      have ih := parts_trueL row l
      have hb : ∀ x ∈ l, builtE x = true := fun x hx => by
        obtain ⟨i, hi⟩ := List.getElem?_of_mem hx
        exact built_arg (e := .mk op n v l) h2 hi
      subst h1
      obtain ⟨x, y, hxy⟩ := two_args (built_good h2) (by show arI 19 = 2; decide)
      have hxy : l = [x, y] := hxy
      subst hxy
      rw [ih]
      show _ = trueB (if builtE _ then _ else _)
      rw [if_pos h2, evalE, evalL, evalL, evalL]
      show _ = trueB (bothV 19 _ _)
      rw [true_both]
      simp only [List.all_cons, List.all_nil, Bool.and_true]
      unfold evalB
      rw [if_pos (hb x (by simp)), if_pos (hb y (by simp))]
    · rw [if_neg h]
      simp only [List.all_cons, List.all_nil, Bool.and_true]
      rw [evalB_copyT]
theorem parts_trueL (row : List Val) : ∀ (l : List Ex), (partsL l).all (fun p => trueB (evalB row p)) = l.all (fun p => trueB (evalB row p))
  | [] => by rw [partsL]
  | e :: l => by rw [partsL, List.all_append, parts_true row e, parts_trueL row l, List.all_cons]
end
mutual
theorem parts_le : ∀ (e : Ex) (N H : Int) {c h : Int}, measE soundE e N H = (c, h, true) → ((partsE e).length : Int) ≤ c
  | .mk op n v l, N, H, c, h, he => by
    have hle := meas_le soundE _ N H he
    rw [partsE]
    split
    · rw [measE] at he
      split at he
      · injection he with _ he; injection he with _ he; cases he
      · rename_i hc
        simp only [Bool.or_eq_true, decide_eq_true_eq, not_or] at hc
        cases hm : measL soundE l N H 1 0 with
        | none => rw [hm] at he; simp only at he; injection he with _ he; injection he with _ he; cases he
        | some q =>
          rw [hm] at he
          simp only at he
          injection he with e1 e2
          have := parts_leL l N H 1 0 (c' := q.1) (h' := q.2) hm
          omega
    · show ((1 : Nat) : Int) ≤ c
      omega
theorem parts_leL : ∀ (l : List Ex) (N H c h : Int) {c' h' : Int}, measL soundE l N H c h = some (c', h') → c + ((partsL l).length : Int) ≤ c'
  | [], N, H, c, h, c', h', he => by
    rw [measL] at he
    injection he with he; injection he with e1 e2
    rw [partsL]
    show c + ((0 : Nat) : Int) ≤ c'
    omega
  | e :: l, N, H, c, h, c', h', he => by
    rw [measL] at he
    split at he
    · rename_i hok
      obtain ⟨c2, h2', ok, hm⟩ : ∃ c2 h2 ok, measE soundE e (N - c) (H - 1) = (c2, h2, ok) := ⟨_, _, _, rfl⟩
      rw [hm] at he hok
      simp only at he hok
      subst hok
      have g := parts_le e (N - c) (H - 1) hm
      have := parts_leL l N H _ _ he
      rw [partsL, List.length_append]
      omega
    · cases he
end
mutual
theorem meas_any (p : Ex → Bool) : ∀ (e : Ex) (N H : Int) {c h : Int}, measE p e N H = (c, h, true) → measE allE e N H = (c, h, true)
  | .mk op n v l, N, H, c, h, he => by
    rw [measE] at he ⊢
    split at he
    · injection he with _ he; injection he with _ he; cases he
    · rename_i hc
      simp only [Bool.or_eq_true, decide_eq_true_eq, not_or, Bool.not_eq_true'] at hc
      rw [if_neg (by simp only [Bool.or_eq_true, decide_eq_true_eq, not_or, Bool.not_eq_true']; exact ⟨hc.1, by simp [allE]⟩)]
      cases hm : measL p l N H 1 0 with
      | none => rw [hm] at he; simp only at he; injection he with _ he; injection he with _ he; cases he
      | some q =>
        rw [hm] at he
        rw [measL_any p l N H 1 0 (by rw [hm])]
        exact he
theorem measL_any (p : Ex → Bool) : ∀ (l : List Ex) (N H c h : Int) {q : Int × Int}, measL p l N H c h = some q → measL allE l N H c h = some q
  | [], N, H, c, h, q, he => by rw [measL] at he ⊢; exact he
  | e :: l, N, H, c, h, q, he => by
    rw [measL] at he ⊢
    split at he
    · rename_i hok
      obtain ⟨c2, h2', ok, hm⟩ : ∃ c2 h2 ok, measE p e (N - c) (H - 1) = (c2, h2, ok) := ⟨_, _, _, rfl⟩
      rw [hm] at he hok
      simp only at he hok
      subst hok
      rw [meas_any p e (N - c) (H - 1) hm]
      simp only [if_true]
      exact measL_any p l N H _ _ he
    · cases he
end
theorem built_ends {e : Ex} (h : builtE e = true) : (measE allE e 33554432 131072).2.2 = true := by
  obtain ⟨c, h2, ok, hm⟩ : ∃ c h2 ok, measE soundE e 400 40 = (c, h2, ok) := ⟨_, _, _, rfl⟩
  unfold builtE at h
  rw [hm] at h
  simp only at h
  subst h
  rw [meas_mono allE e 400 40 33554432 131072 (meas_any soundE e 400 40 hm) (by omega) (by omega)]
theorem parts_400 {e : Ex} (h : builtE e = true) : (partsE e).length ≤ 400 := by
  obtain ⟨c, h2, ok, hm⟩ : ∃ c h2 ok, measE soundE e 400 40 = (c, h2, ok) := ⟨_, _, _, rfl⟩
  unfold builtE at h
  rw [hm] at h
  simp only at h
  subst h
  have g1 := meas_le soundE e 400 40 hm
  have g2 := parts_le e 400 40 hm
  omega
theorem parts_pos (e : Ex) : 0 < (partsE e).length := by
  suffices H : ∀ (k : Nat) (e : Ex), e.size ≤ k → 0 < (partsE e).length from H e.size e (Nat.le_refl _)
  intro k
  induction k with
  | zero => intro e hs; rw [Ex.size_mk] at hs; omega
  | succ k ih =>
    intro e hs
    rw [partsE_eq]
    split
    · rename_i h
      simp only [Bool.and_eq_true, beq_iff_eq] at h
      obtain ⟨x, y, hxy⟩ := two_args (built_good h.2) (by rw [h.1]; decide)
      rw [hxy, partsL, List.length_append]
      have := ih x (by have := Ex.size_arg (e := e) (i := 0) (x := x) (by rw [hxy]; rfl); omega)
      omega
    · exact Nat.zero_lt_one
theorem parts_fin : ∀ (k : Nat) (e : Ex), e.size ≤ k → e.fin → ∀ p ∈ partsE e, p.fin := by
  intro k
  induction k with
  | zero => intro e hs; rw [Ex.size_mk] at hs; omega
  | succ k ih =>
    intro e hs hf p hp
    rw [partsE_eq] at hp
    split at hp
    · rename_i h
      simp only [Bool.and_eq_true, beq_iff_eq] at h
      obtain ⟨x, y, hxy⟩ := two_args (built_good h.2) (by rw [h.1]; decide)
      rw [hxy, partsL, partsL, partsL, List.append_nil, List.mem_append] at hp
      have h0 : e.args[0]? = some x := by rw [hxy]; rfl
      have h1 : e.args[1]? = some y := by rw [hxy]; rfl
      have := Ex.size_arg h0
      have := Ex.size_arg h1
      rcases hp with hp | hp
      · exact ih x (by omega) (Ex.fin_arg hf h0) p hp
      · exact ih y (by omega) (Ex.fin_arg hf h1) p hp
    · rw [List.mem_singleton] at hp
      subst hp
      exact copyT_fin hf
end Go.Proofs.YtmagpdblacgneaaGreat
set_option linter.unusedSimpArgs false
set_option linter.unusedVariables false
set_option maxRecDepth 100000
namespace Go.Proofs.YtmagpdblacgneaaGreat
open Go.RowKit Go.Sort

/-- What Parts answers: a list of its own, of trees of their own. -/
def PartsK (w : World) (e : Ex) (r : Ending) (w' : World) : Prop := ∃ (g cap : Nat) (L : List Nd) (K : Nat → Nat → Prop), r = .returned (.slice (some ⟨g, 0, none⟩) L.length cap) ∧ OwnE w' w.heap.size (.slice (some ⟨g, 0, none⟩) L.length cap) L ∧ L.map (·.1) = partsE e ∧ ((∀ (i : Nat) (q : Nd), L[i]? = some q → Ow w' q.1.args q.2.1 q.2.2 (K i)) ∧ (∀ (i b : Nat), K i b → w.heap.size ≤ b ∧ b < w'.heap.size ∧ b ≠ g) ∧ ∀ (i j b : Nat), i ≠ j → K i b → K j b → False) ∧ Below w.heap.size w w'
theorem own_one (w : World) (base : Nat) (hb : base ≤ w.heap.size) (q : Nd) : OwnE (w.alloc (.cells #[.int .i64 q.1.op, .int .i64 q.1.n, .int .i64 q.1.v.k, .int .i64 q.1.v.n, .string q.1.v.s, .slice q.2.1 q.1.args.length q.2.2] 26)) base (.slice (some ⟨w.heap.size, 0, none⟩) 1 1) [q] :=
  ⟨rfl, .inr ⟨w.heap.size, 1, _, rfl, hb, Go.Deep.blk_alloc_new _ _, Nat.le_refl _, by unfold maxLen; omega, rfl, rfl⟩⟩
theorem leaf_k2 {w w1 w2 : World} {e : Ex} {a2 : Option Addr} {c2 : Nat} (h1 : Below w.heap.size w w1) (hb : Below w1.heap.size w1 w2) (hL : ExK w1.heap.size w2 a2 c2 (copyT e).args) (hp : partsE e = [copyT e]) :
    PartsK w e (.returned (.slice (some ⟨w2.heap.size, 0, none⟩) 1 1)) (w2.alloc (.cells #[.int .i64 (copyT e).op, .int .i64 (copyT e).n, .int .i64 (copyT e).v.k, .int .i64 (copyT e).v.n, .string (copyT e).v.s, .slice a2 (copyT e).args.length c2] 26)) := by
  have hs := h1.size
  have hs2 := hb.size
  obtain ⟨F, hF, hFb⟩ := hL
  have hba := below_alloc (Below.refl _ w2) (.cells #[.int .i64 (copyT e).op, .int .i64 (copyT e).n, .int .i64 (copyT e).v.k, .int .i64 (copyT e).v.n, .string (copyT e).v.s, .slice a2 (copyT e).args.length c2] 26)
  have hbs := hba.size
  refine ⟨w2.heap.size, 1, [(copyT e, a2, c2)], fun i b => i = 0 ∧ F b, rfl, own_one w2 w.heap.size (by omega) (copyT e, a2, c2), by rw [hp]; rfl, ⟨fun i q hq => ?_, fun i b hb => ?_, fun i j b hij hi hj => hij (by rw [hi.1, hj.1])⟩, below_alloc (below_step h1 hb) _⟩
  · cases i with
    | zero =>
      simp only [List.getElem?_cons_zero, Option.some.injEq] at hq
      subst hq
      exact (hF.keep fun b hb => hba.block b (hFb b hb).2).wide fun b hb => ⟨rfl, hb⟩
    | succ i => simp at hq
  · have := hFb b hb.2
    exact ⟨by omega, by omega, by omega⟩
set_option maxHeartbeats 400000 in
set_option maxRecDepth 100000 in
theorem parts_leaf (e : Ex) (hf : e.fin) (hok : (measE allE e 33554432 131072).2.2 = true) (hp : partsE e = [copyT e]) (hn : e.op ≠ 19 ∨ builtE e = false) (a : Option Addr) (c : Nat) (w : World) (ha : Ex.all w a e.args) :
    Calls Tryz.prog 10 #[e.val a c] w (PartsK w e) := by
  have HOK := hide hok
  clear hok
  have HB := hide (fun (W : World) (hW : Below w.heap.size w W) => built_any e hf a c W (Ex.all_later _ ha hW))
  have HC := hide (fun (W : World) (hW : Below w.heap.size w W) => copied_any e hf a c W (Ex.all_later _ ha hW))
  have HB0 := hide (below_alloc (Below.refl _ w) (.cells #[.int .i64 e.op, .int .i64 e.n, .int .i64 e.v.k, .int .i64 e.v.n, .string e.v.s, .slice a e.args.length c] 26))
  have H6 : Hid (Six (w.alloc (.cells #[.int .i64 e.op, .int .i64 e.n, .int .i64 e.v.k, .int .i64 e.v.n, .string e.v.s, .slice a e.args.length c] 26)) w.heap.size e a c) := Six.new w e a c
  have HP := hide hp
  rw [Ex.val_open] at HB HC ⊢
  clear ha hp
  by_cases h19 : e.op = 19
  · have hb : builtE e = false := by rcases hn with h | h; exact absurd h19 h; exact h
    rw [hb] at HB
    rw [h19] at HB HC HB0 H6 ⊢
    have HBF := hide hb
    clear hn hb
    go_enter Tryz.func10, Tryz.ntmps10
    go_wp2_with (first
      | (go_at_call 21; refine (unhide HB _ (unhide HB0)).mono ?_; rintro r w1 ⟨rfl, hb1⟩; have hB1 := below_step (unhide HB0) hb1; obtain ⟨b0, b1, b2, b3, b4, b5⟩ := (unhide H6).later hb1)
      | (go_at_call 22; refine (unhide HC _ hB1).mono ?_; rintro r w2 ⟨a2, c2, rfl, hK2, hL2, hb2⟩; have HK2 := hide hK2; have HL2 := hide hL2; clear hK2 hL2; rw [Ex.val_open]))
    go_ret
    exact leaf_k2 hB1 hb2 (unhide HK2 (unhide HOK)) (unhide HP)
  · clear hn
    go_enter Tryz.func10, Tryz.ntmps10
    go_wp2_with (go_at_call 22; refine (unhide HC _ (unhide HB0)).mono ?_; rintro r w2 ⟨a2, c2, rfl, hK2, hL2, hb2⟩; have HK2 := hide hK2; have HL2 := hide hL2; clear hK2 hL2; rw [Ex.val_open])
    go_ret
    exact leaf_k2 (unhide HB0) hb2 (unhide HK2 (unhide HOK)) (unhide HP)
end Go.Proofs.YtmagpdblacgneaaGreat

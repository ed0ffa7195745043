import Derived.Test.YtmjeiepljlepbacGreatFdA
import Derived.Test.YtmjeiepljlepbacGreatExV
import Derived.Test.YtmjeiepljlepbacGreatPaG
import Derived.Shelf.Sort.Plain
import Derived.Shelf.Slices.In.SortNone
import Derived.Shelf.Slices.CompactI
import Derived.Ground.NamesProg
import Derived.Ground.Names2Prog
import Derived.Test.YtmjeiepljlepbacGreatProg
set_option linter.unusedSimpArgs false
set_option linter.unusedVariables false
set_option maxRecDepth 100000
namespace Go.Proofs.YtmjeiepljlepbacGreat
open Go.RowKit Go.Sort

theorem nd_args (e : Ex) : (nodeG simpE e).args = e.args.map foldE := rfl
theorem nd_op (e : Ex) : (nodeG simpE e).op = e.op := rfl
theorem fold_nil {e : Ex} (hg : goodE e) (hA : e.args = []) : foldE e = nodeG simpE e := by
  rw [← fold_simpR e hg]
  unfold simpR
  rw [nd_args, hA]
  rfl
theorem fold_known {e : Ex} (hg : goodE e) (h0 : e.args ≠ []) (hk : (e.args.map foldE).any notConst = false) : foldE e = conE (evalE [] (nodeG simpE e)) := by
  rw [← fold_simpR e hg]
  unfold simpR
  rw [nd_args, hk]
  have : ((e.args.map foldE).length == 0) = false := by simp; exact h0
  rw [this]
  rfl
theorem fold_and {e x y : Ex} (hg : goodE e) (hA : e.args = [x, y]) (ho : e.op = 19) (hk : (e.args.map foldE).any notConst = true) : foldE e = if (isR (foldE x) true || isR (foldE y) true) = true then conE (.num 0) else nodeG simpE e := by
  rw [← fold_simpR e hg]
  unfold simpR
  rw [nd_args, hk, nd_op, ho, hA]
  show (if (true && (isR (foldE x) true || isR (foldE y) true)) = true then conE (.num 0) else nodeG simpE e) = _
  simp
theorem fold_or {e x y : Ex} (hg : goodE e) (hA : e.args = [x, y]) (ho : e.op = 20) (hk : (e.args.map foldE).any notConst = true) : foldE e = if (isR (foldE x) false || isR (foldE y) false) = true then conE (.num 1) else nodeG simpE e := by
  rw [← fold_simpR e hg]
  unfold simpR
  rw [nd_args, hk, nd_op, ho, hA]
  show (if (true && (isR (foldE x) false || isR (foldE y) false)) = true then conE (.num 1) else nodeG simpE e) = _
  simp
theorem fold_if {e x y z : Ex} (hg : goodE e) (hA : e.args = [x, y, z]) (ho : e.op = 21) (hk : (e.args.map foldE).any notConst = true) : foldE e = if ((foldE x).op == 2) = true then (if trueB (foldE x).v = true then foldE y else foldE z) else nodeG simpE e := by
  rw [← fold_simpR e hg]
  unfold simpR
  rw [nd_args, hk, nd_op, ho, hA]
  show (if (true && ((foldE x).op == 2)) = true then (if trueB (foldE x).v = true then foldE y else foldE z) else nodeG simpE e) = _
  simp
theorem fold_else {e : Ex} (hg : goodE e) (h0 : e.args ≠ []) (hk : (e.args.map foldE).any notConst = true) (h1 : (e.op == 19) = false) (h2 : (e.op == 20) = false) (h3 : (e.op == 21) = false) : foldE e = nodeG simpE e := by
  rw [← fold_simpR e hg]
  unfold simpR
  rw [nd_args, hk, nd_op, h1, h2, h3]
  have : ((e.args.map foldE).length == 0) = false := by simp; exact h0
  rw [this]
  simp
/-- A node whose parts are folded, as a value. -/
theorem nd_val (e : Ex) (a2 : Option Addr) (c2 : Nat) : (nodeG simpE e).val a2 c2 = .agg #[.int .i64 (needE e).op, .int .i64 (needE e).n, .int .i64 (needE e).v.k, .int .i64 (needE e).v.n, .string (needE e).v.s, .slice a2 e.args.length c2] := by
  rw [Ex.val_open, nd_args, List.length_map]
  rfl
end Go.Proofs.YtmjeiepljlepbacGreat
set_option linter.unusedSimpArgs false
set_option linter.unusedVariables false
set_option maxRecDepth 100000
namespace Go.Proofs.YtmjeiepljlepbacGreat
open Go.RowKit Go.Sort

mutual
theorem eval_copy (row : List Val) : ∀ (e : Ex), goodE e → evalE row (copyE e) = evalE row e
  | .mk op n v l, hg => by
    have hl := evalL_copy row l (good_open hg).2
    have hn := no_args hg
    rw [copyE, evalE, evalE, hl]
    cases l with
    | nil =>
      rw [evalL]
      simp only [nodeV]
      rcases hn rfl with ⟨h1, _⟩ | h2
      · have h1 : op = 1 := h1
        subst h1; rfl
      · have h2 : op = 2 := h2
        subst h2
        simp only [beq_self_eq_true, if_true]
        rw [clean_clean]
    | cons x l =>
      rw [evalL]
      cases l with
      | nil => rw [evalL]; rfl
      | cons y l =>
        rw [evalL]
        cases l with
        | nil => rw [evalL]; rfl
        | cons z l => rw [evalL]; rfl
theorem evalL_copy (row : List Val) : ∀ (l : List Ex), goodL l → evalL row (copyL l) = evalL row l
  | [], _ => by rw [copyL]
  | e :: l, hg => by
    rw [goodL] at hg
    rw [copyL, evalL, evalL, eval_copy row e hg.1, evalL_copy row l hg.2]
end
theorem evalB_copy (row : List Val) (e : Ex) : evalB row (copyE e) = evalB row e := by
  unfold evalB
  rw [built_copy]
  by_cases h : builtE e = true
  · rw [if_pos h, if_pos h, eval_copy row e (built_good h)]
  · rw [if_neg h, if_neg h]
theorem evalB_copyT (row : List Val) (e : Ex) : evalB row (copyT e) = evalB row e := by
  unfold copyT
  split
  · exact evalB_copy row e
  · rfl
theorem copyT_fin {e : Ex} (h : e.fin) : (copyT e).fin := by
  unfold copyT
  split
  · exact copy_fin e h
  · exact h
mutual
/-- The parts that an expression joins by And. -/
def partsE : Ex → List Ex
  | .mk op n v l => if op == 19 && builtE (.mk op n v l) then partsL l else [copyT (.mk op n v l)]
def partsL : List Ex → List Ex
  | [] => []
  | e :: l => partsE e ++ partsL l
end
theorem partsE_eq (e : Ex) : partsE e = if e.op == 19 && builtE e then partsL e.args else [copyT e] := by cases e; rw [partsE]; rfl
theorem true_both (x y : Val) : trueB (bothV 19 x y) = (trueB x && trueB y) := by
  unfold bothV
  rw [if_pos rfl]
  obtain ⟨k1, n1, s1⟩ := x
  obtain ⟨k2, n2, s2⟩ := y
  unfold trueB falseB truthV
  simp only [Val.num, Val.null]
  by_cases a1 : k1 = 1 <;> by_cases a2 : k2 = 1 <;> by_cases b1 : n1 = 0 <;> by_cases b2 : n2 = 0 <;> simp [a1, a2, b1, b2]
mutual
theorem parts_true (row : List Val) : ∀ (e : Ex), (partsE e).all (fun p => trueB (evalB row p)) = trueB (evalB row e)
  | .mk op n v l => by
    rw [partsE]
    by_cases h : (op == 19 && builtE (.mk op n v l)) = true
    · rw [if_pos h]
      simp only [Bool.and_eq_true, beq_iff_eq] at h
      obtain ⟨h1, h2⟩ := h
      have ih := parts_trueL row l
      have hb : ∀ x ∈ l, builtE x = true := fun x hx => by
        obtain ⟨i, hi⟩ := List.getElem?_of_mem hx
        exact built_arg (e := .mk op n v l) h2 hi
      subst h1
      obtain ⟨x, y, hxy⟩ := two_args (built_good h2) (by show arI 19 = 2; decide)
      have hxy : l = [x, y] := hxy
      subst hxy
      rw [ih]
      show _ = trueB (if builtE _ then _ else _)
      rw [if_pos h2, evalE, evalL, evalL, evalL]
      show _ = trueB (bothV 19 _ _)
      rw [true_both]
      simp only [List.all_cons, List.all_nil, Bool.and_true]
      unfold evalB
      rw [if_pos (hb x (by simp)), if_pos (hb y (by simp))]
    · rw [if_neg h]
      simp only [List.all_cons, List.all_nil, Bool.and_true]
      rw [evalB_copyT]
theorem parts_trueL (row : List Val) : ∀ (l : List Ex), (partsL l).all (fun p => trueB (evalB row p)) = l.all (fun p => trueB (evalB row p))
  | [] => by rw [partsL]
  | e :: l => by rw [partsL, List.all_append, parts_true row e, parts_trueL row l, List.all_cons]
end
mutual
theorem parts_le : ∀ (e : Ex) (N H : Int) {c h : Int}, measE soundE e N H = (c, h, true) → ((partsE e).length : Int) ≤ c
  | .mk op n v l, N, H, c, h, he => by
    have hle := meas_le soundE _ N H he
    rw [partsE]
    split
    · rw [measE] at he
      split at he
      · injection he with _ he; injection he with _ he; cases he
      · rename_i hc
        simp only [Bool.or_eq_true, decide_eq_true_eq, not_or] at hc
        cases hm : measL soundE l N H 1 0 with
        | none => rw [hm] at he; simp only at he; injection he with _ he; injection he with _ he; cases he
        | some q =>
          rw [hm] at he
          simp only at he
          injection he with e1 e2
          have := parts_leL l N H 1 0 (c' := q.1) (h' := q.2) hm
          omega
    · show ((1 : Nat) : Int) ≤ c
      omega
theorem parts_leL : ∀ (l : List Ex) (N H c h : Int) {c' h' : Int}, measL soundE l N H c h = some (c', h') → c + ((partsL l).length : Int) ≤ c'
  | [], N, H, c, h, c', h', he => by
    rw [measL] at he
    injection he with he; injection he with e1 e2
    rw [partsL]
    show c + ((0 : Nat) : Int) ≤ c'
    omega
  | e :: l, N, H, c, h, c', h', he => by
    rw [measL] at he
    split at he
    · rename_i hok
      obtain ⟨c2, h2', ok, hm⟩ : ∃ c2 h2 ok, measE soundE e (N - c) (H - 1) = (c2, h2, ok) := ⟨_, _, _, rfl⟩
      rw [hm] at he hok
      simp only at he hok
      subst hok
      have g := parts_le e (N - c) (H - 1) hm
      have := parts_leL l N H _ _ he
      rw [partsL, List.length_append]
      omega
    · cases he
end
mutual
theorem meas_any (p : Ex → Bool) : ∀ (e : Ex) (N H : Int) {c h : Int}, measE p e N H = (c, h, true) → measE allE e N H = (c, h, true)
  | .mk op n v l, N, H, c, h, he => by
    rw [measE] at he ⊢
    split at he
    · injection he with _ he; injection he with _ he; cases he
    · rename_i hc
      simp only [Bool.or_eq_true, decide_eq_true_eq, not_or, Bool.not_eq_true'] at hc
      rw [if_neg (by simp only [Bool.or_eq_true, decide_eq_true_eq, not_or, Bool.not_eq_true']; exact ⟨hc.1, by simp [allE]⟩)]
      cases hm : measL p l N H 1 0 with
      | none => rw [hm] at he; simp only at he; injection he with _ he; injection he with _ he; cases he
      | some q =>
        rw [hm] at he
        rw [measL_any p l N H 1 0 (by rw [hm])]
        exact he
theorem measL_any (p : Ex → Bool) : ∀ (l : List Ex) (N H c h : Int) {q : Int × Int}, measL p l N H c h = some q → measL allE l N H c h = some q
  | [], N, H, c, h, q, he => by rw [measL] at he ⊢; exact he
  | e :: l, N, H, c, h, q, he => by
    rw [measL] at he ⊢
    split at he
    · rename_i hok
      obtain ⟨c2, h2', ok, hm⟩ : ∃ c2 h2 ok, measE p e (N - c) (H - 1) = (c2, h2, ok) := ⟨_, _, _, rfl⟩
      rw [hm] at he hok
      simp only at he hok
      subst hok
      rw [meas_any p e (N - c) (H - 1) hm]
      simp only [if_true]
      exact measL_any p l N H _ _ he
    · cases he
end
theorem built_ends {e : Ex} (h : builtE e = true) : (measE allE e 33554432 131072).2.2 = true := by
  obtain ⟨c, h2, ok, hm⟩ : ∃ c h2 ok, measE soundE e 400 40 = (c, h2, ok) := ⟨_, _, _, rfl⟩
  unfold builtE at h
  rw [hm] at h
  simp only at h
  subst h
  rw [meas_mono allE e 400 40 33554432 131072 (meas_any soundE e 400 40 hm) (by omega) (by omega)]
theorem parts_400 {e : Ex} (h : builtE e = true) : (partsE e).length ≤ 400 := by
  obtain ⟨c, h2, ok, hm⟩ : ∃ c h2 ok, measE soundE e 400 40 = (c, h2, ok) := ⟨_, _, _, rfl⟩
  unfold builtE at h
  rw [hm] at h
  simp only at h
  subst h
  have g1 := meas_le soundE e 400 40 hm
  have g2 := parts_le e 400 40 hm
  omega
theorem parts_pos (e : Ex) : 0 < (partsE e).length := by
  suffices H : ∀ (k : Nat) (e : Ex), e.size ≤ k → 0 < (partsE e).length from H e.size e (Nat.le_refl _)
  intro k
  induction k with
  | zero => intro e hs; rw [Ex.size_mk] at hs; omega
  | succ k ih =>
    intro e hs
    rw [partsE_eq]
    split
    · rename_i h
      simp only [Bool.and_eq_true, beq_iff_eq] at h
      obtain ⟨x, y, hxy⟩ := two_args (built_good h.2) (by rw [h.1]; decide)
      rw [hxy, partsL, List.length_append]
      have := ih x (by have := Ex.size_arg (e := e) (i := 0) (x := x) (by rw [hxy]; rfl); omega)
      omega
    · exact Nat.zero_lt_one
theorem parts_fin : ∀ (k : Nat) (e : Ex), e.size ≤ k → e.fin → ∀ p ∈ partsE e, p.fin := by
  intro k
  induction k with
  | zero => intro e hs; rw [Ex.size_mk] at hs; omega
  | succ k ih =>
    intro e hs hf p hp
    rw [partsE_eq] at hp
    split at hp
    · rename_i h
      simp only [Bool.and_eq_true, beq_iff_eq] at h
      obtain ⟨x, y, hxy⟩ := two_args (built_good h.2) (by rw [h.1]; decide)
      rw [hxy, partsL, partsL, partsL, List.append_nil, List.mem_append] at hp
      have h0 : e.args[0]? = some x := by rw [hxy]; rfl
      have h1 : e.args[1]? = some y := by rw [hxy]; rfl
      have := Ex.size_arg h0
      have := Ex.size_arg h1
      rcases hp with hp | hp
      · exact ih x (by omega) (Ex.fin_arg hf h0) p hp
      · exact ih y (by omega) (Ex.fin_arg hf h1) p hp
    · rw [List.mem_singleton] at hp
      subst hp
      exact copyT_fin hf
end Go.Proofs.YtmjeiepljlepbacGreat
/-
  DERIVED: THE SHELF's CONTRACTS AT THIS DUMP, IN PLAIN WORDS (tools/lay-plain.mjs out of 'YtmjeiepljlepbacGreatShelf.lean', which tools/lay-shelf.mjs wrote): THE SAME DECLARATIONS UNDER THE SAME NAMES: 'import', 'namespace', 'open', 'def', 'theorem' AND NOTHING ELSE: no command of the shelf's: FOR A HAND-IN. Each laying: the table of numbers ('.._ren') and one theorem, a field a fact of the dump's own or the kernel's comparison; each contract: ONE APPLICATION.
-/
namespace Go.Proofs
open Go.Shelf
def Tryz.sortI_ren : Go.Shelf.Ren := ⟨fun | 189 => 75 | 125 => 113 | 257 => 112 | 128 => 170 | 129 => 171 | 294 => 161 | 295 => 162 | 296 => 163 | 297 => 164 | 298 => 165 | 299 => 166 | 216 => 167 | 300 => 168 | 301 => 169 | 328 => 207 | 329 => 208 | 330 => 209 | 331 => 210 | 332 => 211 | 215 => 212 | 343 => 228 | n => n, fun | 28 => 23 | 3 => 3 | 46 => 137 | 0 => 0 | 51 => 175 | 53 => 144 | 4 => 4 | 183 => 168 | 182 => 167 | 131 => 102 | 5 => 5 | 9 => 9 | 218 => 195 | 222 => 198 | 228 => 211 | 229 => 60 | n => n, fun | n => n⟩
theorem Tryz.sortI : Go.Proofs.Lays.n189 Tryz.prog Tryz.sortI_ren := {
  mixed := by kernel_rfl
  f125 := Tryz.func113.trans (congrArg some (by kernel_rfl))
  f128 := Tryz.func170.trans (congrArg some (by kernel_rfl))
  f129 := Tryz.func171.trans (congrArg some (by kernel_rfl))
  f189 := Tryz.func75.trans (congrArg some (by kernel_rfl))
  f215 := Tryz.func212.trans (congrArg some (by kernel_rfl))
  f216 := Tryz.func167.trans (congrArg some (by kernel_rfl))
  f257 := Tryz.func112.trans (congrArg some (by kernel_rfl))
  f294 := Tryz.func161.trans (congrArg some (by kernel_rfl))
  f295 := Tryz.func162.trans (congrArg some (by kernel_rfl))
  f296 := Tryz.func163.trans (congrArg some (by kernel_rfl))
  f297 := Tryz.func164.trans (congrArg some (by kernel_rfl))
  f298 := Tryz.func165.trans (congrArg some (by kernel_rfl))
  f299 := Tryz.func166.trans (congrArg some (by kernel_rfl))
  f300 := Tryz.func168.trans (congrArg some (by kernel_rfl))
  f301 := Tryz.func169.trans (congrArg some (by kernel_rfl))
  f328 := Tryz.func207.trans (congrArg some (by kernel_rfl))
  f329 := Tryz.func208.trans (congrArg some (by kernel_rfl))
  f330 := Tryz.func209.trans (congrArg some (by kernel_rfl))
  f331 := Tryz.func210.trans (congrArg some (by kernel_rfl))
  f332 := Tryz.func211.trans (congrArg some (by kernel_rfl))
  f343 := Tryz.func228.trans (congrArg some (by kernel_rfl))
  t0 := Tryz.underlying0
  a0 := Tryz.isAgg0
  z0 := Tryz.sizeOf0
  v0 := Tryz.zeroValue0
  t3 := Tryz.underlying3
  a3 := Tryz.isAgg3
  z3 := Tryz.sizeOf3
  v3 := Tryz.zeroValue3
  t4 := Tryz.underlying4
  a4 := Tryz.isAgg4
  z4 := Tryz.sizeOf4
  v4 := Tryz.zeroValue4
  t5 := Tryz.underlying5
  a5 := Tryz.isAgg5
  z5 := Tryz.sizeOf5
  v5 := Tryz.zeroValue5
  t9 := Tryz.underlying9
  a9 := Tryz.isAgg9
  z9 := Tryz.sizeOf9
  v9 := Tryz.zeroValue9
  t28 := Tryz.underlying23
  a28 := Tryz.isAgg23
  z28 := Tryz.sizeOf23
  v28 := Tryz.zeroValue23
  t46 := Tryz.underlying137
  a46 := Tryz.isAgg137
  z46 := Tryz.sizeOf137
  v46 := Tryz.zeroValue137
  t51 := Tryz.underlying175
  a51 := Tryz.isAgg175
  z51 := Tryz.sizeOf175
  v51 := Tryz.zeroValue175
  t53 := Tryz.underlying144
  a53 := Tryz.isAgg144
  z53 := Tryz.sizeOf144
  v53 := Tryz.zeroValue144
  t131 := Tryz.underlying102
  a131 := Tryz.isAgg102
  z131 := Tryz.sizeOf102
  v131 := Tryz.zeroValue102
  t182 := Tryz.underlying167
  a182 := Tryz.isAgg167
  z182 := Tryz.sizeOf167
  v182 := Tryz.zeroValue167
  t183 := Tryz.underlying168
  a183 := Tryz.isAgg168
  z183 := Tryz.sizeOf168
  v183 := Tryz.zeroValue168
  t218 := Tryz.underlying195
  a218 := Tryz.isAgg195
  z218 := Tryz.sizeOf195
  v218 := Tryz.zeroValue195
  t222 := Tryz.underlying198
  a222 := Tryz.isAgg198
  z222 := Tryz.sizeOf198
  v222 := Tryz.zeroValue198
  t228 := Tryz.underlying211
  a228 := Tryz.isAgg211
  z228 := Tryz.sizeOf211
  v228 := Tryz.zeroValue211
  t229 := Tryz.underlying60
  a229 := Tryz.isAgg60
  z229 := Tryz.sizeOf60
  v229 := Tryz.zeroValue60 }
def Tryz.compI_ren : Go.Shelf.Ren := ⟨fun | 20 => 76 | n => n, fun | 22 => 23 | 3 => 3 | 4 => 4 | 0 => 0 | n => n, fun | n => n⟩
theorem Tryz.compI : Go.Proofs.Lays2.n20 Tryz.prog Tryz.compI_ren := {
  mixed := by kernel_rfl
  f20 := Tryz.func76.trans (congrArg some (by kernel_rfl))
  t0 := Tryz.underlying0
  a0 := Tryz.isAgg0
  z0 := Tryz.sizeOf0
  v0 := Tryz.zeroValue0
  t3 := Tryz.underlying3
  a3 := Tryz.isAgg3
  z3 := Tryz.sizeOf3
  v3 := Tryz.zeroValue3
  t4 := Tryz.underlying4
  a4 := Tryz.isAgg4
  z4 := Tryz.sizeOf4
  v4 := Tryz.zeroValue4
  t22 := Tryz.underlying23
  a22 := Tryz.isAgg23
  z22 := Tryz.sizeOf23
  v22 := Tryz.zeroValue23
  i3 := by kernel_rfl }
end Go.Proofs

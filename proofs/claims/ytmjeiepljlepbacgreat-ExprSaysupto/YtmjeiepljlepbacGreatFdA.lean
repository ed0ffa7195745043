import Derived.Test.YtmjeiepljlepbacGreatExV
import Derived.Test.YtmjeiepljlepbacGreatEvC
import Derived.Test.YtmjeiepljlepbacGreatExJ
import Derived.Test.YtmjeiepljlepbacGreatLongR
import Derived.Test.YtmjeiepljlepbacGreatPuB
set_option linter.unusedSimpArgs false
set_option linter.unusedVariables false
set_option maxRecDepth 100000
namespace Go.Proofs.YtmjeiepljlepbacGreat
open Go.RowKit Go.Sort

/-- is(i, v) of the document's fold, of the part i; b: is v 0? -/
def isR (e : Ex) (b : Bool) : Bool := (e.op == 2) && ((e.v.k == 1) && ((e.v.n == 0) == b))
/-- A node whose parts are folded, as the document folds it. -/
def simpR (e : Ex) : Ex :=
  if e.args.length == 0 then e
  else if !(e.args.any notConst) then conE (evalE [] e)
  else if e.op == 19 && (isR (e.args.getD 0 e) true || isR (e.args.getD 1 e) true) then conE (.num 0)
  else if e.op == 20 && (isR (e.args.getD 0 e) false || isR (e.args.getD 1 e) false) then conE (.num 1)
  else if e.op == 21 && ((e.args.getD 0 e).op == 2) then (if trueB (e.args.getD 0 e).v then e.args.getD 1 e else e.args.getD 2 e)
  else e
/-- A constant that is clean. -/
def ConC (x : Ex) : Prop := x.op = 2 → ∃ v, x = conE v ∧ CleanB v
theorem node_con (e : Ex) (hg : goodE e) (h2 : e.op = 2) : nodeG simpE e = conE (cleanV e.v) := by
  have ha := const_args hg h2
  unfold nodeG
  rw [ha, h2]
  rfl
theorem fold_con : ∀ e, goodE e → ConC (foldE e) := fold_ind _ fun e hg ih => by
  have hgn := fold_node e hg
  have hin : ∀ x ∈ (nodeG simpE e).args, ConC x := fun x hx => by
    obtain ⟨y, hy, rfl⟩ := List.mem_map.1 (show x ∈ e.args.map (madeE simpE) from hx)
    exact (ih y hy).2
  show ConC (madeE simpE e)
  rw [madeE_eq]
  rcases simp_cases (nodeG simpE e) hgn with ⟨h1, h2, h3⟩ | h | ⟨h19, x, y, hxy, h⟩ | ⟨h20, ⟨x, y, hxy, h⟩, h3⟩ | ⟨h21, x, y, z, hxy, hx2, h⟩
  · rw [h3]; exact fun _ => ⟨_, rfl, eval_clean [] _⟩
  · rw [h]
    intro h2
    have h2' : e.op = 2 := h2
    rw [node_con e hg h2']
    exact ⟨_, rfl, cl_clean _⟩
  · rcases h with ⟨_, h⟩ | ⟨_, h⟩ <;> rw [h] <;> exact hin _ (by rw [hxy]; simp)
  · rw [h3]; exact fun _ => ⟨_, rfl, cl_num _⟩
  · rcases h with ⟨_, h⟩ | ⟨_, h⟩ <;> rw [h] <;> exact hin _ (by rw [hxy]; simp)
theorem isR_true (x : Ex) : isR x false = isTrueE x := by
  unfold isR isTrueE trueB
  cases h : (x.v.n == 0) <;> simp [h, bne]
theorem isR_zero {x : Ex} (h : ConC x) : isR x true = isZeroE x := by
  unfold isR isZeroE zeroB
  by_cases h2 : x.op = 2
  · obtain ⟨v, rfl, hc⟩ := h h2
    show (true && ((v.k == 1) && ((v.n == 0) == true))) = (true && (decide (v.k = 1) && (decide (v.n = 0) && decide (v.s = ⟨#[]⟩))))
    by_cases hk : v.k = 1
    · have hs := hc.2 (by rw [hk]; decide)
      by_cases hn : v.n = 0 <;> simp [hk, hn, hs]
    · simp [hk]
  · have e2 : (x.op == 2) = false := by simpa using h2
    simp [e2]
theorem zero_con {x : Ex} (h : ConC x) (hz : isZeroE x = true) : x = conE (.num 0) := by
  unfold isZeroE at hz
  simp only [Bool.and_eq_true, beq_iff_eq] at hz
  obtain ⟨v, rfl, hc⟩ := h hz.1
  have := zero_val hz.2
  show conE v = _
  rw [show v = .num 0 from this]
/-- Both sides fold a node alike. -/
theorem simpR_eq (e : Ex) (hg : goodE e) (hc : ∀ x ∈ e.args, ConC x) : simpR e = simpE e := by
  have hl := sound_len (good_open hg).1
  unfold simpR simpE
  by_cases h0 : e.args = []
  · have hs : ∀ op, op ≠ 1 → op ≠ 2 → (0 : Int) = arI op → op ≠ 19 ∧ op ≠ 20 ∧ op ≠ 21 := by
      intro op _ _ h
      refine ⟨?_, ?_, ?_⟩ <;> (intro h'; subst h'; revert h; decide)
    have h19 : e.op ≠ 19 := by intro h; rw [h0, h] at hl; revert hl; decide
    have h20 : e.op ≠ 20 := by intro h; rw [h0, h] at hl; revert hl; decide
    have h21 : e.op ≠ 21 := by intro h; rw [h0, h] at hl; revert hl; decide
    simp [h0, h19, h20, h21]
  · have hp : 0 < e.args.length := List.length_pos_iff.2 h0
    have hp2 : (e.args.length == 0) = false := by simp; exact h0
    rw [hp2, if_neg (by simp : ¬ (false = true))]
    cases ha : e.args.any notConst with
    | false => rw [if_pos (by rfl), if_pos (by simp [hp])]
    | true =>
      rw [if_neg (by simp : ¬ ((!true) = true)), if_neg (by simp : ¬ ((decide (0 < e.args.length) && !true) = true))]
      by_cases h19 : e.op = 19
      · obtain ⟨x, y, hxy⟩ := two_args hg (by rw [h19]; decide)
        have cx := hc x (by rw [hxy]; simp)
        have cy := hc y (by rw [hxy]; simp)
        rw [hxy, h19]
        show (if (true && (isR x true || isR y true)) = true then conE (.num 0) else if (false && _) = true then _ else if (false && _) = true then _ else e) = (if isZeroE x = true then x else if isZeroE y = true then y else e)
        rw [isR_zero cx, isR_zero cy]
        cases hx : isZeroE x with
        | true => simp [zero_con cx hx]
        | false =>
          cases hy : isZeroE y with
          | true => simp [zero_con cy hy]
          | false => simp
      · by_cases h20 : e.op = 20
        · obtain ⟨x, y, hxy⟩ := two_args hg (by rw [h20]; decide)
          rw [hxy, h20]
          show (if (false && _) = true then _ else if (true && (isR x false || isR y false)) = true then conE (.num 1) else if (false && _) = true then _ else e) = (if (isTrueE x || (isTrueE y || false)) = true then conE (.num 1) else e)
          rw [isR_true, isR_true]
          simp
        · by_cases h21 : e.op = 21
          · rw [h21, show arI 21 = 3 by decide] at hl
            match he : e.args, hl with
            | [x, y, z], _ =>
              rw [h21]
              show (if (false && _) = true then _ else if (false && _) = true then _ else if (true && (x.op == 2)) = true then (if trueB x.v = true then y else z) else e) = (if (x.op == 2) = true then (if isTrueE x = true then y else z) else e)
              cases h2 : (x.op == 2) with
              | false => simp
              | true => simp [isTrueE, h2]
            | [], hl => simp at hl
            | [_], hl => simp at hl
            | [_, _], hl => simp at hl
            | _ :: _ :: _ :: _ :: _, hl => simp at hl; omega
          · simp [h19, h20, h21]
/-- The document's fold of what has no more than it needs is the program's. -/
theorem fold_simpR (e : Ex) (hg : goodE e) : simpR (nodeG simpE e) = foldE e := by
  rw [simpR_eq _ (fold_node e hg) fun x hx => ?_]
  · show _ = madeE simpE e
    rw [madeE_eq]
  · obtain ⟨y, hy, rfl⟩ := List.mem_map.1 (show x ∈ e.args.map (madeE simpE) from hx)
    exact fold_con y (goodL_mem (good_open hg).2 hy)
end Go.Proofs.YtmjeiepljlepbacGreat
set_option linter.unusedSimpArgs false
set_option linter.unusedVariables false
namespace Go.Proofs.YtmjeiepljlepbacGreat
open Go.RowKit Go.Sort

/-- tallyref.eval (73), where each node is one that may be. -/
theorem reval_all (row : List Val) (hv : ∀ x ∈ row, VOk x) (hrl : row.length ≤ 140737488355328) (aR : Option Addr) (cR : Nat) : ∀ (k : Nat) (e : Ex), e.size ≤ k → e.fin → goodE e → ∀ (a : Option Addr) (c : Nat) (w : World), Ex.all w a e.args → RowAt w aR row → Calls Tryz.prog 73 #[e.val a c, .slice aR row.length cR] w fun r w' => r = .returned (evalE row e).v ∧ Below w.heap.size w w'
  | 0, e, hs, _, _, _, _, _, _, _ => by rw [Ex.size_mk] at hs; omega
  | k + 1, e, hs, hf, hg, a, c, w, ha, hr => reval_step (fun op x y hx hy W => rreckon_any op x y hx hy W) row hrl aR cR e hf hg (fun x hx => eval_ok hv x (Ex.fins_mem (Ex.fin_open hf).2 hx)) a c w ha hr fun i x hx a' c' W hW hR => reval_all row hv hrl aR cR k x (by have := Ex.size_arg hx; omega) (Ex.fin_arg hf hx) (good_arg hg hx) a' c' W hW hR
theorem reval_any (row : List Val) (hv : ∀ x ∈ row, VOk x) (hrl : row.length ≤ 140737488355328) (aR : Option Addr) (cR : Nat) (e : Ex) (hf : e.fin) (hg : goodE e) (a : Option Addr) (c : Nat) (w : World) (ha : Ex.all w a e.args) (hr : RowAt w aR row) :
    Calls Tryz.prog 73 #[e.val a c, .slice aR row.length cR] w fun r w' => r = .returned (evalE row e).v ∧ Below w.heap.size w w' := reval_all row hv hrl aR cR e.size e (Nat.le_refl _) hf hg a c w ha hr
end Go.Proofs.YtmjeiepljlepbacGreat
set_option linter.unusedSimpArgs false
set_option linter.unusedVariables false
set_option maxRecDepth 100000
namespace Go.Proofs.YtmjeiepljlepbacGreat
open Go.RowKit Go.Sort

theorem ints_later {w w' : World} {a : Option Addr} {l : List Int} (h : IntsAt w a l) (hb : Below w.heap.size w w') : IntsAt w' a l := h.later hb
theorem all_drop {p : Int → Bool} {l : List Int} {k : Nat} {x : Int} (hx : l[k]? = some x) : (l.drop k).all p = (p x && (l.drop (k + 1)).all p) := by
  obtain ⟨q1, q2⟩ := List.getElem?_eq_some_iff.1 hx
  rw [List.drop_eq_getElem_cons q1, List.all_cons, q2]
set_option maxHeartbeats 1000000 in
set_option maxRecDepth 100000 in
/-- usesBelow (19). -/
theorem uses_any (e : Ex) (hg : goodE e) (hf : e.fin) (hsz : e.size ≤ 400) (n : Int) (a : Option Addr) (c : Nat) (w : World) (ha : Ex.all w a e.args) :
    Calls Tryz.prog 67 #[e.val a c, .int .i64 n] w fun r w' => r = .returned (.bool (usesB e n)) ∧ Below w.heap.size w w' := by
  have HC := hide (fun (W : World) (hW : Below w.heap.size w W) => columns_all e.size e (Nat.le_refl _) hg hf hsz a c W (Ex.all_later _ ha hW))
  have HB0 := hide (below_alloc (Below.refl _ w) (.cells #[.int .i64 e.op, .int .i64 e.n, .int .i64 e.v.k, .int .i64 e.v.n, .string e.v.s, .slice a e.args.length c] 59))
  have hcl : (colsE e).length ≤ 400 := Nat.le_trans (cols_size e) hsz
  obtain ⟨cols, hcols⟩ : ∃ cols, cols = colsE e := ⟨_, rfl⟩
  have HU : Hid (usesB e n = cols.all fun c => decide (c < n)) := by rw [hcols]; rfl
  rw [← hcols] at HC hcl
  rw [Ex.val_open] at HC ⊢
  generalize usesB e n = R at *
  clear ha hcols
  go_enter Tryz.func67, Tryz.ntmps67
  go_wp2_with (go_at_call 74; refine (unhide HC _ (unhide HB0)).mono ?_; rintro r w1 ⟨v1, rfl, hO, hb1⟩; obtain ⟨a1, cap1, rfl⟩ := hO.slice)
  have HI1 := hide hO.ints
  have HB1 := hide (below_step (unhide HB0) hb1)
  clear hO hb1
  go_loopw [10] (fun i wr => ∃ k : Nat, k ≤ cols.length ∧ i = .int .i64 (k : Int) ∧ Hid (R = (cols.drop k).all fun c => decide (c < n)) ∧ wr = w1) (fun i _ => cols.length - (intOf i).toNat)
  case atStart => exact ⟨0, Nat.zero_le _, rfl, unhide HU, rfl⟩
  case round =>
    obtain ⟨k, hk, rfl, HR, rfl⟩ := hrel
    by_cases hlt : k < cols.length
    · have h9 : (k : Int) < (cols.length : Int) := by omega
      obtain ⟨x, hx⟩ : ∃ x, cols[k]? = some x := ⟨_, List.getElem?_eq_getElem hlt⟩
      obtain ⟨b, off, rfl, c0⟩ := (unhide HI1).get hx
      rw [all_drop hx] at HR
      clear hx
      by_cases hxn : x < n
      · have hd : decide (x < n) = true := by simpa using hxn
        rw [hd, Bool.true_and] at HR
        clear hd
        go_wp2
        exact ⟨⟨k + 1, by omega, by go_num, HR, by trivial⟩, by simp [intOf]; omega⟩
      · have hd : decide (x < n) = false := by simpa using hxn
        rw [hd, Bool.false_and] at HR
        clear hd
        go_wp2
        go_ret
        exact ⟨by rw [unhide HR]; rfl, unhide HB1⟩
    · have h9 : ¬ (k : Int) < (cols.length : Int) := by omega
      rw [List.drop_eq_nil_of_le (by omega), List.all_nil] at HR
      go_wp2
      go_ret
      exact ⟨by rw [unhide HR]; rfl, unhide HB1⟩
end Go.Proofs.YtmjeiepljlepbacGreat

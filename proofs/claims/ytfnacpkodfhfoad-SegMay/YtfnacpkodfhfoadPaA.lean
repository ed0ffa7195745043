import Derived.Test.YtfnacpkodfhfoadExD
import Derived.Test.YtfnacpkodfhfoadCellR
import Derived.Test.YtfnacpkodfhfoadExA
import Derived.Deep.OwnRows
import Derived.Test.YtfnacpkodfhfoadExO
import Derived.Maps.AppendAt
import Derived.Laws.AppendOwnNone
import Derived.Lib.SliceRun
set_option linter.unusedSimpArgs false
set_option linter.unusedVariables false
namespace Go.Proofs.Ytfnacpkodfhfoad
open Go.RowKit Go.Sort

mutual
/-- With no more than each operator needs. -/
def copyE : Ex → Ex
  | .mk op n v l => .mk op (if op == 1 then n else 0) (if op == 2 then cleanV v else .null) (copyL l)
def copyL : List Ex → List Ex
  | [] => []
  | e :: l => copyE e :: copyL l
end
theorem copyL_map : ∀ l : List Ex, copyL l = l.map copyE
  | [] => by rw [copyL]; rfl
  | e :: l => by rw [copyL, copyL_map l]; rfl
theorem copyE_eq (e : Ex) : copyE e = .mk e.op (if e.op == 1 then e.n else 0) (if e.op == 2 then cleanV e.v else .null) (e.args.map copyE) := by
  cases e with
  | mk op n v l => rw [copyE, copyL_map]; rfl
theorem copy_op (e : Ex) : (copyE e).op = e.op := by rw [copyE_eq]; rfl
theorem copy_args (e : Ex) : (copyE e).args = e.args.map copyE := by rw [copyE_eq]; rfl
theorem copy_n (e : Ex) : (copyE e).n = if e.op == 1 then e.n else 0 := by rw [copyE_eq]; rfl
theorem copy_v (e : Ex) : (copyE e).v = if e.op == 2 then cleanV e.v else .null := by rw [copyE_eq]; rfl
theorem sound_copy (e : Ex) : soundE (copyE e) = soundE e := by
  have ho := copy_op e
  have hl : (copyE e).args.length = e.args.length := by rw [copy_args, List.length_map]
  have hn := copy_n e
  have hv := copy_v e
  unfold soundE
  rw [ho, hl, hn, hv]
  generalize e.op = op
  by_cases h1 : op = 1
  · subst h1; rfl
  · by_cases h2 : op = 2
    · subst h2
      simp [clean_clean]
    · have e1 : (op == 1) = false := by simpa using h1
      have e2 : (op == 2) = false := by simpa using h2
      rw [e1, e2]
      rfl
mutual
theorem meas_copy : ∀ (e : Ex) (N H : Int), measE soundE (copyE e) N H = measE soundE e N H
  | .mk op n v l, N, H => by
    have hs := sound_copy (.mk op n v l)
    rw [copyE] at hs ⊢
    rw [measE, measE, hs, measL_copy l]
theorem measL_copy : ∀ (l : List Ex) (N H c h : Int), measL soundE (copyL l) N H c h = measL soundE l N H c h
  | [], N, H, c, h => by rw [copyL]
  | e :: l, N, H, c, h => by
    rw [copyL, measL, measL, meas_copy e, measL_copy l]
end
theorem built_copy (e : Ex) : builtE (copyE e) = builtE e := by unfold builtE; rw [meas_copy]
theorem in64_zero : In64 0 := ⟨by decide, by decide⟩
theorem clean_in (v : Val) (h : In64 v.n) : In64 (cleanV v).n := by
  unfold cleanV
  split
  · exact h
  · split
    · exact in64_zero
    · exact in64_zero
mutual
theorem copy_fin : ∀ (e : Ex), e.fin → (copyE e).fin
  | .mk op n v l, h => by
    rw [Ex.fin] at h
    rw [copyE, Ex.fin]
    obtain ⟨⟨h1, h2, h3, h4⟩, h5⟩ := h
    refine ⟨⟨by rw [copyL_map, List.length_map]; exact h1, ?_, ?_, ?_⟩, copy_fins l h5⟩
    · split
      · exact Nat.le_trans (clean_size v) h2
      · exact Nat.zero_le _
    · split
      · exact clean_in v h3
      · exact in64_zero
    · split
      · exact h4
      · exact in64_zero
theorem copy_fins : ∀ (l : List Ex), Ex.fins l → Ex.fins (copyL l)
  | [], _ => by rw [copyL, Ex.fins]; trivial
  | e :: l, h => by
    rw [Ex.fins] at h
    rw [copyL, Ex.fins]
    exact ⟨copy_fin e h.1, copy_fins l h.2⟩
end
/-! A greater budget measures the same. -/
mutual
theorem meas_mono (p : Ex → Bool) : ∀ (e : Ex) (N H N' H' : Int) {c h : Int}, measE p e N H = (c, h, true) → N ≤ N' → H ≤ H' → measE p e N' H' = (c, h, true)
  | .mk op n v l, N, H, N', H', c, h, he, h1, h2 => by
    rw [measE] at he ⊢
    split at he
    · injection he with _ he; injection he with _ he; cases he
    · rename_i hc
      simp only [Bool.or_eq_true, decide_eq_true_eq, not_or, Bool.not_eq_true'] at hc
      have hp : p (.mk op n v l) = true := by simpa using hc.2
      rw [if_neg (by simp only [Bool.or_eq_true, decide_eq_true_eq, not_or, Bool.not_eq_true']; exact ⟨⟨by omega, by omega⟩, by simp [hp]⟩)]
      cases hm : measL p l N H 1 0 with
      | none => rw [hm] at he; simp only at he; injection he with _ he; injection he with _ he; cases he
      | some q =>
        rw [hm] at he
        rw [measL_mono p l N H N' H' 1 0 (by rw [hm]) h1 h2]
        exact he
theorem measL_mono (p : Ex → Bool) : ∀ (l : List Ex) (N H N' H' c h : Int) {q : Int × Int}, measL p l N H c h = some q → N ≤ N' → H ≤ H' → measL p l N' H' c h = some q
  | [], N, H, N', H', c, h, q, he, h1, h2 => by rw [measL] at he ⊢; exact he
  | e :: l, N, H, N', H', c, h, q, he, h1, h2 => by
    rw [measL] at he ⊢
    split at he
    · rename_i hok
      obtain ⟨c2, h2', ok, hm⟩ : ∃ c2 h2 ok, measE p e (N - c) (H - 1) = (c2, h2, ok) := ⟨_, _, _, rfl⟩
      rw [hm] at he hok
      simp only at he hok
      subst hok
      rw [meas_mono p e (N - c) (H - 1) (N' - c) (H' - 1) hm (by omega) (by omega)]
      simp only [if_true]
      exact measL_mono p l N H N' H' _ _ he h1 h2
    · cases he
end
theorem measL_mem (p : Ex → Bool) : ∀ (l : List Ex) (N H c h : Int) (x : Ex), 1 ≤ c → 0 ≤ h → (measL p l N H c h).isSome = true → x ∈ l → ∃ N' H', N' ≤ N ∧ H' ≤ H ∧ (measE p x N' H').2.2 = true
  | [], N, H, c, h, x, _, _, he, hx => by cases hx
  | e :: l, N, H, c, h, x, h1, h2, he, hx => by
    rw [measL] at he
    split at he
    · rename_i hok
      rcases List.mem_cons.1 hx with rfl | hx
      · exact ⟨N - c, H - 1, by omega, by omega, hok⟩
      · obtain ⟨c2, h2', ok, hm⟩ : ∃ c2 h2 ok, measE p e (N - c) (H - 1) = (c2, h2, ok) := ⟨_, _, _, rfl⟩
        rw [hm] at he hok
        simp only at he hok
        subst hok
        have g := meas_le p e (N - c) (H - 1) hm
        exact measL_mem p l N H _ _ x (by omega) (by omega) he hx
    · cases he
theorem built_arg {e x : Ex} {i : Nat} (h : builtE e = true) (hx : e.args[i]? = some x) : builtE x = true := by
  unfold builtE at h ⊢
  rw [measE_eq] at h
  split at h
  · cases h
  · cases hm : measL soundE e.args 400 40 1 0 with
    | none => rw [hm] at h; cases h
    | some q =>
      obtain ⟨N', H', h1, h2, h3⟩ := measL_mem soundE e.args 400 40 1 0 x (by omega) (by omega) (by rw [hm]; rfl) (List.mem_of_getElem? hx)
      obtain ⟨c2, h2', ok, hk⟩ : ∃ c2 h2 ok, measE soundE x N' H' = (c2, h2, ok) := ⟨_, _, _, rfl⟩
      rw [hk] at h3
      simp only at h3
      subst h3
      rw [meas_mono soundE x N' H' 400 40 hk h1 h2]
/-- A node without its parts, with no more than its operator needs. -/
def needE (e : Ex) : Ex := .mk e.op (if e.op == 1 then e.n else 0) (if e.op == 2 then cleanV e.v else .null) []
mutual
/-- Made anew from the leaves on. -/
def madeE (g : Ex → Ex) : Ex → Ex
  | .mk op n v l => g (.mk op (if op == 1 then n else 0) (if op == 2 then cleanV v else .null) (madeL g l))
def madeL (g : Ex → Ex) : List Ex → List Ex
  | [] => []
  | e :: l => madeE g e :: madeL g l
end
theorem madeL_map (g : Ex → Ex) : ∀ l : List Ex, madeL g l = l.map (madeE g)
  | [] => by rw [madeL]; rfl
  | e :: l => by rw [madeL, madeL_map g l]; rfl
/-- A node with its parts made. -/
def nodeG (g : Ex → Ex) (e : Ex) : Ex := .mk e.op (if e.op == 1 then e.n else 0) (if e.op == 2 then cleanV e.v else .null) (e.args.map (madeE g))
theorem madeE_eq (g : Ex → Ex) (e : Ex) : madeE g e = g (nodeG g e) := by
  cases e with
  | mk op n v l => rw [madeE, madeL_map]; rfl
mutual
theorem made_copy : ∀ e : Ex, madeE id e = copyE e
  | .mk op n v l => by rw [madeE, copyE, made_copyL l]; rfl
theorem made_copyL : ∀ l : List Ex, madeL id l = copyL l
  | [] => by rw [madeL, copyL]
  | e :: l => by rw [madeL, copyL, made_copy e, made_copyL l]
end
mutual
/-- No list in it is long. -/
def Ex.short : Ex → Prop
  | .mk _ _ _ l => l.length ≤ 1000000000 ∧ Ex.shorts l
def Ex.shorts : List Ex → Prop
  | [] => True
  | e :: l => e.short ∧ Ex.shorts l
end
theorem Ex.short_open {e : Ex} (h : e.short) : e.args.length ≤ 1000000000 ∧ Ex.shorts e.args := by
  cases e with
  | mk op n v l => rw [Ex.short] at h; exact h
theorem Ex.shorts_mem : ∀ {l : List Ex} {x : Ex}, Ex.shorts l → x ∈ l → x.short
  | [], _, _, h => by cases h
  | e :: l, x, hf, h => by
    rw [Ex.shorts] at hf
    rcases List.mem_cons.1 h with rfl | h
    · exact hf.1
    · exact Ex.shorts_mem hf.2 h
theorem Ex.short_arg {e x : Ex} {i : Nat} (h : e.short) (hx : e.args[i]? = some x) : x.short := Ex.shorts_mem (Ex.short_open h).2 (List.mem_of_getElem? hx)
mutual
theorem meas_short (p : Ex → Bool) : ∀ (e : Ex) (N H : Int), N ≤ 1000000000 → (measE p e N H).2.2 = true → e.short
  | .mk op n v l, N, H, hN, he => by
    rw [measE] at he
    split at he
    · cases he
    · rename_i hc
      simp only [Bool.or_eq_true, decide_eq_true_eq, not_or] at hc
      cases hm : measL p l N H 1 0 with
      | none => rw [hm] at he; cases he
      | some q =>
        rw [Ex.short]
        have := measL_short p l N H 1 0 (q := q) (by omega) (by omega) (by omega) (by omega) hN hm
        have h2 := measL_le p l N H 1 0 (c' := q.1) (h' := q.2) (by omega) (by omega) (by omega) (by omega) hm
        exact ⟨by omega, this.2⟩
theorem measL_short (p : Ex → Bool) : ∀ (l : List Ex) (N H c h : Int) {q : Int × Int}, 1 ≤ c → c ≤ N → 0 ≤ h → h ≤ H - 1 → N ≤ 1000000000 → measL p l N H c h = some q → c + l.length ≤ q.1 ∧ Ex.shorts l
  | [], N, H, c, h, q, h1, h2, h3, h4, hN, he => by
    rw [measL] at he
    injection he with he
    subst he
    exact ⟨by show c + ((0 : Nat) : Int) ≤ c; omega, by rw [Ex.shorts]; trivial⟩
  | e :: l, N, H, c, h, q, h1, h2, h3, h4, hN, he => by
    rw [measL] at he
    split at he
    · rename_i hok
      have hs := meas_short p e (N - c) (H - 1) (by omega) hok
      obtain ⟨c2, h2', ok, hm⟩ : ∃ c2 h2 ok, measE p e (N - c) (H - 1) = (c2, h2, ok) := ⟨_, _, _, rfl⟩
      rw [hm] at he hok
      simp only at he hok
      subst hok
      have g := meas_le p e (N - c) (H - 1) hm
      have := measL_short p l N H (c + c2) (max h h2') (by omega) (by omega) (by omega) (by omega) hN he
      rw [Ex.shorts, List.length_cons]
      exact ⟨by omega, hs, this.2⟩
    · cases he
end
end Go.Proofs.Ytfnacpkodfhfoad
set_option linter.unusedSimpArgs false
set_option linter.unusedVariables false
namespace Go.Proofs.Ytfnacpkodfhfoad
open Go.RowKit Go.Sort

theorem own_later {w w1 : World} {base e size : Nat} {v : Value} {m : Nat} {xs : List Value} (h : w.ownsRow base e size v m xs) (hb : Below w.heap.size w w1) : w1.ownsRow base e size v m xs :=
  h.kept (row := none) ⟨hb.os, hb.tape, hb.output, hb.size, fun k hk _ => hb.block k hk⟩ (by cases v.ownBlock with | none => exact .inl rfl | some g => exact .inr (by simp))
theorem grown_below {w w' : World} {row : Option Nat} (hg : w.grownBy w' row) {B : Nat} (hB : B ≤ w.heap.size) (hr : ∀ g, row = some g → B ≤ g) : Below B w w' :=
  ⟨hg.os, hg.tape, hg.output, hg.size, fun k hk => hg.block k (by omega) (fun e => by have := hr k e.symm; omega)⟩
end Go.Proofs.Ytfnacpkodfhfoad
set_option linter.unusedSimpArgs false
set_option linter.unusedVariables false
namespace Go.Proofs.Ytfnacpkodfhfoad
open Go.RowKit Go.Sort

/-- A node, and where its parts lie. -/
abbrev Nd := Ex × Option Addr × Nat
def sh (q : Nd) : List Value := [.int .i64 q.1.op, .int .i64 q.1.n, .int .i64 q.1.v.k, .int .i64 q.1.v.n, .string q.1.v.s, .slice q.2.1 q.1.args.length q.2.2]
theorem info26 : (Try.prog.info? 26).map (fun i => (i.zero, i.size, i.bytes)) = some (some (.agg #[.int .i64 0, .int .i64 0, .int .i64 0, .int .i64 0, .string ⟨#[]⟩, .slice none 0 0]), 6, 72) := by kernel_rfl
/-- The slice of expressions v, a row of the call's own, holds L. -/
def OwnE (w : World) (base : Nat) (v : Value) (L : List Nd) : Prop := w.ownsRow base 26 6 v L.length (L.flatMap sh)
theorem OwnE.later {w w1 : World} {base : Nat} {v : Value} {xs : List Nd} (h : OwnE w base v xs) (hb : Below w.heap.size w w1) : OwnE w1 base v xs := own_later h hb
theorem sh_at : ∀ (zs : List Nd) (i j : Nat) (x : Nd), zs[i]? = some x → j < 6 → (zs.flatMap sh)[i * 6 + j]? = (sh x)[j]?
  | [], i, j, x, h, _ => by simp at h
  | z :: zs, 0, j, x, h, hj => by
    simp at h
    subst h
    rw [List.flatMap_cons, List.getElem?_append_left (by simp [sh]; omega)]
    simp
  | z :: zs, i + 1, j, x, h, hj => by
    have ih := sh_at zs i j x (by simpa using h) hj
    rw [List.flatMap_cons, List.getElem?_append_right (by simp [sh]; omega)]
    rw [← ih]
    congr 1
    simp [sh]
    omega
theorem sh_len (zs : List Nd) : (zs.flatMap sh).length = zs.length * 6 := by
  induction zs with
  | nil => rfl
  | cons z zs ih => rw [List.flatMap_cons, List.length_append, ih]; simp [sh]; omega
theorem sh_all (xs : List Nd) : ∀ u ∈ xs.flatMap sh, u.oneCell' = true := by
  intro u hu
  obtain ⟨x, _, hx⟩ := List.mem_flatMap.1 hu
  simp [sh] at hx
  rcases hx with rfl | rfl | rfl | rfl | rfl | rfl <;> rfl
theorem sh_set : ∀ (L : List Nd) (j : Nat) (x : Nd), j < L.length →
    ((((((L.flatMap sh).set (j * 6) (.int .i64 x.1.op)).set (j * 6 + 1) (.int .i64 x.1.n)).set (j * 6 + 2) (.int .i64 x.1.v.k)).set (j * 6 + 3) (.int .i64 x.1.v.n)).set (j * 6 + 4) (.string x.1.v.s)).set (j * 6 + 5) (.slice x.2.1 x.1.args.length x.2.2) = (L.set j x).flatMap sh
  | [], j, x, h => by simp at h
  | z :: L, 0, x, _ => by simp [sh]
  | z :: L, j + 1, x, h => by
    have ih := sh_set L j x (by simpa using h)
    rw [List.set_cons_succ, List.flatMap_cons, List.flatMap_cons, ← ih]
    simp only [sh, List.cons_append, List.nil_append]
    have e : ∀ k, (j + 1) * 6 + k = (j * 6 + k) + 1 + 1 + 1 + 1 + 1 + 1 := by omega
    have e0 : (j + 1) * 6 = j * 6 + 1 + 1 + 1 + 1 + 1 + 1 := by omega
    rw [e 1, e 2, e 3, e 4, e 5, e0]
    simp only [List.set_cons_succ]
theorem OwnE.len {w : World} {base g N cap : Nat} {L : List Nd} (h : OwnE w base (.slice (some ⟨g, 0, none⟩) N cap) L) : N = L.length := by
  rcases h.2 with ⟨e, _⟩ | ⟨g', cap', cur, e, _⟩
  · cases e
  · injection e
theorem OwnE.put {w : World} {base g N cap j : Nat} {L : List Nd} (h : OwnE w base (.slice (some ⟨g, 0, none⟩) N cap) L) (hj : j < L.length) (x : Nd) :
    OwnE ((((((w.setCell ⟨g, j * 6, none⟩ (.int .i64 x.1.op)).setCell ⟨g, j * 6 + 1, none⟩ (.int .i64 x.1.n)).setCell ⟨g, j * 6 + 2, none⟩ (.int .i64 x.1.v.k)).setCell ⟨g, j * 6 + 3, none⟩ (.int .i64 x.1.v.n)).setCell ⟨g, j * 6 + 4, none⟩ (.string x.1.v.s)).setCell ⟨g, j * 6 + 5, none⟩ (.slice x.2.1 x.1.args.length x.2.2)) base (.slice (some ⟨g, 0, none⟩) N cap) (L.set j x) := by
  have hN := h.len
  subst hN
  have h1 := (World.ownsRow.stored h (j * 6) (.int .i64 x.1.op)).1
  have h2 := (World.ownsRow.stored h1 (j * 6 + 1) (.int .i64 x.1.n)).1
  have h3 := (World.ownsRow.stored h2 (j * 6 + 2) (.int .i64 x.1.v.k)).1
  have h4 := (World.ownsRow.stored h3 (j * 6 + 3) (.int .i64 x.1.v.n)).1
  have h5 := (World.ownsRow.stored h4 (j * 6 + 4) (.string x.1.v.s)).1
  have h6 := (World.ownsRow.stored h5 (j * 6 + 5) (.slice x.2.1 x.1.args.length x.2.2)).1
  rw [sh_set L j x hj] at h6
  unfold OwnE
  rw [List.length_set]
  exact h6
/-- The six cells of a node in a block. -/
def Cells6 (w : World) (b off : Nat) (q : Nd) : Prop := w.cell? ⟨b, off, none⟩ = some (.int .i64 q.1.op) ∧ w.cell? ⟨b, off + 1, none⟩ = some (.int .i64 q.1.n) ∧ w.cell? ⟨b, off + 2, none⟩ = some (.int .i64 q.1.v.k) ∧ w.cell? ⟨b, off + 3, none⟩ = some (.int .i64 q.1.v.n) ∧ w.cell? ⟨b, off + 4, none⟩ = some (.string q.1.v.s) ∧ w.cell? ⟨b, off + 5, none⟩ = some (.slice q.2.1 q.1.args.length q.2.2)
theorem OwnE.facts {w : World} {base g N cap j : Nat} {L : List Nd} {x : Nd} (h : OwnE w base (.slice (some ⟨g, 0, none⟩) N cap) L) (hj : L[j]? = some x) :
    Cells6 w g (j * 6) x ∧ (w.frozen? ⟨g, j * 6, none⟩ = false ∧ w.frozen? ⟨g, j * 6 + 1, none⟩ = false ∧ w.frozen? ⟨g, j * 6 + 2, none⟩ = false ∧ w.frozen? ⟨g, j * 6 + 3, none⟩ = false ∧ w.frozen? ⟨g, j * 6 + 4, none⟩ = false ∧ w.frozen? ⟨g, j * 6 + 5, none⟩ = false) := by
  have hN := h.len
  subst hN
  have hl := (List.getElem?_eq_some_iff.1 hj).1
  refine ⟨⟨?_, ?_, ?_, ?_, ?_, ?_⟩, World.ownsRow.frozenAt h _, World.ownsRow.frozenAt h _, World.ownsRow.frozenAt h _, World.ownsRow.frozenAt h _, World.ownsRow.frozenAt h _, World.ownsRow.frozenAt h _⟩
  · rw [World.ownsRow.cellAt h (j * 6) (by omega)]; exact sh_at L j 0 x hj (by omega)
  · rw [World.ownsRow.cellAt h (j * 6 + 1) (by omega)]; exact sh_at L j 1 x hj (by omega)
  · rw [World.ownsRow.cellAt h (j * 6 + 2) (by omega)]; exact sh_at L j 2 x hj (by omega)
  · rw [World.ownsRow.cellAt h (j * 6 + 3) (by omega)]; exact sh_at L j 3 x hj (by omega)
  · rw [World.ownsRow.cellAt h (j * 6 + 4) (by omega)]; exact sh_at L j 4 x hj (by omega)
  · rw [World.ownsRow.cellAt h (j * 6 + 5) (by omega)]; exact sh_at L j 5 x hj (by omega)
theorem OwnE.some {w : World} {base n cap : Nat} {a : Option Addr} {L : List Nd} (h : OwnE w base (.slice a n cap) L) (hl : 0 < L.length) : ∃ g, a = some ⟨g, 0, none⟩ ∧ base ≤ g ∧ g < w.heap.size := by
  rcases h.2 with ⟨_, h0⟩ | ⟨g, cap', cur, e, hb, hg, _⟩
  · omega
  · injection e with e
    exact ⟨g, e, hb, (Array.getElem?_eq_some_iff.1 hg).1⟩
theorem OwnE.slice {w : World} {base : Nat} {v : Value} {L : List Nd} (h : OwnE w base v L) : ∃ a cap, v = .slice a L.length cap := by
  rcases h.2 with ⟨rfl, h0⟩ | ⟨g, cap, cur, rfl, _⟩
  · have : L = [] := List.eq_nil_of_length_eq_zero h0
    subst this
    exact ⟨none, 0, rfl⟩
  · exact ⟨_, cap, rfl⟩
/-- The parts of nodes that lie in memory, as they are there. -/
theorem all_nodes {w : World} : ∀ (l : List Ex) (a : Option Addr), Ex.all w a l → ∃ L : List Nd, L.map (·.1) = l ∧ (∀ q ∈ L, Ex.all w q.2.1 q.1.args) ∧ (l = [] ∨ ∃ b off, a = some ⟨b, off, none⟩ ∧ ∀ i q, L[i]? = some q → Cells6 w b (off + i * 6) q)
  | [], a, _ => ⟨[], rfl, by simp, .inl rfl⟩
  | e :: l, a, h => by
    rw [Ex.all] at h
    obtain ⟨b, off, rfl, h1, h2⟩ := h
    obtain ⟨a', c', hc, ha⟩ := Ex.at_open h1
    obtain ⟨L, g1, g2, g3⟩ := all_nodes l _ h2
    refine ⟨(e, a', c') :: L, by simp [g1], ?_, .inr ⟨b, off, rfl, ?_⟩⟩
    · intro q hq
      rcases List.mem_cons.1 hq with rfl | hq
      · exact ha
      · exact g2 q hq
    · intro i q hq
      cases i with
      | zero =>
        simp at hq
        subst hq
        simpa [Cells6] using hc
      | succ i =>
        rcases g3 with rfl | ⟨b', off', e', g3⟩
        · have : L = [] := by cases L with
            | nil => rfl
            | cons _ _ => simp at g1
          subst this
          simp at hq
        · injection e' with e'
          injection e' with e1 e2
          subst e1 e2
          have := g3 i q (by simpa using hq)
          rw [show off + (i + 1) * 6 = off + 6 + i * 6 by omega]
          exact this
theorem nodes_cells {w : World} {b off : Nat} {L : List Nd} (h : ∀ i q, L[i]? = some q → Cells6 w b (off + i * 6) q) : ∀ j u, (L.flatMap sh)[j]? = some u → w.cell? ((⟨b, off, none⟩ : Addr).add j) = some u := by
  intro j u hj
  rw [Addr.add_lit]
  have hlt : j < L.length * 6 := by rw [← sh_len]; exact (List.getElem?_eq_some_iff.1 hj).1
  obtain ⟨x, hx⟩ : ∃ x, L[j / 6]? = some x := ⟨_, List.getElem?_eq_getElem (by omega)⟩
  have hf := sh_at L (j / 6) (j % 6) x hx (by omega)
  rw [show j / 6 * 6 + j % 6 = j by omega, hj] at hf
  obtain ⟨h0, h1, h2, h3, h4, h5⟩ := h (j / 6) x hx
  have h6 : j % 6 = 0 ∨ j % 6 = 1 ∨ j % 6 = 2 ∨ j % 6 = 3 ∨ j % 6 = 4 ∨ j % 6 = 5 := by omega
  rcases h6 with h6 | h6 | h6 | h6 | h6 | h6 <;> rw [h6] at hf <;> simp [sh] at hf <;> subst hf
  · rw [show off + j = off + j / 6 * 6 by omega]; exact h0
  · rw [show off + j = off + j / 6 * 6 + 1 by omega]; exact h1
  · rw [show off + j = off + j / 6 * 6 + 2 by omega]; exact h2
  · rw [show off + j = off + j / 6 * 6 + 3 by omega]; exact h3
  · rw [show off + j = off + j / 6 * 6 + 4 by omega]; exact h4
  · rw [show off + j = off + j / 6 * 6 + 5 by omega]; exact h5
/-- What lies in the blocks from lo on, whatever becomes of the others. -/
def ExK (lo : Nat) (w : World) (a : Option Addr) (l : List Ex) : Prop := ∀ W', Kept lo [] w W' → Ex.all W' a l
theorem ExK.now {lo : Nat} {w : World} {a : Option Addr} {l : List Ex} (h : ExK lo w a l) : Ex.all w a l := h w (Kept.refl _ _ _)
theorem ExK.on {lo : Nat} {w w' : World} {a : Option Addr} {l : List Ex} (h : ExK lo w a l) (hk : Kept lo [] w w') : ExK lo w' a l := fun W' hW => h W' (hk.trans hW)
theorem ExK.more {lo lo' : Nat} {w : World} {a : Option Addr} {l : List Ex} (h : ExK lo w a l) (hl : lo' ≤ lo) : ExK lo' w a l := fun W' hW => h W' (hW.more hl (by simp))
theorem ownE_all {w : World} {base g N cap : Nat} {L : List Nd} (h : OwnE w base (.slice (some ⟨g, 0, none⟩) N cap) L) (hL : ∀ q ∈ L, Ex.all w q.2.1 q.1.args) : Ex.all w (some ⟨g, 0, none⟩) (L.map (·.1)) := by
  refine Ex.all_of _ 0 fun i e he => ?_
  obtain ⟨q, hq, rfl⟩ : ∃ q, L[i]? = some q ∧ q.1 = e := by
    rw [List.getElem?_map] at he
    cases hq : L[i]? with
    | none => rw [hq] at he; cases he
    | some q => rw [hq] at he; exact ⟨q, rfl, by simpa using he⟩
  have hc := (h.facts hq).1
  rw [show 0 + i * 6 = i * 6 by omega]
  exact Ex.at_mk hc (hL q (List.mem_of_getElem? hq))
theorem ownE_kept {w W' : World} {base g N cap lo : Nat} {L : List Nd} (h : OwnE w base (.slice (some ⟨g, 0, none⟩) N cap) L) (hk : Kept lo [] w W') (hg : lo ≤ g) (hL : ∀ q ∈ L, Ex.all W' q.2.1 q.1.args) : Ex.all W' (some ⟨g, 0, none⟩) (L.map (·.1)) := by
  refine Ex.all_of _ 0 fun i e he => ?_
  obtain ⟨q, hq, rfl⟩ : ∃ q, L[i]? = some q ∧ q.1 = e := by
    rw [List.getElem?_map] at he
    cases hq : L[i]? with
    | none => rw [hq] at he; cases he
    | some q => rw [hq] at he; exact ⟨q, rfl, by simpa using he⟩
  obtain ⟨h0, h1, h2, h3, h4, h5⟩ := (h.facts hq).1
  rw [show 0 + i * 6 = i * 6 by omega]
  exact Ex.at_mk ⟨Kept.cell h0 hk hg (by simp), Kept.cell h1 hk hg (by simp), Kept.cell h2 hk hg (by simp), Kept.cell h3 hk hg (by simp), Kept.cell h4 hk hg (by simp), Kept.cell h5 hk hg (by simp)⟩ (hL q (List.mem_of_getElem? hq))
set_option maxHeartbeats 2000000 in
set_option maxRecDepth 100000 in
/-- slices.Clone (71) of a list of expressions. -/
theorem eclone_any (a : Option Addr) (c : Nat) (L : List Nd) (w : World) (hl : L.length ≤ 1000000000) (ha : L = [] ∨ ∃ b off, a = some ⟨b, off, none⟩ ∧ ∀ i q, L[i]? = some q → Cells6 w b (off + i * 6) q) (hn : a = none → L = []) :
    Calls Try.prog 59 #[.slice a L.length c] w fun e w' => ∃ v, e = .returned v ∧ OwnE w' w.heap.size v L ∧ Below w.heap.size w w' := by
  obtain ⟨i4, hi4, z40, z41, z42⟩ := info_parts info26
  cases a with
  | none =>
    have hx := hn rfl
    subst hx
    clear hn ha
    have hcmp : ∀ w', (binOp .eql 24 (.slice none 0 c) (.slice none 0 0)).run Try.prog w' = .ok (.bool true) w' := fun w' => by rw [Go.Lib.run_eql_slice_nil w' 24 26 none 0 c 0 0 Try.underlying24]; rfl
    go_enter Try.func59, Try.ntmps59
    go_wp2
    go_ret
    exact ⟨_, rfl, World.ownsRow_nil _ _ _ _, Below.refl _ _⟩
  | some ad =>
    have hcmp : ∀ w', (binOp .eql 24 (.slice (some ad) L.length c) (.slice none 0 0)).run Try.prog w' = .ok (.bool false) w' := fun w' => by rw [Go.Lib.run_eql_slice_nil w' 24 26 _ _ _ 0 0 Try.underlying24]; rfl
    have bl := below_alloc (Below.refl _ w) (.cells #[] 26)
    have HA : Hid (∀ j u, (L.flatMap sh)[j]? = some u → (w.alloc (.cells #[] 26)).cell? (ad.add j) = some u) := by
      rcases ha with h0 | ⟨b, off, e, h⟩
      · subst h0
        intro j u hj
        simp at hj
      · injection e with e
        subst e
        exact nodes_cells (fun i q hq => by obtain ⟨h0, h1, h2, h3, h4, h5⟩ := h i q hq; exact ⟨clater h0 bl, clater h1 bl, clater h2 bl, clater h3 bl, clater h4 bl, clater h5 bl⟩)
    clear ha hn
    go_enter Try.func59, Try.ntmps59
    go_wp2_with (at_builtin; refine wpList_append_own_at _ rfl (.tmp 5) (.tmp 6) 24 rfl w.heap.size 26 i4 (.agg #[.int .i64 0, .int .i64 0, .int .i64 0, .int .i64 0, .string ⟨#[]⟩, .slice none 0 0]) 6 72 Try.underlying24 hi4 z40 z41 z42 rfl (by decide) (.slice (some ⟨w.heap.size, 0, none⟩) 0 0) 0 [] rfl ?_ ad L.length c (L.flatMap sh) rfl (sh_len L) (unhide HA) (sh_all L) (by unfold maxLen; omega) (by omega) (by simp) ?_)
    · exact ⟨rfl, .inr ⟨w.heap.size, 0, #[], rfl, Nat.le_refl _, Go.Deep.blk_alloc_new _ _, Nat.le_refl _, Nat.zero_le _, rfl, rfl⟩⟩
    · intro v1 w3 hown1 hgrow1 _ hat1
      have HO : Hid (OwnE w3 w.heap.size v1 L) := by
        show OwnE w3 w.heap.size v1 L
        unfold OwnE
        simpa using hown1
      have HB := hide (bl.trans (grown_below (B := w.heap.size) hgrow1 (by simp) (fun g hg => by simp [Value.ownBlock] at hg; omega)))
      clear hown1 hgrow1 hat1 bl
      go_wp2
      go_ret
      exact ⟨_, rfl, unhide HO, unhide HB⟩
theorem Kept.of_low (w : World) {lo : Nat} (N : List Nat) {B : Nat} (o : Nat) (v : Value) (h : B < lo) : Kept lo N w (w.setCell ⟨B, o, none⟩ v) :=
  ⟨by simp [World.setCell], fun b h1 _ _ => Below.heap_setCell _ _ _ _ (fun e => by have e2 : b = B := e; omega)⟩
/-- What a function that makes nodes does. -/
def By (W : World) (F : Value) (g : Ex → Ex) (P : Ex → Prop) : Prop := ∃ n k, F = .func (.func n) #[] k ∧ Enters n ∧ ∀ W' (lo : Nat) (e : Ex) (a : Option Addr) (c : Nat), Below W.heap.size W W' → lo ≤ W'.heap.size → P e → ExK lo W' a e.args →
  Calls Try.prog n (#[e.val a c] ++ k) W' fun r w' => ∃ a2 c2, r = .returned ((g e).val a2 c2) ∧ ExK lo w' a2 (g e).args ∧ Below W'.heap.size W' w'
theorem By.later {W W' : World} {F : Value} {g : Ex → Ex} {P : Ex → Prop} (h : By W F g P) (hb : Below W.heap.size W W') : By W' F g P := by
  obtain ⟨n, k, h1, h2, h3⟩ := h
  exact ⟨n, k, h1, h2, fun W2 lo e a c hW => h3 W2 lo e a c (below_step hb hW)⟩
end Go.Proofs.Ytfnacpkodfhfoad

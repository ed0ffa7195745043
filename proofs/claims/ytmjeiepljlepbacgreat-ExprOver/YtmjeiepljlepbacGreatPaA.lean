import Derived.Test.YtmjeiepljlepbacGreatExC
import Derived.Test.YtmjeiepljlepbacGreatCellR
import Derived.Test.YtmjeiepljlepbacGreatExE
import Derived.Test.YtmjeiepljlepbacGreatKeptA
import Derived.Deep.OwnRows
import Derived.Maps.AppendAt
import Derived.Deep.AppendLies
import Derived.Laws.AppendOwnNone
import Derived.Test.YtmjeiepljlepbacGreatCellS
import Derived.Test.YtmjeiepljlepbacGreatLongK
import Derived.Test.YtmjeiepljlepbacGreatAnyG
set_option linter.unusedSimpArgs false
set_option linter.unusedVariables false
namespace Go.Proofs.YtmjeiepljlepbacGreat
open Go.RowKit Go.Sort

mutual
/-- With no more than each operator needs. -/
def copyE : Ex → Ex
  | .mk op n v l => .mk op (if op == 1 then n else 0) (if op == 2 then cleanV v else .null) (copyL l)
def copyL : List Ex → List Ex
  | [] => []
  | e :: l => copyE e :: copyL l
end
theorem copyL_map : ∀ l : List Ex, copyL l = l.map copyE
  | [] => by rw [copyL]; rfl
  | e :: l => by rw [copyL, copyL_map l]; rfl
theorem copyE_eq (e : Ex) : copyE e = .mk e.op (if e.op == 1 then e.n else 0) (if e.op == 2 then cleanV e.v else .null) (e.args.map copyE) := by
  cases e with
  | mk op n v l => rw [copyE, copyL_map]; rfl
theorem copy_op (e : Ex) : (copyE e).op = e.op := by rw [copyE_eq]; rfl
theorem copy_args (e : Ex) : (copyE e).args = e.args.map copyE := by rw [copyE_eq]; rfl
theorem copy_n (e : Ex) : (copyE e).n = if e.op == 1 then e.n else 0 := by rw [copyE_eq]; rfl
theorem copy_v (e : Ex) : (copyE e).v = if e.op == 2 then cleanV e.v else .null := by rw [copyE_eq]; rfl
theorem sound_copy (e : Ex) : soundE (copyE e) = soundE e := by
  have ho := copy_op e
  have hl : (copyE e).args.length = e.args.length := by rw [copy_args, List.length_map]
  have hn := copy_n e
  have hv := copy_v e
  unfold soundE
  rw [ho, hl, hn, hv]
  generalize e.op = op
  by_cases h1 : op = 1
  · subst h1; rfl
  · by_cases h2 : op = 2
    · subst h2
      simp [clean_clean]
    · have e1 : (op == 1) = false := by simpa using h1
      have e2 : (op == 2) = false := by simpa using h2
      rw [e1, e2]
      rfl
mutual
theorem meas_copy : ∀ (e : Ex) (N H : Int), measE soundE (copyE e) N H = measE soundE e N H
  | .mk op n v l, N, H => by
    have hs := sound_copy (.mk op n v l)
    rw [copyE] at hs ⊢
    rw [measE, measE, hs, measL_copy l]
theorem measL_copy : ∀ (l : List Ex) (N H c h : Int), measL soundE (copyL l) N H c h = measL soundE l N H c h
  | [], N, H, c, h => by rw [copyL]
  | e :: l, N, H, c, h => by
    rw [copyL, measL, measL, meas_copy e, measL_copy l]
end
theorem built_copy (e : Ex) : builtE (copyE e) = builtE e := by unfold builtE; rw [meas_copy]
theorem in64_zero : In64 0 := ⟨by decide, by decide⟩
theorem clean_in (v : Val) (h : In64 v.n) : In64 (cleanV v).n := by
  unfold cleanV
  split
  · exact h
  · split
    · exact in64_zero
    · exact in64_zero
mutual
theorem copy_fin : ∀ (e : Ex), e.fin → (copyE e).fin
  | .mk op n v l, h => by
    rw [Ex.fin] at h
    rw [copyE, Ex.fin]
    obtain ⟨⟨h1, h2, h3, h4⟩, h5⟩ := h
    refine ⟨⟨by rw [copyL_map, List.length_map]; exact h1, ?_, ?_, ?_⟩, copy_fins l h5⟩
    · split
      · exact Nat.le_trans (clean_size v) h2
      · exact Nat.zero_le _
    · split
      · exact clean_in v h3
      · exact in64_zero
    · split
      · exact h4
      · exact in64_zero
theorem copy_fins : ∀ (l : List Ex), Ex.fins l → Ex.fins (copyL l)
  | [], _ => by rw [copyL, Ex.fins]; trivial
  | e :: l, h => by
    rw [Ex.fins] at h
    rw [copyL, Ex.fins]
    exact ⟨copy_fin e h.1, copy_fins l h.2⟩
end
/-! A greater budget measures the same. -/
mutual
theorem meas_mono (p : Ex → Bool) : ∀ (e : Ex) (N H N' H' : Int) {c h : Int}, measE p e N H = (c, h, true) → N ≤ N' → H ≤ H' → measE p e N' H' = (c, h, true)
  | .mk op n v l, N, H, N', H', c, h, he, h1, h2 => by
    rw [measE] at he ⊢
    split at he
    · injection he with _ he; injection he with _ he; cases he
    · rename_i hc
      simp only [Bool.or_eq_true, decide_eq_true_eq, not_or, Bool.not_eq_true'] at hc
      have hp : p (.mk op n v l) = true := by simpa using hc.2
      rw [if_neg (by simp only [Bool.or_eq_true, decide_eq_true_eq, not_or, Bool.not_eq_true']; exact ⟨⟨by omega, by omega⟩, by simp [hp]⟩)]
      cases hm : measL p l N H 1 0 with
      | none => rw [hm] at he; simp only at he; injection he with _ he; injection he with _ he; cases he
      | some q =>
        rw [hm] at he
        rw [measL_mono p l N H N' H' 1 0 (by rw [hm]) h1 h2]
        exact he
theorem measL_mono (p : Ex → Bool) : ∀ (l : List Ex) (N H N' H' c h : Int) {q : Int × Int}, measL p l N H c h = some q → N ≤ N' → H ≤ H' → measL p l N' H' c h = some q
  | [], N, H, N', H', c, h, q, he, h1, h2 => by rw [measL] at he ⊢; exact he
  | e :: l, N, H, N', H', c, h, q, he, h1, h2 => by
    rw [measL] at he ⊢
    split at he
    · rename_i hok
      obtain ⟨c2, h2', ok, hm⟩ : ∃ c2 h2 ok, measE p e (N - c) (H - 1) = (c2, h2, ok) := ⟨_, _, _, rfl⟩
      rw [hm] at he hok
      simp only at he hok
      subst hok
      rw [meas_mono p e (N - c) (H - 1) (N' - c) (H' - 1) hm (by omega) (by omega)]
      simp only [if_true]
      exact measL_mono p l N H N' H' _ _ he h1 h2
    · cases he
end
theorem measL_mem (p : Ex → Bool) : ∀ (l : List Ex) (N H c h : Int) (x : Ex), 1 ≤ c → 0 ≤ h → (measL p l N H c h).isSome = true → x ∈ l → ∃ N' H', N' ≤ N ∧ H' ≤ H ∧ (measE p x N' H').2.2 = true
  | [], N, H, c, h, x, _, _, he, hx => by cases hx
  | e :: l, N, H, c, h, x, h1, h2, he, hx => by
    rw [measL] at he
    split at he
    · rename_i hok
      rcases List.mem_cons.1 hx with rfl | hx
      · exact ⟨N - c, H - 1, by omega, by omega, hok⟩
      · obtain ⟨c2, h2', ok, hm⟩ : ∃ c2 h2 ok, measE p e (N - c) (H - 1) = (c2, h2, ok) := ⟨_, _, _, rfl⟩
        rw [hm] at he hok
        simp only at he hok
        subst hok
        have g := meas_le p e (N - c) (H - 1) hm
        exact measL_mem p l N H _ _ x (by omega) (by omega) he hx
    · cases he
theorem built_arg {e x : Ex} {i : Nat} (h : builtE e = true) (hx : e.args[i]? = some x) : builtE x = true := by
  unfold builtE at h ⊢
  rw [measE_eq] at h
  split at h
  · cases h
  · cases hm : measL soundE e.args 400 40 1 0 with
    | none => rw [hm] at h; cases h
    | some q =>
      obtain ⟨N', H', h1, h2, h3⟩ := measL_mem soundE e.args 400 40 1 0 x (by omega) (by omega) (by rw [hm]; rfl) (List.mem_of_getElem? hx)
      obtain ⟨c2, h2', ok, hk⟩ : ∃ c2 h2 ok, measE soundE x N' H' = (c2, h2, ok) := ⟨_, _, _, rfl⟩
      rw [hk] at h3
      simp only at h3
      subst h3
      rw [meas_mono soundE x N' H' 400 40 hk h1 h2]
/-- A node without its parts, with no more than its operator needs. -/
def needE (e : Ex) : Ex := .mk e.op (if e.op == 1 then e.n else 0) (if e.op == 2 then cleanV e.v else .null) []
mutual
/-- Made anew from the leaves on. -/
def madeE (g : Ex → Ex) : Ex → Ex
  | .mk op n v l => g (.mk op (if op == 1 then n else 0) (if op == 2 then cleanV v else .null) (madeL g l))
def madeL (g : Ex → Ex) : List Ex → List Ex
  | [] => []
  | e :: l => madeE g e :: madeL g l
end
theorem madeL_map (g : Ex → Ex) : ∀ l : List Ex, madeL g l = l.map (madeE g)
  | [] => by rw [madeL]; rfl
  | e :: l => by rw [madeL, madeL_map g l]; rfl
/-- A node with its parts made. -/
def nodeG (g : Ex → Ex) (e : Ex) : Ex := .mk e.op (if e.op == 1 then e.n else 0) (if e.op == 2 then cleanV e.v else .null) (e.args.map (madeE g))
theorem madeE_eq (g : Ex → Ex) (e : Ex) : madeE g e = g (nodeG g e) := by
  cases e with
  | mk op n v l => rw [madeE, madeL_map]; rfl
mutual
theorem made_copy : ∀ e : Ex, madeE id e = copyE e
  | .mk op n v l => by rw [madeE, copyE, made_copyL l]; rfl
theorem made_copyL : ∀ l : List Ex, madeL id l = copyL l
  | [] => by rw [madeL, copyL]
  | e :: l => by rw [madeL, copyL, made_copy e, made_copyL l]
end
mutual
/-- No list in it is long. -/
def Ex.short : Ex → Prop
  | .mk _ _ _ l => l.length ≤ 1000000000 ∧ Ex.shorts l
def Ex.shorts : List Ex → Prop
  | [] => True
  | e :: l => e.short ∧ Ex.shorts l
end
theorem Ex.short_open {e : Ex} (h : e.short) : e.args.length ≤ 1000000000 ∧ Ex.shorts e.args := by
  cases e with
  | mk op n v l => rw [Ex.short] at h; exact h
theorem Ex.shorts_mem : ∀ {l : List Ex} {x : Ex}, Ex.shorts l → x ∈ l → x.short
  | [], _, _, h => by cases h
  | e :: l, x, hf, h => by
    rw [Ex.shorts] at hf
    rcases List.mem_cons.1 h with rfl | h
    · exact hf.1
    · exact Ex.shorts_mem hf.2 h
theorem Ex.short_arg {e x : Ex} {i : Nat} (h : e.short) (hx : e.args[i]? = some x) : x.short := Ex.shorts_mem (Ex.short_open h).2 (List.mem_of_getElem? hx)
mutual
theorem meas_short (p : Ex → Bool) : ∀ (e : Ex) (N H : Int), N ≤ 1000000000 → (measE p e N H).2.2 = true → e.short
  | .mk op n v l, N, H, hN, he => by
    rw [measE] at he
    split at he
    · cases he
    · rename_i hc
      simp only [Bool.or_eq_true, decide_eq_true_eq, not_or] at hc
      cases hm : measL p l N H 1 0 with
      | none => rw [hm] at he; cases he
      | some q =>
        rw [Ex.short]
        have := measL_short p l N H 1 0 (q := q) (by omega) (by omega) (by omega) (by omega) hN hm
        have h2 := measL_le p l N H 1 0 (c' := q.1) (h' := q.2) (by omega) (by omega) (by omega) (by omega) hm
        exact ⟨by omega, this.2⟩
theorem measL_short (p : Ex → Bool) : ∀ (l : List Ex) (N H c h : Int) {q : Int × Int}, 1 ≤ c → c ≤ N → 0 ≤ h → h ≤ H - 1 → N ≤ 1000000000 → measL p l N H c h = some q → c + l.length ≤ q.1 ∧ Ex.shorts l
  | [], N, H, c, h, q, h1, h2, h3, h4, hN, he => by
    rw [measL] at he
    injection he with he
    subst he
    exact ⟨by show c + ((0 : Nat) : Int) ≤ c; omega, by rw [Ex.shorts]; trivial⟩
  | e :: l, N, H, c, h, q, h1, h2, h3, h4, hN, he => by
    rw [measL] at he
    split at he
    · rename_i hok
      have hs := meas_short p e (N - c) (H - 1) (by omega) hok
      obtain ⟨c2, h2', ok, hm⟩ : ∃ c2 h2 ok, measE p e (N - c) (H - 1) = (c2, h2, ok) := ⟨_, _, _, rfl⟩
      rw [hm] at he hok
      simp only at he hok
      subst hok
      have g := meas_le p e (N - c) (H - 1) hm
      have := measL_short p l N H (c + c2) (max h h2') (by omega) (by omega) (by omega) (by omega) hN he
      rw [Ex.shorts, List.length_cons]
      exact ⟨by omega, hs, this.2⟩
    · cases he
end
end Go.Proofs.YtmjeiepljlepbacGreat
set_option linter.unusedSimpArgs false
set_option linter.unusedVariables false
namespace Go.Proofs.YtmjeiepljlepbacGreat
open Go.RowKit Go.Sort

def c3 (x : Val) : List Value := [.int .i64 x.k, .int .i64 x.n, .string x.s]
/-- The slice of values v, a row of the call's own, holds xs. -/
def OwnV (w : World) (base : Nat) (v : Value) (xs : List Val) : Prop := w.ownsRow base 38 3 v xs.length (xs.flatMap c3)
theorem OwnV.later {w w1 : World} {base : Nat} {v : Value} {xs : List Val} (h : OwnV w base v xs) (hb : Below w.heap.size w w1) : OwnV w1 base v xs := own_later h hb
theorem flat_at : ∀ (zs : List Val) (i j : Nat) (x : Val), zs[i]? = some x → j < 3 → (zs.flatMap c3)[i * 3 + j]? = (c3 x)[j]?
  | [], i, j, x, h, _ => by simp at h
  | z :: zs, 0, j, x, h, hj => by
    simp at h
    subst h
    rw [List.flatMap_cons, List.getElem?_append_left (by simp [c3]; omega)]
    simp
  | z :: zs, i + 1, j, x, h, hj => by
    have ih := flat_at zs i j x (by simpa using h) hj
    rw [List.flatMap_cons, List.getElem?_append_right (by simp [c3]; omega)]
    rw [← ih]
    congr 1
    simp [c3]
    omega
theorem flat_len (zs : List Val) : (zs.flatMap c3).length = zs.length * 3 := by
  induction zs with
  | nil => rfl
  | cons z zs ih => rw [List.flatMap_cons, List.length_append, ih]; simp [c3]; omega
theorem ownV_row {w : World} {base : Nat} {v : Value} {zs : List Val} (h : OwnV w base v zs) : ∃ a cap, v = .slice a zs.length cap ∧ RowAt w a zs := by
  rcases h.2 with ⟨rfl, h0⟩ | ⟨g, cap, cur, rfl, _⟩
  · have : zs = [] := List.eq_nil_of_length_eq_zero h0
    subst this
    exact ⟨none, 0, rfl, .inl rfl⟩
  · refine ⟨_, cap, rfl, .inr ⟨g, 0, rfl, fun i x hx => ?_⟩⟩
    have hc := World.ownsRow.cells h rfl
    have ea : ∀ n : Nat, (⟨g, 0, none⟩ : Addr).add n = ⟨g, 0 + n, none⟩ := by
      intro n
      by_cases h : n = 0 <;> simp [Addr.add, h]
    have e0 := hc (i * 3 + 0) _ (flat_at zs i 0 x hx (by omega))
    have e1 := hc (i * 3 + 1) _ (flat_at zs i 1 x hx (by omega))
    have e2 := hc (i * 3 + 2) _ (flat_at zs i 2 x hx (by omega))
    rw [ea] at e0 e1 e2
    exact ⟨by simpa using e0, by simpa [Nat.add_assoc] using e1, by simpa [Nat.add_assoc] using e2⟩
theorem c3_one (y : Val) : ∀ u ∈ c3 y, u.oneCell' = true := by
  intro u hu; simp [c3] at hu; rcases hu with rfl | rfl | rfl <;> rfl
theorem c3_all (xs : List Val) : ∀ u ∈ xs.flatMap c3, u.oneCell' = true := by
  intro u hu
  obtain ⟨x, _, hx⟩ := List.mem_flatMap.1 hu
  exact c3_one x u hx
theorem row_cells {w : World} {b off : Nat} {xs : List Val} (h : RowAt w (some ⟨b, off, none⟩) xs) : ∀ j u, (xs.flatMap c3)[j]? = some u → w.cell? ((⟨b, off, none⟩ : Addr).add j) = some u := by
  intro j u hj
  rw [Addr.add_lit]
  have hlt : j < xs.length * 3 := by rw [← flat_len]; exact (List.getElem?_eq_some_iff.1 hj).1
  obtain ⟨x, hx⟩ : ∃ x, xs[j / 3]? = some x := ⟨_, List.getElem?_eq_getElem (by omega)⟩
  have hf := flat_at xs (j / 3) (j % 3) x hx (by omega)
  rw [show j / 3 * 3 + j % 3 = j by omega, hj] at hf
  rcases h with h | ⟨b', off', e, h⟩
  · subst h; simp at hlt
  · injection e with e
    injection e with e1 e2
    subst e1 e2
    obtain ⟨h0, h1, h2⟩ := h (j / 3) x hx
    have h3 : j % 3 = 0 ∨ j % 3 = 1 ∨ j % 3 = 2 := by omega
    rcases h3 with h3 | h3 | h3 <;> rw [h3] at hf <;> simp [c3] at hf <;> subst hf
    · rw [show off + j = off + j / 3 * 3 by omega]; exact h0
    · rw [show off + j = off + j / 3 * 3 + 1 by omega]; exact h1
    · rw [show off + j = off + j / 3 * 3 + 2 by omega]; exact h2
theorem flat_set : ∀ (L : List Val) (j : Nat) (x : Val), j < L.length → (((L.flatMap c3).set (j * 3) (.int .i64 x.k)).set (j * 3 + 1) (.int .i64 x.n)).set (j * 3 + 2) (.string x.s) = (L.set j x).flatMap c3
  | [], j, x, h => by simp at h
  | z :: L, 0, x, _ => by simp [c3]
  | z :: L, j + 1, x, h => by
    have ih := flat_set L j x (by simpa using h)
    rw [List.set_cons_succ, List.flatMap_cons, List.flatMap_cons, ← ih]
    simp only [c3, List.cons_append, List.nil_append]
    rw [show (j + 1) * 3 = j * 3 + 1 + 1 + 1 by omega, show j * 3 + 1 + 1 + 1 + 1 = (j * 3 + 1) + 1 + 1 + 1 by omega, show j * 3 + 1 + 1 + 1 + 2 = (j * 3 + 2) + 1 + 1 + 1 by omega]
    simp only [List.set_cons_succ]
theorem OwnV.put {w : World} {base g N cap j : Nat} {L : List Val} (h : OwnV w base (.slice (some ⟨g, 0, none⟩) N cap) L) (hj : j < L.length) (x : Val) :
    OwnV (((w.setCell ⟨g, j * 3, none⟩ (.int .i64 x.k)).setCell ⟨g, j * 3 + 1, none⟩ (.int .i64 x.n)).setCell ⟨g, j * 3 + 2, none⟩ (.string x.s)) base (.slice (some ⟨g, 0, none⟩) N cap) (L.set j x) := by
  have hN : N = L.length := by
    rcases h.2 with ⟨e, _⟩ | ⟨g', cap', cur, e, _⟩
    · cases e
    · injection e
  subst hN
  have h1 := (World.ownsRow.stored h (j * 3) (.int .i64 x.k)).1
  have h2 := (World.ownsRow.stored h1 (j * 3 + 1) (.int .i64 x.n)).1
  have h3 := (World.ownsRow.stored h2 (j * 3 + 2) (.string x.s)).1
  rw [flat_set L j x hj] at h3
  unfold OwnV
  rw [List.length_set]
  exact h3
theorem OwnV.len {w : World} {base g N cap : Nat} {L : List Val} (h : OwnV w base (.slice (some ⟨g, 0, none⟩) N cap) L) : N = L.length := by
  rcases h.2 with ⟨e, _⟩ | ⟨g', cap', cur, e, _⟩
  · cases e
  · injection e
theorem OwnV.facts {w : World} {base g N cap j : Nat} {L : List Val} {x : Val} (h : OwnV w base (.slice (some ⟨g, 0, none⟩) N cap) L) (hj : L[j]? = some x) :
    w.cell? ⟨g, j * 3, none⟩ = some (.int .i64 x.k) ∧ w.cell? ⟨g, j * 3 + 1, none⟩ = some (.int .i64 x.n) ∧ w.cell? ⟨g, j * 3 + 2, none⟩ = some (.string x.s) ∧
    w.frozen? ⟨g, j * 3, none⟩ = false ∧ w.frozen? ⟨g, j * 3 + 1, none⟩ = false ∧ w.frozen? ⟨g, j * 3 + 2, none⟩ = false := by
  have hN := h.len
  subst hN
  have hl := (List.getElem?_eq_some_iff.1 hj).1
  refine ⟨?_, ?_, ?_, World.ownsRow.frozenAt h _, World.ownsRow.frozenAt h _, World.ownsRow.frozenAt h _⟩
  · rw [World.ownsRow.cellAt h (j * 3) (by omega)]; exact flat_at L j 0 x hj (by omega)
  · rw [World.ownsRow.cellAt h (j * 3 + 1) (by omega)]; exact flat_at L j 1 x hj (by omega)
  · rw [World.ownsRow.cellAt h (j * 3 + 2) (by omega)]; exact flat_at L j 2 x hj (by omega)
theorem info23 : (Tryz.prog.info? 38).map (fun i => (i.zero, i.size, i.bytes)) = some (some (.agg #[.int .i64 0, .int .i64 0, .string ⟨#[]⟩]), 3, 32) := by kernel_rfl
theorem ownV_ge {w : World} {base : Nat} {v : Value} {L : List Val} (h : OwnV w base v L) : ∀ g, v.ownBlock = some g → base ≤ g := by
  intro g hg
  rcases h.2 with ⟨rfl, _⟩ | ⟨g', cap, cur, rfl, hb, _⟩
  · cases hg
  · simp [Value.ownBlock] at hg
    omega
/-- append(l, y), where y stands in a list of one that was made for it. -/
theorem wpList_push_val {ops : Array Oper} {rest : List Oper} {o : Oper} {a : Act} {Q : Exit → Act → World → Prop} (w : World) (hgd : o.guard = none) (s x : Operand) (ho : o.op = .call { callee := .builtin .append, args := #[s, x], argTypes := #[22, 22] })
    (base : Nat) (v : Value) (L : List Val) (hs : a.eval s = v) (hown : OwnV w base v L) (t : Nat) (y : Val) (hx : a.eval x = .slice (some ⟨t, 0, none⟩) 1 1) (hy : BoxAt w t y) (hl : L.length + 1 ≤ 4398046511104) (hbase : base ≤ w.heap.size)
    (h : ∀ v' w', OwnV w' base v' (L ++ [y]) → Below base w w' → wpList Tryz.prog ops Q rest (a.put o.dst v') w') : wpList Tryz.prog ops Q (o :: rest) a w := by
  obtain ⟨i4, hi4, z40, z41, z42⟩ := info_parts info23
  have hr : RowAt w (some ⟨t, 0, none⟩) [y] := .inr ⟨t, 0, rfl, fun i z hz => by
    match i, hz with
    | 0, hz =>
      simp at hz
      subst hz
      exact ⟨by simpa using hy.1, by simpa using hy.2.1, by simpa using hy.2.2⟩⟩
  refine wpList_append_own_at w hgd s x 22 ho base 38 i4 (.agg #[.int .i64 0, .int .i64 0, .string ⟨#[]⟩]) 3 32 Tryz.underlying22 hi4 z40 z41 z42 rfl (by decide) v L.length (L.flatMap c3) hs hown ⟨t, 0, none⟩ 1 1 ([y].flatMap c3) hx (flat_len [y]) (row_cells hr) (c3_all [y]) (by unfold maxLen; omega) (by omega) hbase ?_
  intro v' w' h1 h2 _ _
  refine h v' w' ?_ (grown_below h2 hbase (ownV_ge hown))
  unfold OwnV
  rw [List.length_append, List.flatMap_append]
  exact h1
theorem map_take {α β : Type} (f : α → β) {l : List α} {k : Nat} {x : α} (h : l[k]? = some x) : (l.take (k + 1)).map f = (l.take k).map f ++ [f x] := by
  rw [List.take_add_one, h, List.map_append]
  rfl

theorem evalL_mapR (row : List Val) : ∀ l : List Ex, evalL row l = l.map (evalE row)
  | [] => by rw [evalL]; rfl
  | e :: l => by rw [evalL, evalL_mapR row l]; rfl
end Go.Proofs.YtmjeiepljlepbacGreat
set_option linter.unusedSimpArgs false
set_option linter.unusedVariables false
namespace Go.Proofs.YtmjeiepljlepbacGreat
open Go.RowKit Go.Sort

/-- The box of an answer, as it is made. -/
def RB (w : World) (b : Nat) : Prop := (w.cell? ⟨b, 0, none⟩ = some (.int .i64 0) ∧ w.cell? ⟨b, 1, none⟩ = some (.int .i64 0) ∧ w.cell? ⟨b, 2, none⟩ = some (.string ⟨#[]⟩)) ∧ w.frozen? ⟨b, 0, none⟩ = false ∧ w.frozen? ⟨b, 1, none⟩ = false ∧ w.frozen? ⟨b, 2, none⟩ = false
theorem RB.later {w w1 : World} {b : Nat} (h : RB w b) (hb : Below w.heap.size w w1) : RB w1 b := by
  obtain ⟨⟨h0, h1, h2⟩, f0, f1, f2⟩ := h
  obtain ⟨hc, hf⟩ := bcell hb
  have hl : b < w.heap.size := World.block_lt_of_cell? w _ h0
  refine ⟨⟨clater h0 hb, clater h1 hb, clater h2 hb⟩, ?_⟩
  rw [hf _ _ hl, hf _ _ hl, hf _ _ hl]
  exact ⟨f0, f1, f2⟩
theorem rput3 {w W : World} {B : Nat} (hb : Below w.heap.size w W) (hB : w.heap.size ≤ B) (u0 u1 u2 : Value) : Below w.heap.size w (((W.setCell ⟨B, 0, none⟩ u0).setCell ⟨B, 1, none⟩ u1).setCell ⟨B, 2, none⟩ u2) :=
  ((hb.setCell hB _).setCell hB _).setCell hB _
theorem shape {e : Ex} (h : soundE e = true) : (e.op = 1 ∧ e.args = [] ∧ 0 ≤ e.n) ∨ (e.op = 2 ∧ e.args = []) ∨ (∃ x, e.args = [x] ∧ (e.op = 3 ∨ e.op = 4 ∨ e.op = 5 ∨ e.op = 6)) ∨ (∃ x y, e.args = [x, y] ∧ 7 ≤ e.op ∧ e.op ≤ 20) ∨ (∃ x y z, e.args = [x, y, z] ∧ e.op = 21) := by
  have hl := sound_len h
  have l0 : ∀ l : List Ex, (l.length : Int) = 0 → l = [] := fun l h => List.eq_nil_of_length_eq_zero (by omega)
  have l1 : ∀ l : List Ex, (l.length : Int) = 1 → ∃ x, l = [x] := fun l h => by
    match l, h with
    | [x], _ => exact ⟨x, rfl⟩
    | [], h => simp at h
    | _ :: _ :: _, h => simp at h; omega
  have l2 : ∀ l : List Ex, (l.length : Int) = 2 → ∃ x y, l = [x, y] := fun l h => by
    match l, h with
    | [x, y], _ => exact ⟨x, y, rfl⟩
    | [], h => simp at h
    | [_], h => simp at h
    | _ :: _ :: _ :: _, h => simp at h; omega
  have l3 : ∀ l : List Ex, (l.length : Int) = 3 → ∃ x y z, l = [x, y, z] := fun l h => by
    match l, h with
    | [x, y, z], _ => exact ⟨x, y, z, rfl⟩
    | [], h => simp at h
    | [_], h => simp at h
    | [_, _], h => simp at h
    | _ :: _ :: _ :: _ :: _, h => simp at h; omega
  unfold arI at hl
  by_cases h1 : e.op = 1
  · refine .inl ⟨h1, l0 _ (by rw [hl, h1]; rfl), ?_⟩
    unfold soundE at h
    rw [h1] at h
    simp at h
    exact h.2
  by_cases h2 : e.op = 2
  · exact .inr (.inl ⟨h2, l0 _ (by rw [hl, h2]; rfl)⟩)
  by_cases h3 : 3 ≤ e.op ∧ e.op ≤ 6
  · obtain ⟨x, hx⟩ := l1 _ (by rw [hl]; simp [h1, h2, h3.1, h3.2])
    exact .inr (.inr (.inl ⟨x, hx, by omega⟩))
  by_cases h4 : 7 ≤ e.op ∧ e.op ≤ 20
  · obtain ⟨x, y, hx⟩ := l2 _ (by rw [hl]; simp [h1, h2, show ¬ (e.op ≤ 6) by omega, h4.1, h4.2])
    exact .inr (.inr (.inr (.inl ⟨x, y, hx, h4⟩)))
  by_cases h5 : e.op = 21
  · obtain ⟨x, y, z, hx⟩ := l3 _ (by rw [hl, h5]; rfl)
    exact .inr (.inr (.inr (.inr ⟨x, y, z, hx, h5⟩)))
  · exfalso
    have : (e.args.length : Int) < 0 := by
      rw [hl]
      simp [h1, h2, h5, h3, h4]
    omega
end Go.Proofs.YtmjeiepljlepbacGreat
set_option linter.unusedSimpArgs false
set_option linter.unusedVariables false
set_option maxRecDepth 100000
namespace Go.Proofs.YtmjeiepljlepbacGreat
open Go.RowKit Go.Sort

/-- A box with a long's sign and digits. -/
def Bx (w : World) (g : Nat) (o : Bool) (s : Value) : Prop := w.rowIs g 159 2 (box2 (.bool o) s) ∧ ∃ a l c, s = .slice a l c
theorem Bx.later {w w' : World} {g : Nat} {o : Bool} {s : Value} (h : Bx w g o s) (hb : Below w.heap.size w w') : Bx w' g o s := ⟨rowIs_later h.1 hb, h.2⟩
theorem Bx.alloc {w : World} {g : Nat} {o : Bool} {s : Value} (h : Bx w g o s) (ob : Obj) : Bx (w.alloc ob) g o s := ⟨h.1.alloc ob, h.2⟩
theorem Bx.other {w : World} {g g' : Nat} {o : Bool} {s : Value} (h : Bx w g o s) (hne : g ≠ g') (o' : Bool) (s' : Value) : Bx ((w.setCell ⟨g', 0, none⟩ (.bool o')).setCell ⟨g', 1, none⟩ s') g o s := ⟨(h.1.setOther hne _).setOther hne _, h.2⟩
theorem Bx.same {w : World} {g : Nat} {o : Bool} {s : Value} (h : Bx w g o s) (o' : Bool) (s' : Value) (hs : ∃ a l c, s' = .slice a l c) : Bx ((w.setCell ⟨g, 0, none⟩ (.bool o')).setCell ⟨g, 1, none⟩ s') g o' s' := ⟨box2_both h.1, hs⟩
theorem Bx.long {w : World} {g : Nat} {o : Bool} {s t : Value} {z : Int} (h : Bx w g o s) (ht : LongS w t z) (o' : Bool) (s' : Value) : LongS ((w.setCell ⟨g, 0, none⟩ (.bool o')).setCell ⟨g, 1, none⟩ s') t z := ht.set2 h.1 h.2

/-- The boxes of 'divided'. -/
structure DB (w wx : World) (tb : Nat) (m n : Bool) (x y q r t : Value) (Q R Y : Int) : Prop where
  below : Below w.heap.size w wx
  bx : Bx wx w.heap.size m x
  bn : Bx wx (w.heap.size + 1) n y
  z1 : Bx wx (w.heap.size + 1 + 1) false (.slice none 0 0)
  z2 : Bx wx (w.heap.size + 1 + 1 + 1) false (.slice none 0 0)
  bq : Bx wx (w.heap.size + 1 + 1 + 1 + 1) false q
  br : Bx wx (w.heap.size + 1 + 1 + 1 + 1 + 1) false r
  bt : Bx wx tb false t
  bs : Bx wx (tb + 1) false y
  lq : LongS wx q Q
  lr : LongS wx r R
  lt : LongS wx t 2
  ly : LongS wx y Y
  ht : w.heap.size + 1 + 1 + 1 + 1 + 1 < tb
theorem DB.later {w wx wy : World} {tb : Nat} {m n : Bool} {x y q r t : Value} {Q R Y : Int} (h : DB w wx tb m n x y q r t Q R Y) (hb : Below wx.heap.size wx wy) : DB w wy tb m n x y q r t Q R Y :=
  ⟨below_step h.below hb, h.bx.later hb, h.bn.later hb, h.z1.later hb, h.z2.later hb, h.bq.later hb, h.br.later hb, h.bt.later hb, h.bs.later hb, h.lq.later hb, h.lr.later hb, h.lt.later hb, h.ly.later hb, h.ht⟩
theorem DB.putq {w wx : World} {tb : Nat} {m n : Bool} {x y q r t q' : Value} {Q R Y Q' : Int} (h : DB w wx tb m n x y q r t Q R Y) (hq : LongS wx q' Q') :
    DB w ((wx.setCell ⟨w.heap.size + 1 + 1 + 1 + 1, 0, none⟩ (.bool false)).setCell ⟨w.heap.size + 1 + 1 + 1 + 1, 1, none⟩ q') tb m n x y q' r t Q' R Y := by
  have := h.ht
  exact ⟨(h.below.setCell (by simp; omega) _).setCell (by simp; omega) _, h.bx.other (by omega) _ _, h.bn.other (by omega) _ _, h.z1.other (by omega) _ _, h.z2.other (by omega) _ _, h.bq.same _ _ hq.shape, h.br.other (by omega) _ _, h.bt.other (by omega) _ _, h.bs.other (by omega) _ _, h.bq.long hq _ _, h.bq.long h.lr _ _, h.bq.long h.lt _ _, h.bq.long h.ly _ _, h.ht⟩
theorem DB.putr {w wx : World} {tb : Nat} {m n : Bool} {x y q r t r' : Value} {Q R Y R' : Int} (h : DB w wx tb m n x y q r t Q R Y) (hr : LongS wx r' R') :
    DB w ((wx.setCell ⟨w.heap.size + 1 + 1 + 1 + 1 + 1, 0, none⟩ (.bool false)).setCell ⟨w.heap.size + 1 + 1 + 1 + 1 + 1, 1, none⟩ r') tb m n x y q r' t Q R' Y := by
  have := h.ht
  exact ⟨(h.below.setCell (by simp; omega) _).setCell (by simp; omega) _, h.bx.other (by omega) _ _, h.bn.other (by omega) _ _, h.z1.other (by omega) _ _, h.z2.other (by omega) _ _, h.bq.other (by omega) _ _, h.br.same _ _ hr.shape, h.bt.other (by omega) _ _, h.bs.other (by omega) _ _, h.br.long h.lq _ _, h.br.long hr _ _, h.br.long h.lt _ _, h.br.long h.ly _ _, h.ht⟩

theorem times_two (s t : Value) (z : Int) (w : World) (hz : z < 65536 ^ 9) (hs : LongS w s z) (ht : LongS w t 2) :
    Calls Tryz.prog 157 #[.agg #[.bool false, s], .agg #[.bool false, t]] w fun e w' => ∃ r, e = .returned (.agg #[.bool false, r]) ∧ LongS w' r (z * 2) ∧ Below w.heap.size w w' := by
  have hn := hs.nonneg
  obtain ⟨a, c, zs, rfl, h2, h3, h4, h5, h6, h7⟩ := hs
  obtain ⟨b, d, es, rfl, k2, k3, k4, k5, k6, k7⟩ := ht
  have len10 : ∀ {l : List Int} {v : Int}, Digs l → trimN l l.length = l.length → valD l = v → v < 65536 ^ 9 → l.length ≤ 10 := by
    intro l v hd ht hv hb
    cases hl : l.length with
    | zero => omega
    | succ n =>
      have h1 := val_ge hd hl ht
      by_cases h : n < 9
      · omega
      · have h2 := pow_mono (m := 9) (n := n) (by omega)
        omega
  have h9 : (2 : Int) < 65536 ^ 9 := by decide
  refine (times_s a b c d zs es false false w (len10 h5 h6 h7 hz) (len10 k5 k6 k7 h9) h5 k5 h4 k4).mono fun e w' ⟨r, he, hr, hb⟩ => ?_
  subst he
  rw [h7, k7] at hr
  exact ⟨r, by simp, hr, hb⟩
theorem plus_s (s t : Value) (z u : Int) (w : World) (hz : z < 65536 ^ 29) (hu : u < 65536 ^ 29) (hs : LongS w s z) (ht : LongS w t u) :
    Calls Tryz.prog 154 #[.agg #[.bool false, s], .agg #[.bool false, t]] w fun e w' => ∃ r, e = .returned (.agg #[.bool false, r]) ∧ LongS w' r (z + u) ∧ Below w.heap.size w w' := by
  have z0 := hs.nonneg
  have u0 := ht.nonneg
  have z4 : (65536 : Int) ^ 29 < 65536 ^ 30 := by decide
  refine (plus_any _ _ z u w ⟨by omega, by omega⟩ ⟨by omega, by omega⟩ hs.long ht.long).mono fun e w' ⟨v, he, hv, hb⟩ => ?_
  obtain ⟨r, rfl, hr⟩ := hv.plain (by omega)
  exact ⟨r, he, hr, hb⟩
theorem minus_s (s t : Value) (z u : Int) (w : World) (hz : z < 65536 ^ 29) (hu : 0 < u) (huz : u ≤ z) (hs : LongS w s z) (ht : LongS w t u) :
    Calls Tryz.prog 154 #[.agg #[.bool false, s], .agg #[.bool true, t]] w fun e w' => ∃ r, e = .returned (.agg #[.bool false, r]) ∧ LongS w' r (z - u) ∧ Below w.heap.size w w' := by
  have z4 : (65536 : Int) ^ 29 < 65536 ^ 30 := by decide
  have htv : LongV w (.agg #[.bool true, t]) (-u) := by
    obtain ⟨b, d, es, rfl, k2, k3, k4, k5, k6, k7⟩ := ht
    exact ⟨b, d, es, by rw [show decide (-u < 0) = true by simp; omega], k2, k3, k4, k5, k6, .inr (by omega)⟩
  refine (plus_any _ _ z (-u) w ⟨by omega, by omega⟩ ⟨by omega, by omega⟩ hs.long htv).mono fun e w' ⟨v, he, hv, hb⟩ => ?_
  obtain ⟨r, rfl, hr⟩ := hv.plain (by omega)
  exact ⟨r, he, hr, hb⟩
theorem size_s (s t : Value) (z u : Int) (w : World) (hz : z < 65536 ^ 30) (hu : u < 65536 ^ 30) (hs : LongS w s z) (ht : LongS w t u) :
    Calls Tryz.prog 205 #[.agg #[.bool false, s], .agg #[.bool false, t]] w fun e w' => e = .returned (.int .i64 (cmpI z u)) ∧ Below w.heap.size w w' := by
  have l1 := long_len hs hz
  have l2 := long_len ht hu
  obtain ⟨a, c, zs, rfl, h2, h3, h4, h5, h6, h7⟩ := hs
  obtain ⟨b, d, es, rfl, k2, k3, k4, k5, k6, k7⟩ := ht
  have := l1 _ _ _ rfl
  have := l2 _ _ _ rfl
  refine (size_anyL a b c d zs es false false w (by omega) (by omega) h4 k4).mono fun e w' ⟨he, hb⟩ => ?_
  rw [sizeV_val h5 k5 h6 k6, h7, k7] at he
  exact ⟨he, hb⟩
theorem longOf_s (n : Int) (w : World) (hn : In64 n) (h0 : 0 ≤ n) : Calls Tryz.prog 153 #[.int .i64 n] w fun e w' => ∃ s, e = .returned (.agg #[.bool false, s]) ∧ LongS w' s n ∧ Below w.heap.size w w' := by
  refine (longOf_any n w hn).mono fun e w' ⟨v, he, hv, hb⟩ => ?_
  obtain ⟨s, rfl, hs⟩ := hv.plain h0
  exact ⟨s, he, hs, hb⟩

theorem div_bit (P Q R Y b : Int) (hY : 0 < Y) (hb : b = 0 ∨ b = 1) (hQ : Q = P / Y) (hR : R = P % Y) :
    (Y ≤ R * 2 + b → Q * 2 + 1 = (2 * P + b) / Y ∧ R * 2 + b - Y = (2 * P + b) % Y) ∧ (R * 2 + b < Y → Q * 2 = (2 * P + b) / Y ∧ R * 2 + b = (2 * P + b) % Y) := by
  have h1 := Int.emod_add_mul_ediv P Y
  have h2 := Int.emod_nonneg P (by omega : Y ≠ 0)
  have h3 := Int.emod_lt_of_pos P hY
  rw [← hQ, ← hR] at h1
  rw [← hR] at h2 h3
  constructor
  · intro h
    have e : 2 * P + b = (R * 2 + b - Y) + Y * (Q * 2 + 1) := by
      have e1 : Y * (Q * 2 + 1) = Y * Q * 2 + Y := by rw [Int.mul_add, Int.mul_one, Int.mul_assoc]
      rw [e1]
      omega
    rw [e]
    refine ⟨?_, ?_⟩
    · rw [Int.add_mul_ediv_left _ _ (by omega : Y ≠ 0), Int.ediv_eq_zero_of_lt (by omega) (by omega)]; omega
    · rw [Int.add_mul_emod_self_left, Int.emod_eq_of_lt (by omega) (by omega)]
  · intro h
    have e : 2 * P + b = (R * 2 + b) + Y * (Q * 2) := by
      have e1 : Y * (Q * 2) = Y * Q * 2 := by rw [Int.mul_assoc]
      rw [e1]
      omega
    rw [e]
    refine ⟨?_, ?_⟩
    · rw [Int.add_mul_ediv_left _ _ (by omega : Y ≠ 0), Int.ediv_eq_zero_of_lt (by omega) (by omega)]; omega
    · rw [Int.add_mul_emod_self_left, Int.emod_eq_of_lt (by omega) (by omega)]
end Go.Proofs.YtmjeiepljlepbacGreat
set_option linter.unusedSimpArgs false
set_option linter.unusedVariables false
set_option maxRecDepth 100000
namespace Go.Proofs.YtmjeiepljlepbacGreat
open Go.RowKit Go.Sort

theorem six_boxes {w w' : World} {m n : Bool} {x y : Value} (hx : ∃ a l c, x = .slice a l c) (hy : ∃ a l c, y = .slice a l c)
    (h : Below ((((((w.alloc (.cells #[.bool m, x] 159)).alloc (.cells #[.bool n, y] 159)).alloc (.cells #[.bool false, .slice none 0 0] 159)).alloc (.cells #[.bool false, .slice none 0 0] 159)).alloc (.cells #[.bool false, .slice none 0 0] 159)).alloc (.cells #[.bool false, .slice none 0 0] 159)).heap.size ((((((w.alloc (.cells #[.bool m, x] 159)).alloc (.cells #[.bool n, y] 159)).alloc (.cells #[.bool false, .slice none 0 0] 159)).alloc (.cells #[.bool false, .slice none 0 0] 159)).alloc (.cells #[.bool false, .slice none 0 0] 159)).alloc (.cells #[.bool false, .slice none 0 0] 159)) w') :
    Below w.heap.size w w' ∧ Bx w' w.heap.size m x ∧ Bx w' (w.heap.size + 1) n y ∧ Bx w' (w.heap.size + 1 + 1) false (.slice none 0 0) ∧ Bx w' (w.heap.size + 1 + 1 + 1) false (.slice none 0 0) ∧ Bx w' (w.heap.size + 1 + 1 + 1 + 1) false (.slice none 0 0) ∧ Bx w' (w.heap.size + 1 + 1 + 1 + 1 + 1) false (.slice none 0 0) := by
  obtain ⟨h1, h2, h3, h4⟩ := three_boxes (w := w) (m := m) (n := n) (x := x) (y := y) (Below.refl _ _)
  have nb : ∀ (W : World), Bx (W.alloc (.cells #[.bool false, .slice none 0 0] 159)) W.heap.size false (.slice none 0 0) := fun W => ⟨box2_alloc W _ _, _, _, _, rfl⟩
  have ns : ∃ a l c, (Value.slice none 0 0) = .slice a l c := ⟨_, _, _, rfl⟩
  refine ⟨below_step (below_alloc (below_alloc (below_alloc h1 _) _) _) h, Bx.later (Bx.alloc (Bx.alloc (Bx.alloc ⟨h2, hx⟩ _) _) _) h, Bx.later (Bx.alloc (Bx.alloc (Bx.alloc ⟨h3, hy⟩ _) _) _) h, Bx.later (Bx.alloc (Bx.alloc (Bx.alloc ⟨h4, ns⟩ _) _) _) h, ?_, ?_, ?_⟩
  · have := Bx.later (((nb (((w.alloc (.cells #[.bool m, x] 159)).alloc (.cells #[.bool n, y] 159)).alloc (.cells #[.bool false, .slice none 0 0] 159))).alloc (.cells #[.bool false, .slice none 0 0] 159)).alloc (.cells #[.bool false, .slice none 0 0] 159)) h
    simpa using this
  · have := Bx.later ((nb ((((w.alloc (.cells #[.bool m, x] 159)).alloc (.cells #[.bool n, y] 159)).alloc (.cells #[.bool false, .slice none 0 0] 159)).alloc (.cells #[.bool false, .slice none 0 0] 159))).alloc (.cells #[.bool false, .slice none 0 0] 159)) h
    simpa using this
  · have := Bx.later (nb (((((w.alloc (.cells #[.bool m, x] 159)).alloc (.cells #[.bool n, y] 159)).alloc (.cells #[.bool false, .slice none 0 0] 159)).alloc (.cells #[.bool false, .slice none 0 0] 159)).alloc (.cells #[.bool false, .slice none 0 0] 159))) h
    simpa using this

end Go.Proofs.YtmjeiepljlepbacGreat
namespace Go.Proofs.YtmjeiepljlepbacGreat
end Go.Proofs.YtmjeiepljlepbacGreat

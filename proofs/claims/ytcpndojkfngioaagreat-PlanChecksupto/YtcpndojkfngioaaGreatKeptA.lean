import Derived.Test.YtcpndojkfngioaaGreatExE
set_option linter.unusedSimpArgs false
set_option linter.unusedVariables false
namespace Go.Proofs.YtcpndojkfngioaaGreat
open Go.RowKit Go.Sort

/-! What a function value needs: the blocks from lo on, but those of N. -/
structure Kept (lo : Nat) (N : List Nat) (w w' : World) : Prop where
  size : w.heap.size ≤ w'.heap.size
  block : ∀ b, lo ≤ b → b < w.heap.size → b ∉ N → w'.heap[b]? = w.heap[b]?
theorem Kept.refl (lo : Nat) (N : List Nat) (w : World) : Kept lo N w w := ⟨Nat.le_refl _, fun _ _ _ _ => rfl⟩
theorem Kept.trans {lo : Nat} {N : List Nat} {w w' w'' : World} (h : Kept lo N w w') (h' : Kept lo N w' w'') : Kept lo N w w'' :=
  ⟨Nat.le_trans h.size h'.size, fun b h1 h2 h3 => (h'.block b h1 (Nat.lt_of_lt_of_le h2 h.size) h3).trans (h.block b h1 h2 h3)⟩
theorem Kept.of_below {w w' : World} (lo : Nat) (N : List Nat) (h : Below w.heap.size w w') : Kept lo N w w' := ⟨h.size, fun b _ h2 _ => h.block b h2⟩
theorem Kept.of_store (w : World) (lo : Nat) {N : List Nat} {B : Nat} (o : Nat) (v : Value) (h : B ∈ N) : Kept lo N w (w.setCell ⟨B, o, none⟩ v) :=
  ⟨by simp [World.setCell], fun b _ _ h3 => Below.heap_setCell _ _ _ _ (fun e => h3 (by rw [e]; exact h))⟩
theorem Kept.more {lo lo' : Nat} {N N' : List Nat} {w w' : World} (h : Kept lo' N' w w') (hl : lo' ≤ lo) (hN : ∀ b ∈ N', b ∈ N ∨ b < lo ∨ w.heap.size ≤ b) : Kept lo N w w' :=
  ⟨h.size, fun b h1 h2 h3 => h.block b (Nat.le_trans hl h1) h2 fun hb => by
    rcases hN b hb with h | h | h
    · exact h3 h
    · omega
    · omega⟩
theorem Kept.cell {lo : Nat} {N : List Nat} {w w' : World} {b o : Nat} {v : Value} (h : w.cell? ⟨b, o, none⟩ = some v) (hk : Kept lo N w w') (h1 : lo ≤ b) (h3 : b ∉ N) : w'.cell? ⟨b, o, none⟩ = some v := by
  have hl := World.block_lt_of_cell? _ _ h
  rw [← h]
  unfold World.cell?
  rw [hk.block b h1 hl h3]
end Go.Proofs.YtcpndojkfngioaaGreat
set_option linter.unusedSimpArgs false
set_option linter.unusedVariables false
namespace Go.Proofs.YtcpndojkfngioaaGreat
open Go.RowKit Go.Sort

mutual
/-- With no more than each operator needs. -/
def copyE : Ex → Ex
  | .mk op n v l => .mk op (if op == 1 then n else 0) (if op == 2 then cleanV v else .null) (copyL l)
def copyL : List Ex → List Ex
  | [] => []
  | e :: l => copyE e :: copyL l
end
theorem copyL_map : ∀ l : List Ex, copyL l = l.map copyE
  | [] => by rw [copyL]; rfl
  | e :: l => by rw [copyL, copyL_map l]; rfl
theorem copyE_eq (e : Ex) : copyE e = .mk e.op (if e.op == 1 then e.n else 0) (if e.op == 2 then cleanV e.v else .null) (e.args.map copyE) := by
  cases e with
  | mk op n v l => rw [copyE, copyL_map]; rfl
theorem copy_op (e : Ex) : (copyE e).op = e.op := by rw [copyE_eq]; rfl
theorem copy_args (e : Ex) : (copyE e).args = e.args.map copyE := by rw [copyE_eq]; rfl
theorem copy_n (e : Ex) : (copyE e).n = if e.op == 1 then e.n else 0 := by rw [copyE_eq]; rfl
theorem copy_v (e : Ex) : (copyE e).v = if e.op == 2 then cleanV e.v else .null := by rw [copyE_eq]; rfl
theorem sound_copy (e : Ex) : soundE (copyE e) = soundE e := by
  have ho := copy_op e
  have hl : (copyE e).args.length = e.args.length := by rw [copy_args, List.length_map]
  have hn := copy_n e
  have hv := copy_v e
  unfold soundE
  rw [ho, hl, hn, hv]
  generalize e.op = op
  by_cases h1 : op = 1
  · subst h1; rfl
  · by_cases h2 : op = 2
    · subst h2
      simp [clean_clean]
    · have e1 : (op == 1) = false := by simpa using h1
      have e2 : (op == 2) = false := by simpa using h2
      rw [e1, e2]
      rfl
mutual
theorem meas_copy : ∀ (e : Ex) (N H : Int), measE soundE (copyE e) N H = measE soundE e N H
  | .mk op n v l, N, H => by
    have hs := sound_copy (.mk op n v l)
    rw [copyE] at hs ⊢
    rw [measE, measE, hs, measL_copy l]
theorem measL_copy : ∀ (l : List Ex) (N H c h : Int), measL soundE (copyL l) N H c h = measL soundE l N H c h
  | [], N, H, c, h => by rw [copyL]
  | e :: l, N, H, c, h => by
    rw [copyL, measL, measL, meas_copy e, measL_copy l]
end
theorem built_copy (e : Ex) : builtE (copyE e) = builtE e := by unfold builtE; rw [meas_copy]
theorem in64_zero : In64 0 := ⟨by decide, by decide⟩
theorem clean_in (v : Val) (h : In64 v.n) : In64 (cleanV v).n := by
  unfold cleanV
  split
  · exact h
  · split
    · exact in64_zero
    · exact in64_zero
mutual
theorem copy_fin : ∀ (e : Ex), e.fin → (copyE e).fin
  | .mk op n v l, h => by
    rw [Ex.fin] at h
    rw [copyE, Ex.fin]
    obtain ⟨⟨h1, h2, h3, h4⟩, h5⟩ := h
    refine ⟨⟨by rw [copyL_map, List.length_map]; exact h1, ?_, ?_, ?_⟩, copy_fins l h5⟩
    · split
      · exact Nat.le_trans (clean_size v) h2
      · exact Nat.zero_le _
    · split
      · exact clean_in v h3
      · exact in64_zero
    · split
      · exact h4
      · exact in64_zero
theorem copy_fins : ∀ (l : List Ex), Ex.fins l → Ex.fins (copyL l)
  | [], _ => by rw [copyL, Ex.fins]; trivial
  | e :: l, h => by
    rw [Ex.fins] at h
    rw [copyL, Ex.fins]
    exact ⟨copy_fin e h.1, copy_fins l h.2⟩
end
/-! A greater budget measures the same. -/
mutual
theorem meas_mono (p : Ex → Bool) : ∀ (e : Ex) (N H N' H' : Int) {c h : Int}, measE p e N H = (c, h, true) → N ≤ N' → H ≤ H' → measE p e N' H' = (c, h, true)
  | .mk op n v l, N, H, N', H', c, h, he, h1, h2 => by
    rw [measE] at he ⊢
    split at he
    · injection he with _ he; injection he with _ he; cases he
    · rename_i hc
      simp only [Bool.or_eq_true, decide_eq_true_eq, not_or, Bool.not_eq_true'] at hc
      have hp : p (.mk op n v l) = true := by simpa using hc.2
      rw [if_neg (by simp only [Bool.or_eq_true, decide_eq_true_eq, not_or, Bool.not_eq_true']; exact ⟨⟨by omega, by omega⟩, by simp [hp]⟩)]
      cases hm : measL p l N H 1 0 with
      | none => rw [hm] at he; simp only at he; injection he with _ he; injection he with _ he; cases he
      | some q =>
        rw [hm] at he
        rw [measL_mono p l N H N' H' 1 0 (by rw [hm]) h1 h2]
        exact he
theorem measL_mono (p : Ex → Bool) : ∀ (l : List Ex) (N H N' H' c h : Int) {q : Int × Int}, measL p l N H c h = some q → N ≤ N' → H ≤ H' → measL p l N' H' c h = some q
  | [], N, H, N', H', c, h, q, he, h1, h2 => by rw [measL] at he ⊢; exact he
  | e :: l, N, H, N', H', c, h, q, he, h1, h2 => by
    rw [measL] at he ⊢
    split at he
    · rename_i hok
      obtain ⟨c2, h2', ok, hm⟩ : ∃ c2 h2 ok, measE p e (N - c) (H - 1) = (c2, h2, ok) := ⟨_, _, _, rfl⟩
      rw [hm] at he hok
      simp only at he hok
      subst hok
      rw [meas_mono p e (N - c) (H - 1) (N' - c) (H' - 1) hm (by omega) (by omega)]
      simp only [if_true]
      exact measL_mono p l N H N' H' _ _ he h1 h2
    · cases he
end
theorem measL_mem (p : Ex → Bool) : ∀ (l : List Ex) (N H c h : Int) (x : Ex), 1 ≤ c → 0 ≤ h → (measL p l N H c h).isSome = true → x ∈ l → ∃ N' H', N' ≤ N ∧ H' ≤ H ∧ (measE p x N' H').2.2 = true
  | [], N, H, c, h, x, _, _, he, hx => by cases hx
  | e :: l, N, H, c, h, x, h1, h2, he, hx => by
    rw [measL] at he
    split at he
    · rename_i hok
      rcases List.mem_cons.1 hx with rfl | hx
      · exact ⟨N - c, H - 1, by omega, by omega, hok⟩
      · obtain ⟨c2, h2', ok, hm⟩ : ∃ c2 h2 ok, measE p e (N - c) (H - 1) = (c2, h2, ok) := ⟨_, _, _, rfl⟩
        rw [hm] at he hok
        simp only at he hok
        subst hok
        have g := meas_le p e (N - c) (H - 1) hm
        exact measL_mem p l N H _ _ x (by omega) (by omega) he hx
    · cases he
theorem built_arg {e x : Ex} {i : Nat} (h : builtE e = true) (hx : e.args[i]? = some x) : builtE x = true := by
  unfold builtE at h ⊢
  rw [measE_eq] at h
  split at h
  · cases h
  · cases hm : measL soundE e.args 400 40 1 0 with
    | none => rw [hm] at h; cases h
    | some q =>
      obtain ⟨N', H', h1, h2, h3⟩ := measL_mem soundE e.args 400 40 1 0 x (by omega) (by omega) (by rw [hm]; rfl) (List.mem_of_getElem? hx)
      obtain ⟨c2, h2', ok, hk⟩ : ∃ c2 h2 ok, measE soundE x N' H' = (c2, h2, ok) := ⟨_, _, _, rfl⟩
      rw [hk] at h3
      simp only at h3
      subst h3
      rw [meas_mono soundE x N' H' 400 40 hk h1 h2]
/-- A node without its parts, with no more than its operator needs. -/
def needE (e : Ex) : Ex := .mk e.op (if e.op == 1 then e.n else 0) (if e.op == 2 then cleanV e.v else .null) []
mutual
/-- Made anew from the leaves on. -/
def madeE (g : Ex → Ex) : Ex → Ex
  | .mk op n v l => g (.mk op (if op == 1 then n else 0) (if op == 2 then cleanV v else .null) (madeL g l))
def madeL (g : Ex → Ex) : List Ex → List Ex
  | [] => []
  | e :: l => madeE g e :: madeL g l
end
theorem madeL_map (g : Ex → Ex) : ∀ l : List Ex, madeL g l = l.map (madeE g)
  | [] => by rw [madeL]; rfl
  | e :: l => by rw [madeL, madeL_map g l]; rfl
/-- A node with its parts made. -/
def nodeG (g : Ex → Ex) (e : Ex) : Ex := .mk e.op (if e.op == 1 then e.n else 0) (if e.op == 2 then cleanV e.v else .null) (e.args.map (madeE g))
theorem madeE_eq (g : Ex → Ex) (e : Ex) : madeE g e = g (nodeG g e) := by
  cases e with
  | mk op n v l => rw [madeE, madeL_map]; rfl
mutual
theorem made_copy : ∀ e : Ex, madeE id e = copyE e
  | .mk op n v l => by rw [madeE, copyE, made_copyL l]; rfl
theorem made_copyL : ∀ l : List Ex, madeL id l = copyL l
  | [] => by rw [madeL, copyL]
  | e :: l => by rw [madeL, copyL, made_copy e, made_copyL l]
end
mutual
/-- No list in it is long. -/
def Ex.short : Ex → Prop
  | .mk _ _ _ l => l.length ≤ 1000000000 ∧ Ex.shorts l
def Ex.shorts : List Ex → Prop
  | [] => True
  | e :: l => e.short ∧ Ex.shorts l
end
theorem Ex.short_open {e : Ex} (h : e.short) : e.args.length ≤ 1000000000 ∧ Ex.shorts e.args := by
  cases e with
  | mk op n v l => rw [Ex.short] at h; exact h
theorem Ex.shorts_mem : ∀ {l : List Ex} {x : Ex}, Ex.shorts l → x ∈ l → x.short
  | [], _, _, h => by cases h
  | e :: l, x, hf, h => by
    rw [Ex.shorts] at hf
    rcases List.mem_cons.1 h with rfl | h
    · exact hf.1
    · exact Ex.shorts_mem hf.2 h
theorem Ex.short_arg {e x : Ex} {i : Nat} (h : e.short) (hx : e.args[i]? = some x) : x.short := Ex.shorts_mem (Ex.short_open h).2 (List.mem_of_getElem? hx)
mutual
theorem meas_short (p : Ex → Bool) : ∀ (e : Ex) (N H : Int), N ≤ 1000000000 → (measE p e N H).2.2 = true → e.short
  | .mk op n v l, N, H, hN, he => by
    rw [measE] at he
    split at he
    · cases he
    · rename_i hc
      simp only [Bool.or_eq_true, decide_eq_true_eq, not_or] at hc
      cases hm : measL p l N H 1 0 with
      | none => rw [hm] at he; cases he
      | some q =>
        rw [Ex.short]
        have := measL_short p l N H 1 0 (q := q) (by omega) (by omega) (by omega) (by omega) hN hm
        have h2 := measL_le p l N H 1 0 (c' := q.1) (h' := q.2) (by omega) (by omega) (by omega) (by omega) hm
        exact ⟨by omega, this.2⟩
theorem measL_short (p : Ex → Bool) : ∀ (l : List Ex) (N H c h : Int) {q : Int × Int}, 1 ≤ c → c ≤ N → 0 ≤ h → h ≤ H - 1 → N ≤ 1000000000 → measL p l N H c h = some q → c + l.length ≤ q.1 ∧ Ex.shorts l
  | [], N, H, c, h, q, h1, h2, h3, h4, hN, he => by
    rw [measL] at he
    injection he with he
    subst he
    exact ⟨by show c + ((0 : Nat) : Int) ≤ c; omega, by rw [Ex.shorts]; trivial⟩
  | e :: l, N, H, c, h, q, h1, h2, h3, h4, hN, he => by
    rw [measL] at he
    split at he
    · rename_i hok
      have hs := meas_short p e (N - c) (H - 1) (by omega) hok
      obtain ⟨c2, h2', ok, hm⟩ : ∃ c2 h2 ok, measE p e (N - c) (H - 1) = (c2, h2, ok) := ⟨_, _, _, rfl⟩
      rw [hm] at he hok
      simp only at he hok
      subst hok
      have g := meas_le p e (N - c) (H - 1) hm
      have := measL_short p l N H (c + c2) (max h h2') (by omega) (by omega) (by omega) (by omega) hN he
      rw [Ex.shorts, List.length_cons]
      exact ⟨by omega, hs, this.2⟩
    · cases he
end
end Go.Proofs.YtcpndojkfngioaaGreat

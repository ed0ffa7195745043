import Derived.Test.YtgmfbjehdcdioaaOfK
set_option linter.unusedSimpArgs false
set_option linter.unusedVariables false
set_option maxRecDepth 100000
namespace Go.Proofs.Ytgmfbjehdcdioaa
open Go.RowKit Go.Sort

theorem eq3 (d : Nat) (k k' : Int) (W : World) : (Op.equalIn (d + 1) 3 (.int .i64 k) (.int .i64 k')).run Try.prog W = .ok (k == k') W := by simp [Op.equalIn, run_underlying Try.underlying3]
theorem eq2 (d : Nat) (k k' : Int) (W : World) : (Op.equalIn (d + 1) 2 (.int .i64 k) (.int .i64 k')).run Try.prog W = .ok (k == k') W := by simp [Op.equalIn, run_underlying Try.underlying2]
theorem eq9 (d : Nat) (s s' : ByteArray) (W : World) : (Op.equalIn (d + 1) 9 (.string s) (.string s')).run Try.prog W = .ok (s == s') W := by simp [Op.equalIn, run_underlying Try.underlying9]
theorem p0 (a b c : Value) (W : World) : (part 3 #[a, b, c] 0).run Try.prog W = .ok a W := by kernel_rfl
theorem p1 (a b c : Value) (W : World) : (part 2 #[a, b, c] 1).run Try.prog W = .ok b W := by kernel_rfl
theorem p2 (a b c : Value) (W : World) : (part 9 #[a, b, c] 2).run Try.prog W = .ok c W := by kernel_rfl
theorem eq34 (k n k' n' : Int) (s s' : ByteArray) (W : World) : (Op.equal 34 (.agg #[.int .i64 k, .int .i64 n, .string s]) (.agg #[.int .i64 k', .int .i64 n', .string s'])).run Try.prog W = .ok (k == k' && n == n' && s == s') W := by
  unfold Op.equal Op.maxDepth Op.equalIn
  simp only [Sem.run_bind, run_underlying Try.underlying34, Result.andThen_ok]
  have hpr : (program).run Try.prog W = .ok Try.prog W := rfl
  have hst : Try.prog.stoodInHeld 34 = false := by kernel_rfl
  have e3 := eq3 9998 k k' W
  have e2 := eq2 9998 n n' W
  have e9 := eq9 9998 s s' W
  cases h1 : (k == k') <;> cases h2 : (n == n') <;> cases h3 : (s == s') <;> simp [hpr, hst, Result.andThen_ok, p0, p1, p2, e3, e2, e9, h1, h2, h3]

theorem ba_eq (c c' : ByteArray) : (c == c') = decide (c = c') := by
  cases c with | mk a => cases c' with | mk b =>
    have e : ((ByteArray.mk a) == (ByteArray.mk b)) = (a == b) := by first | rfl | (simp [BEq.beq, instBEqByteArray.beq]; done)
    rw [e]
    by_cases h : a = b <;> simp [h]
/-- A value as a map's key. -/
structure Vk where
  k : Int
  n : Int
  s : ByteArray
deriving DecidableEq
def Vk.v (x : Vk) : Value := .agg #[.int .i64 x.k, .int .i64 x.n, .string x.s]
theorem eqV (x y : Vk) (W : World) : (Op.equal 34 x.v y.v).run Try.prog W = .ok (decide (x = y)) W := by
  unfold Vk.v
  rw [eq34]
  congr 1
  obtain ⟨a, b, c⟩ := x
  obtain ⟨a', b', c'⟩ := y
  by_cases h1 : a = a' <;> by_cases h2 : b = b' <;> by_cases h3 : c = c' <;> simp [h1, h2, h3, ba_eq]
theorem checkV (e : Bool) (x : Vk) (W : World) : (Instr.checkKey e 10000 34 x.v).run Try.prog W = .ok () W := by cases e <;> kernel_rfl

/-- The entries of a map. -/
def Ents (es : List MapEntry) (L : List (Vk × Nat)) : Prop := es.map (fun e => (e.key, e.val)) = L.map fun q => (q.1.v, pv q.2)
def MapAt (w : World) (mb : Nat) (L : List (Vk × Nat)) : Prop := ∃ es clk, w.heap[mb]? = some (.map es clk) ∧ Ents es.toList L

theorem asking (x : Vk) (W : World) : ∀ (es : List MapEntry) (L : List (Vk × Nat)) (i : Nat), Ents es L → (Instr.findAsking 34 x.v es i).run Try.prog W = .ok ((L.findIdx? fun q => decide (x = q.1)).bind fun j => (L[j]?).map fun q => (i + j, pv q.2)) W
  | [], [], i, _ => by simp [Instr.findAsking]
  | [], q :: L, i, h => by simp [Ents] at h
  | e :: es, [], i, h => by simp [Ents] at h
  | e :: es, q :: L, i, h => by
    simp only [Ents, List.map_cons, List.cons.injEq, Prod.mk.injEq] at h
    obtain ⟨⟨h1, h2⟩, h3⟩ := h
    unfold Instr.findAsking
    rw [Sem.run_bind, h1, eqV, Result.andThen_ok]
    by_cases hx : x = q.1
    · have : (decide (x = q.1)) = true := by simpa using hx
      rw [this, if_pos rfl, Sem.run_pure, List.findIdx?_cons, if_pos (by simpa using hx), h2]
      simp
    · have : (decide (x = q.1)) = false := by simpa using hx
      rw [this, if_neg (by simp), asking x W es L (i + 1) h3, List.findIdx?_cons, if_neg (by simpa using hx)]
      congr 1
      cases hL : L.findIdx? fun q => decide (x = q.1) with
      | none => simp
      | some j => simp; congr 1; funext q; simp; omega

/-- Where a value is. -/
def atK (L : List (Vk × Nat)) (x : Vk) : Option (Nat × Nat) := (L.findIdx? fun q => decide (x = q.1)).bind fun j => (L[j]?).map fun q => (j, q.2)
theorem findV (x : Vk) (W : World) (es : List MapEntry) (L : List (Vk × Nat)) (h : Ents es L) : (Instr.findKey 34 x.v es).run Try.prog W = .ok ((atK L x).map fun q => (q.1, pv q.2)) W := by
  have hu := run_underlying Try.underlying34 W
  unfold Instr.findKey
  rw [Sem.run_bind, hu, Result.andThen_ok]
  cases es with
  | nil =>
    cases L with
    | nil => simp [Instr.findNow, atK]
    | cons q L => simp [Ents] at h
  | cons e es =>
    have hk : e.key = .agg (match e.key with | .agg a => a | _ => #[]) := by
      cases L with
      | nil => simp [Ents] at h
      | cons q L =>
        simp only [Ents, List.map_cons, List.cons.injEq, Prod.mk.injEq] at h
        rw [h.1.1]; rfl
    have hn : Instr.findNow (.struct #[{ name := "Kind", type := 3, offset := 0, embedded := false, tag := "", pkgPath := "", byteOffset := 0 }, { name := "N", type := 2, offset := 1, embedded := false, tag := "", pkgPath := "", byteOffset := 8 }, { name := "S", type := 9, offset := 2, embedded := false, tag := "", pkgPath := "", byteOffset := 16 }]) x.v (e :: es) 0 = none := by
      unfold Instr.findNow; simp [Instr.sameNow]
    rw [hn]
    have := asking x W (e :: es) L 0 h
    simp only [Nat.zero_add] at this
    rw [this]
    congr 1
    unfold atK
    cases L.findIdx? fun q => decide (x = q.1) with
    | none => rfl
    | some j => simp; cases L[j]? <;> rfl
end Go.Proofs.Ytgmfbjehdcdioaa

import Derived.Test.YtbmeoabafmpacaaCellJ
set_option linter.unusedSimpArgs false
set_option linter.unusedVariables false
namespace Go.Proofs.Ytbmeoabafmpacaa
open Go.RowKit Go.Sort

theorem Try.info23 : (Try.prog.info? 23).map (fun i => (i.zero, i.size, i.bytes)) = some (some (.agg #[.int .i64 0, .int .i64 0, .string ⟨#[]⟩]), 3, 32) := by kernel_rfl

def c3 (x : Val) : List Value := [.int .i64 x.k, .int .i64 x.n, .string x.s]
/-- The slice of values v, a row of the call's own, holds xs. -/
def OwnV (w : World) (base : Nat) (v : Value) (xs : List Val) : Prop := w.ownsRow base 23 3 v xs.length (xs.flatMap c3)
theorem ownV_app {w : World} {base : Nat} {v : Value} {ys : List Val} {x : Val} (h : w.ownsRow base 23 3 v (ys.length + 1) (ys.flatMap c3 ++ c3 x)) : OwnV w base v (ys ++ [x]) := by
  unfold OwnV
  rw [List.length_append, List.flatMap_append]
  simpa using h
theorem ownV_lt {w : World} {base : Nat} {v : Value} {xs : List Val} (h : OwnV w base v xs) {g : Nat} (hg : v.ownBlock = some g) : base ≤ g ∧ g < w.heap.size := World.ownsRow.lt h g hg

theorem addT_some {t u : List Int} {m n : Nat} {o : Option (List Int × Nat)} (h : addT t m o = some (u, n)) : ∃ u' n', o = some (u', n') ∧ n = m + n' := by
  cases o with
  | none => simp [addT] at h
  | some p => simp [addT] at h; exact ⟨p.1, p.2, rfl, by omega⟩
theorem firstT_n : ∀ (N : Nat) (l : List UInt8) (t : List Int) (m : Nat), l.length ≤ N → firstT l = some (t, m) → m ≤ l.length := by
  intro N
  induction N with
  | zero => intro l t m hl h; have : l = [] := List.eq_nil_of_length_eq_zero (by omega); subst this; simp [firstT] at h
  | succ N ih =>
    intro l t m hl h
    match l, hl, h with
    | [], _, h => simp [firstT] at h
    | [c], _, h => simp [firstT] at h
    | c :: d :: r, hl, h =>
      simp only [List.length_cons] at hl
      rw [firstT] at h
      split at h
      · split at h
        · obtain ⟨u', n', h1, h2⟩ := addT_some h
          have := ih r u' n' (by omega) h1
          simp only [List.length_cons]
          omega
        · split at h
          · simp at h; simp only [List.length_cons]; omega
          · cases h
      · obtain ⟨u', n', h1, h2⟩ := addT_some h
        have := ih (d :: r) u' n' (by simp only [List.length_cons]; omega) h1
        simp only [List.length_cons] at *
        omega
theorem firstV_n {s : ByteArray} {x : Val} {n : Nat} (h : firstV s = some (x, n)) : 1 ≤ n ∧ n ≤ s.size := by
  by_cases h0 : 0 < s.size
  · rw [firstV_eq s h0] at h
    split at h
    · simp at h; omega
    · split at h
      · split at h
        · simp at h; omega
        · cases h
      · split at h
        · cases hf : firstT (dropB s 1) with
          | none => rw [hf] at h; simp [textV] at h
          | some p =>
            rw [hf] at h
            simp [textV] at h
            have := firstT_n _ _ p.1 p.2 (Nat.le_refl _) hf
            simp [dropB] at this
            omega
        · cases h
  · rw [firstV, drop_nil s 0 (by omega)] at h
    cases h

def rowD : Nat → ByteArray → Option (List Val)
  | 0, s => if s.size = 0 then some [] else none
  | f + 1, s => if s.size = 0 then some [] else match firstV s with
    | none => none
    | some (x, n) => (rowD f (s.extract n s.size)).map (x :: ·)
theorem rowD_more : ∀ (f : Nat) (s : ByteArray), s.size ≤ f → rowD (f + 1) s = rowD f s := by
  intro f
  induction f with
  | zero => intro s h; have h0 : s.size = 0 := by omega
            simp [rowD, h0]
  | succ f ih =>
    intro s h
    rw [rowD]
    by_cases h0 : s.size = 0
    · simp [rowD, h0]
    · rw [if_neg h0]
      rw [rowD, if_neg h0]
      cases hf : firstV s with
      | none => rfl
      | some p =>
        obtain ⟨x, n⟩ := p
        have := firstV_n hf
        simp only
        rw [ih _ (by simp; omega)]
theorem rowD_fuel (s : ByteArray) : ∀ (f : Nat), s.size ≤ f → rowD f s = rowD s.size s := by
  intro f h
  induction f with
  | zero => have : s.size = 0 := by omega
            rw [this]
  | succ f ih =>
    by_cases h1 : s.size = f + 1
    · rw [h1]
    · rw [rowD_more f s (by omega), ih (by omega)]
def decode (s : ByteArray) : Option (List Val) := rowD s.size s
theorem decode_nil (s : ByteArray) (h : s.size = 0) : decode s = some [] := by
  unfold decode; rw [h]; simp [rowD, h]
theorem decode_none (s : ByteArray) (h : 0 < s.size) (hf : firstV s = none) : decode s = none := by
  unfold decode
  obtain ⟨m, hm⟩ : ∃ m, s.size = m + 1 := ⟨s.size - 1, by omega⟩
  rw [hm, rowD, if_neg (by omega), hf]
theorem decode_some (s : ByteArray) (x : Val) (n : Nat) (hf : firstV s = some (x, n)) : decode s = (decode (s.extract n s.size)).map (x :: ·) := by
  have h1 := firstV_n hf
  unfold decode
  obtain ⟨m, hm⟩ : ∃ m, s.size = m + 1 := ⟨s.size - 1, by omega⟩
  have e : rowD s.size s = (rowD m (s.extract n s.size)).map (x :: ·) := by
    conv => lhs; rw [hm]
    rw [rowD, if_neg (by omega), hf]
  rw [e, rowD_fuel _ m (by simp; omega)]

/-- What 'Row' hands back. -/
def GotRow (w' : World) (base : Nat) (o : Option (List Val)) (e : Ending) : Prop :=
  match o with
  | some xs => ∃ v, e = .returned (.tuple #[v, .int .i64 0]) ∧ OwnV w' base v xs
  | none => e = .returned (.tuple #[.slice none 0 0, .int .i64 2])

theorem OwnV.later {w w1 : World} {base : Nat} {v : Value} {xs : List Val} (h : OwnV w base v xs) (hb : Below w.heap.size w w1) : OwnV w1 base v xs :=
  World.ownsRow.kept (row := none) h ⟨hb.os, hb.tape, hb.output, hb.size, fun k hk _ => hb.block k hk⟩ (by cases v.ownBlock with | none => exact .inl rfl | some g => exact .inr (by simp))
def strLen : Value → Nat
  | .string s => s.size
  | _ => 0

set_option maxHeartbeats 2000000 in
set_option maxRecDepth 100000 in
theorem row_any (s : ByteArray) (w : World) (hs : s.size ≤ 1000000000) :
    Calls Try.prog 29 #[.string s] w fun e w' => GotRow w' w.heap.size (decode s) e ∧ Below w.heap.size w w' := by
  obtain ⟨i0, hi, hz0, hz1, hz2⟩ := info_parts Try.info23
  go_enter Try.func29, Try.ntmps29
  go_wp2_with fail
  go_loopw [0, 4] (fun key v wr => ∃ (s' : ByteArray) (xs : List Val), key = .string s' ∧ xs.length + s'.size ≤ s.size ∧ OwnV wr w.heap.size v xs ∧ Hid (decode s = (decode s').map (xs ++ ·)) ∧ Below w.heap.size w wr) (fun key _ _ => strLen key)
  case atStart => exact ⟨s, [], rfl, by simp, World.ownsRow_lit w #[] 0 (Nat.le_refl _) (by decide) rfl, by show _ = _; cases decode s <;> simp, (Below.refl _ _).alloc (Nat.le_refl _) _⟩
  case round =>
    obtain ⟨s', xs, rfl, hl, ho, HD, hb⟩ := hrel
    by_cases h1 : 0 < s'.size
    · have i1 : (0 : Int) < (s'.size : Int) := by omega
      cases hf : firstV s' with
      | none =>
        have HE : Hid (decode s = none) := by show _ = _; rw [unhide HD, decode_none s' h1 hf]; rfl
        have HC : Hid (∀ w, Calls Try.prog 63 #[.string s'] w fun e w' => e = .returned (.tuple #[Val.null.v, .int .i64 0]) ∧ Below w.heap.size w w') := by
          intro w
          have := firstval_any s' w h1 (by omega)
          rw [hf] at this
          exact this
        clear hf
        go_wp2_with (go_at_call 63; refine (unhide HC _).mono ?_; rintro e w1 ⟨rfl, hb1⟩; rw [Val.open_])
        go_ret2
        exact ⟨by rw [unhide HE]; rfl, below_alloc (below_step hb hb1) _⟩
      | some p =>
        obtain ⟨x, n⟩ := p
        have hn := firstV_n hf
        have HE : Hid (decode s = (decode (s'.extract n s'.size)).map ((xs ++ [x]) ++ ·)) := by
          show _ = _
          rw [unhide HD, decode_some s' x n hf]
          cases decode (s'.extract n s'.size) <;> simp
        have HC : Hid (∀ w, Calls Try.prog 63 #[.string s'] w fun e w' => e = .returned (.tuple #[x.v, .int .i64 n]) ∧ Below w.heap.size w w') := by
          intro w
          have := firstval_any s' w h1 (by omega)
          rw [hf] at this
          exact this
        obtain ⟨hn1, hn2⟩ := hn
        have i2 : ((n : Int) == 0) = false := by simp; omega
        have i3 : (n : Int) ≤ (s'.size : Int) := by omega
        clear hf
        go_wp2_with (first
          | (go_at_call 63; refine (unhide HC _).mono ?_; rintro e w1 ⟨rfl, hb1⟩; rw [Val.open_]; have ho1 := ho.later hb1; have hbw := below_step hb hb1)
          | (at_builtin; refine wpList_append_own_at _ rfl (.tmp 18) (.tmp 20) 30 rfl w.heap.size 23 i0 (.agg #[.int .i64 0, .int .i64 0, .string ⟨#[]⟩]) 3 32 Try.underlying30 hi hz0 hz1 hz2 rfl (by decide) _ _ _ rfl (World.ownsRow.alloc (World.ownsRow.alloc ho1 _) _) ⟨w1.heap.size + 1, 0, none⟩ 1 1 (c3 x) rfl rfl ?_ (by intro u hu; simp [c3] at hu; rcases hu with rfl | rfl | rfl <;> rfl) (by unfold maxLen; omega) (by omega) (by have := hbw.size; simp; omega) ?_; rotate_right; intro v1 w2 hown1 hgrow1 _ hat1; have hg1 := Grew.app2 hgrow1 hat1; have ho2 := ownV_app hown1; clear hown1 hgrow1 hat1))
        · have hg2 : Grew w1 w2 u4 v1 := hg1
          have hb2 : Below w.heap.size w w2 := hbw.trans (hg2.below hbw.size (fun g hg => (ownV_lt ho1 hg).1))
          have hsz : (s'.extract n s'.size).size = s'.size - n := by simp
          clear hg1 hg2
          go_roundw
          case rel => exact ⟨_, xs ++ [x], rfl, by rw [hsz, List.length_append, List.length_singleton]; omega, ho2, HE, hb2⟩
          case measure => simp only [strLen]; omega
        · intro j u hj
          match j, hj with
          | 0, hj => simp [c3] at hj; subst hj; simp [Addr.add, go_sem]
          | 1, hj => simp [c3] at hj; subst hj; simp [Addr.add, go_sem]
          | 2, hj => simp [c3] at hj; subst hj; simp [Addr.add, go_sem]
          | j + 3, hj => simp [c3] at hj
    · have h0 : s'.size = 0 := by omega
      have i1 : ¬ (0 : Int) < (s'.size : Int) := by omega
      have HE : Hid (decode s = some xs) := by show _ = _; rw [unhide HD, decode_nil s' h0]; simp
      clear h0
      go_wp2
      go_ret2
      exact ⟨by rw [unhide HE]; exact ⟨_, rfl, ho⟩, hb⟩

end Go.Proofs.Ytbmeoabafmpacaa

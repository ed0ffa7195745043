import Derived.Test.YtcbenpodohjbiaaGreatExA
import Derived.Maps.AppendAt
import Derived.Deep.AppendLies
import Derived.Test.YtcbenpodohjbiaaGreatPlA
set_option linter.unusedSimpArgs false
set_option linter.unusedVariables false
namespace Go.Proofs.YtcbenpodohjbiaaGreat
open Go.RowKit Go.Sort

/-- w' is w with new blocks, and with writes to v's own row alone; v' lies there, or in a new block. -/
def Grew (w w' : World) (v v' : Value) : Prop := w.grownBy w' v.ownBlock ∧ (v'.ownBlock = v.ownBlock ∨ ∃ g, v'.ownBlock = some g ∧ w.heap.size ≤ g)

theorem Grew.refl (w : World) (v : Value) : Grew w w v v := ⟨⟨rfl, rfl, rfl, Nat.le_refl _, fun _ _ _ => rfl⟩, .inl rfl⟩
theorem Grew.trans {a b c : World} {u v x : Value} (h : Grew a b u v) (k : Grew b c v x) : Grew a c u x := by
  obtain ⟨h1, h2⟩ := h
  obtain ⟨k1, k2⟩ := k
  refine ⟨⟨k1.os.trans h1.os, k1.tape.trans h1.tape, k1.output.trans h1.output, Nat.le_trans h1.size k1.size, fun i hi hne => ?_⟩, ?_⟩
  · rw [k1.block i (Nat.lt_of_lt_of_le hi h1.size) ?_, h1.block i hi hne]
    rcases h2 with h2 | ⟨g, h2, hg⟩
    · rw [h2]; exact hne
    · rw [h2]; intro e; cases e; omega
  · rcases k2 with k2 | ⟨g, k2, hg⟩
    · rcases h2 with h2 | ⟨g, h2, hg⟩
      · exact .inl (k2.trans h2)
      · exact .inr ⟨g, k2.trans h2, hg⟩
    · exact .inr ⟨g, k2, Nat.le_trans h1.size hg⟩
theorem Grew.below {a b : World} {u v : Value} (h : Grew a b u v) {B : Nat} (hB : B ≤ a.heap.size) (hu : ∀ g, u.ownBlock = some g → B ≤ g) : Below B a b :=
  ⟨h.1.os, h.1.tape, h.1.output, h.1.size, fun k hk => h.1.block k (by omega) (fun e => by have := hu k e.symm; omega)⟩

/-- The k-th byte of a word, the highest first. -/
def be (U : Int) (k : Nat) : Int := U / 2 ^ (56 - 8 * k) % 256
theorem grew_kept {w1 w2 : World} {u v : Value} (h : Grew w1 w2 u v) {b : Nat} (hb : b < w1.heap.size) (hne : u.ownBlock ≠ some b) (j : Nat) : w2.cell? ⟨b, j, none⟩ = w1.cell? ⟨b, j, none⟩ :=
  World.cell?_of_block (a := ⟨b, j, none⟩) (h.1.block b hb (fun e => hne e.symm))

end Go.Proofs.YtcbenpodohjbiaaGreat
set_option linter.unusedSimpArgs false
set_option linter.unusedVariables false
namespace Go.Proofs.YtcbenpodohjbiaaGreat
open Go.RowKit Go.Sort

theorem cmpI_anti (a b : Int) : cmpI a b = - cmpI b a := by
  unfold cmpI
  by_cases h : a < b
  · have : ¬ b < a := by omega
    simp [h, this]
  · by_cases h2 : b < a
    · simp [h, h2]
    · simp [h, h2]
theorem cb_anti : ∀ (s t : List UInt8), Lib.compareBytes s t = - Lib.compareBytes t s
  | [], [] => rfl
  | [], _ :: _ => rfl
  | _ :: _, [] => rfl
  | c :: s, d :: t => by
    have ih := cb_anti s t
    by_cases h : c < d
    · have : ¬ d < c := UInt8.not_lt.2 (UInt8.le_of_lt h)
      simp [Lib.compareBytes, h, this]
    · by_cases h2 : d < c
      · simp [Lib.compareBytes, h, h2]
      · simp [Lib.compareBytes, h, h2, ih]
theorem ord_anti (x y : Val) : ordV x y = - ordV y x := by
  unfold ordV cmpB
  rw [cmpI_anti (cleanV x).k, cmpI_anti (cleanV x).n, cb_anti (cleanV x).s.data.toList]
  unfold orI
  generalize cmpI (cleanV y).k (cleanV x).k = a
  generalize cmpI (cleanV y).n (cleanV x).n = b
  generalize Lib.compareBytes (cleanV y).s.data.toList (cleanV x).s.data.toList = c
  by_cases h : a = 0 <;> by_cases h2 : b = 0 <;> simp [h, h2]
theorem rows_anti : ∀ (xs ys : List Val), rowsV xs ys = - rowsV ys xs
  | [], [] => rfl
  | [], _ :: _ => rfl
  | _ :: _, [] => rfl
  | x :: xs, y :: ys => by
    have ih := rows_anti xs ys
    have e := ord_anti x y
    rw [rowsV, rowsV]
    by_cases h : ordV x y = 0
    · have h2 : ordV y x = 0 := by omega
      rw [if_pos h, if_pos h2, ih]
    · have h2 : ¬ ordV y x = 0 := by omega
      rw [if_neg h, if_neg h2, e]

end Go.Proofs.YtcbenpodohjbiaaGreat
set_option linter.unusedSimpArgs false
set_option linter.unusedVariables false
set_option maxRecDepth 100000
namespace Go.Proofs.YtcbenpodohjbiaaGreat
open Go.RowKit Go.Sort

theorem cb_zero : ∀ (s t : List UInt8), Lib.compareBytes s t = 0 → s = t
  | [], [], _ => rfl
  | [], b :: t, h => by simp [Lib.compareBytes] at h
  | a :: s, [], h => by simp [Lib.compareBytes] at h
  | a :: s, b :: t, h => by
    rw [Lib.compareBytes] at h
    by_cases h1 : a < b
    · simp [h1] at h
    · by_cases h2 : b < a
      · simp [h1, h2] at h
      · simp only [h1, h2, if_false] at h
        have e : a = b := UInt8.le_antisymm (UInt8.not_lt.1 h2) (UInt8.not_lt.1 h1)
        rw [e, cb_zero s t h]
theorem cb_le : ∀ (s t u : List UInt8), Lib.compareBytes s t ≤ 0 → Lib.compareBytes t u ≤ 0 → Lib.compareBytes s u ≤ 0
  | [], t, [], _, _ => by simp [Lib.compareBytes]
  | [], t, c :: u, _, _ => by simp [Lib.compareBytes]
  | a :: s, [], u, h, _ => by simp [Lib.compareBytes] at h
  | a :: s, b :: t, [], _, h => by simp [Lib.compareBytes] at h
  | a :: s, b :: t, c :: u, h1, h2 => by
    rw [Lib.compareBytes] at h1 h2 ⊢
    by_cases hab : a < b
    · by_cases hbc : b < c
      · have := UInt8.lt_trans hab hbc
        simp [this]
      · by_cases hcb : c < b
        · simp [hbc, hcb] at h2
        · have e : b = c := UInt8.le_antisymm (UInt8.not_lt.1 hcb) (UInt8.not_lt.1 hbc)
          subst e
          simp [hab]
    · by_cases hba : b < a
      · simp [hab, hba] at h1
      · have e : a = b := UInt8.le_antisymm (UInt8.not_lt.1 hba) (UInt8.not_lt.1 hab)
        subst e
        simp only [hab, if_false] at h1
        by_cases hbc : a < c
        · simp [hbc]
        · by_cases hcb : c < a
          · simp [hbc, hcb] at h2
          · simp only [hbc, hcb, if_false] at h2 ⊢
            exact cb_le s t u h1 h2
theorem cmpI_neg (x y : Int) : cmpI x y < 0 ↔ x < y := by unfold cmpI; split <;> (try split) <;> omega
theorem cmpI_zero (x y : Int) : cmpI x y = 0 ↔ x = y := by unfold cmpI; split <;> (try split) <;> omega
theorem orI_le (x y z : Int) : orI x y z ≤ 0 ↔ x < 0 ∨ (x = 0 ∧ (y < 0 ∨ (y = 0 ∧ z ≤ 0))) := by unfold orI; split <;> (try split) <;> omega
theorem orI_zero (x y z : Int) : orI x y z = 0 ↔ x = 0 ∧ y = 0 ∧ z = 0 := by unfold orI; split <;> (try split) <;> omega
theorem ord_le {x y z : Val} (h1 : ordV x y ≤ 0) (h2 : ordV y z ≤ 0) : ordV x z ≤ 0 := by
  unfold ordV at *
  rw [orI_le, cmpI_neg, cmpI_zero, cmpI_neg, cmpI_zero] at *
  have h3 := cb_le (cleanV x).s.data.toList (cleanV y).s.data.toList (cleanV z).s.data.toList
  have h4 : cmpB (cleanV x).s (cleanV y).s ≤ 0 → cmpB (cleanV y).s (cleanV z).s ≤ 0 → cmpB (cleanV x).s (cleanV z).s ≤ 0 := h3
  generalize cmpB (cleanV x).s (cleanV y).s = p at *
  generalize cmpB (cleanV y).s (cleanV z).s = q at *
  generalize cmpB (cleanV x).s (cleanV z).s = r at *
  omega
theorem ord_self (x : Val) : ordV x x = 0 := by have := ord_anti x x; omega
theorem ord_eq {x y : Val} (h : ordV x y = 0) : cleanV x = cleanV y := by
  unfold ordV at h
  rw [orI_zero, cmpI_zero, cmpI_zero] at h
  obtain ⟨h1, h2, h3⟩ := h
  have h4 := cb_zero _ _ h3
  cases hx : cleanV x with
  | mk a b c =>
    cases hy : cleanV y with
    | mk a' b' c' =>
      rw [hx, hy] at h1 h2 h4
      simp only at h1 h2 h4
      rw [h1, h2]
      congr 1
      exact ByteArray.ext (Array.toList_inj.1 h4)
theorem cclean (x : Val) : cleanV (cleanV x) = cleanV x := by
  unfold cleanV
  by_cases h1 : x.k == 1
  · simp [h1, Val.num]
  · by_cases h2 : x.k == 2
    · simp [h1, h2, Val.str]
    · simp [h1, h2, Val.null]

theorem rows_le : ∀ (xs ys zs : List Val), rowsV xs ys ≤ 0 → rowsV ys zs ≤ 0 → rowsV xs zs ≤ 0
  | [], _, [], _, _ => by simp [rowsV]
  | [], _, _ :: _, _, _ => by simp [rowsV]
  | _ :: _, [], _, h, _ => by simp [rowsV] at h
  | _ :: _, _ :: _, [], _, h => by simp [rowsV] at h
  | x :: xs, y :: ys, z :: zs, h1, h2 => by
    simp only [rowsV] at h1 h2 ⊢
    have a1 := ord_anti x y
    have a2 := ord_anti y z
    have a3 := ord_anti x z
    have ih := rows_le xs ys zs
    have e1 : ordV x y ≤ 0 := by split at h1 <;> omega
    have e2 : ordV y z ≤ 0 := by split at h2 <;> omega
    have e3 := ord_le e1 e2
    split
    · rename_i e
      have e4 := ord_le (x := z) (y := x) (z := y) (by omega) e1
      have e5 := ord_le (x := y) (y := z) (z := x) e2 (by omega)
      rw [if_pos (by omega)] at h1
      rw [if_pos (by omega)] at h2
      exact ih h1 h2
    · exact e3
theorem rows_self : ∀ xs : List Val, rowsV xs xs = 0
  | [] => rfl
  | x :: xs => by rw [rowsV, ord_self, if_pos rfl]; exact rows_self xs
theorem rows_eq : ∀ (xs ys : List Val), rowsV xs ys = 0 → xs.map cleanV = ys.map cleanV
  | [], [], _ => rfl
  | [], _ :: _, h => by simp [rowsV] at h
  | _ :: _, [], h => by simp [rowsV] at h
  | x :: xs, y :: ys, h => by
    rw [rowsV] at h
    split at h
    · rename_i e
      rw [List.map_cons, List.map_cons, ord_eq e, rows_eq xs ys h]
    · omega
/-- Rows that are clean. -/
def cleanR (r : List Val) : List Val := r.map cleanV
theorem cleanR_clean (r : List Val) : cleanR (cleanR r) = cleanR r := by
  unfold cleanR
  rw [List.map_map]
  exact List.map_congr_left fun x _ => cclean x
def RisesR (l : List (List Val)) : Prop := l.Pairwise fun x y => rowsV x y ≤ 0
theorem risesR_eq {xs ys : List (List Val)} (h1 : RisesR xs) (h2 : RisesR ys) (hp : xs.Perm ys) (hc : ∀ x ∈ xs, cleanR x = x) : xs = ys :=
  List.Perm.eq_of_pairwise (le := fun x y => rowsV x y ≤ 0) (fun a b ha hb h3 h4 => by
    have := rows_anti a b
    have := rows_eq a b (by omega)
    rw [show a.map cleanV = a from hc a ha, show b.map cleanV = b from hc b (hp.mem_iff.2 hb)] at this
    exact this) h1 h2 hp
/-- What the document's Sorted answers. -/
def sortedP (rs : List (List Val)) : List (List Val) := (rs.map cleanR).mergeSort fun x y => decide (rowsV x y ≤ 0)
theorem sortedP_perm (rs : List (List Val)) : (sortedP rs).Perm (rs.map cleanR) := List.mergeSort_perm _ _
theorem sortedP_rises (rs : List (List Val)) : RisesR (sortedP rs) := by
  have := List.pairwise_mergeSort (le := fun x y => decide (rowsV x y ≤ 0)) (fun a b c h1 h2 => by
    simp only [decide_eq_true_eq] at *
    exact rows_le a b c h1 h2) (fun a b => by
    have := rows_anti a b
    simp only [Bool.or_eq_true, decide_eq_true_eq]
    omega) (rs.map cleanR)
  exact this.imp fun h => by simpa using h
theorem sortedP_of {rs ys : List (List Val)} (hp : ys.Perm (rs.map cleanR)) (hr : RisesR ys) : ys = sortedP rs :=
  risesR_eq hr (sortedP_rises rs) (hp.trans (sortedP_perm rs).symm) fun x hx => by
    obtain ⟨q, _, rfl⟩ := List.mem_map.1 (hp.mem_iff.1 hx)
    exact cleanR_clean q

end Go.Proofs.YtcbenpodohjbiaaGreat

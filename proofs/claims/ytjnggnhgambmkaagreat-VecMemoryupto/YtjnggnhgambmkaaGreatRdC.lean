import Derived.Test.YtjnggnhgambmkaaGreatRdA
import Derived.Test.YtjnggnhgambmkaaGreatVecO
set_option linter.unusedSimpArgs false
set_option linter.unusedVariables false
namespace Go.Proofs.YtjnggnhgambmkaaGreat
open Go.RowKit Go.Sort

/-- A number of 64 bits, with its sign. -/
def sint (n : Nat) : Int := wrap64 (n : Int)
def takeD (n : Nat) (l : List UInt8) : Option (List UInt8 × List UInt8) := if n ≤ l.length then some (l.take n, l.drop n) else none
def numD (n : Nat) (l : List UInt8) : Option (Nat × List UInt8) := if n ≤ l.length then some (beV (l.take n), l.drop n) else none
/-- A value of this kind, read. -/
def plainD (kind : Int) (l : List UInt8) : Option (Val × List UInt8) :=
  if kind == 1 then (numD 8 l).map fun p => (.num (sint p.1), p.2)
  else (numD 2 l).bind fun p => if p.1 ≤ 1000 then (takeD p.1 p.2).map fun q => (.str (bs q.1), q.2) else none
def plainsD (kind : Int) : Nat → List UInt8 → Option (List Val × List UInt8)
  | 0, l => some ([], l)
  | n + 1, l => (plainsD kind n l).bind fun p => (plainD kind p.2).map fun q => (p.1 ++ [q.1], q.2)
theorem numD_some {n m : Nat} {l r : List UInt8} (h : numD n l = some (m, r)) : n ≤ l.length ∧ m = beV (l.take n) ∧ r = l.drop n := by
  unfold numD at h
  split at h
  · injection h with h; injection h with h1 h2; exact ⟨by assumption, h1.symm, h2.symm⟩
  · cases h
theorem numD_none {n : Nat} {l : List UInt8} (h : numD n l = none) : l.length < n := by
  unfold numD at h
  split at h
  · cases h
  · omega
theorem takeD_some {n : Nat} {l t r : List UInt8} (h : takeD n l = some (t, r)) : n ≤ l.length ∧ t = l.take n ∧ r = l.drop n := by
  unfold takeD at h
  split at h
  · injection h with h; injection h with h1 h2; exact ⟨by assumption, h1.symm, h2.symm⟩
  · cases h
theorem takeD_none {n : Nat} {l : List UInt8} (h : takeD n l = none) : l.length < n := by
  unfold takeD at h
  split at h
  · cases h
  · omega
theorem numd_yes {b n m : Nat} {l r : List UInt8} {w : World} (h : Rd w b l) (hl : l.length ≤ 140737488355328) (hd : numD n l = some (m, r)) (h8 : n ≤ 8) :
    Calls Tryz.prog 53 #[.pointer (some ⟨b, 0, none⟩), .int .i64 n] w fun e w' => e = .returned (.int .u64 m) ∧ Rd w' b r ∧ Gr w w' b := by
  obtain ⟨h1, rfl, rfl⟩ := numD_some hd
  exact num_yes b n l w h hl h1 h8
theorem numd_no {b n : Nat} {l : List UInt8} {w : World} (h : Rd w b l) (hl : l.length ≤ 140737488355328) (hd : numD n l = none) :
    Calls Tryz.prog 53 #[.pointer (some ⟨b, 0, none⟩), .int .i64 n] w fun e w' => e = dmg ∧ w' = w := num_no b n l w h hl (numD_none hd)
theorem takeg_yes {b n : Nat} {l t r : List UInt8} {w : World} (h : Rd w b l) (hl : l.length ≤ 140737488355328) (hd : takeD n l = some (t, r)) :
    Calls Tryz.prog 70 #[.pointer (some ⟨b, 0, none⟩), .int .i64 n] w fun e w' => e = .returned (.string (bs t)) ∧ Rd w' b r ∧ Gr w w' b := by
  obtain ⟨h1, rfl, rfl⟩ := takeD_some hd
  exact (take_yes b n l w h hl h1).mono fun e w' ⟨he, hw⟩ => ⟨he, hw ▸ h.set _, hw ▸ Gr.set w b _⟩
theorem takeg_no {b n : Nat} {l : List UInt8} {w : World} (h : Rd w b l) (hl : l.length ≤ 140737488355328) (hd : takeD n l = none) :
    Calls Tryz.prog 70 #[.pointer (some ⟨b, 0, none⟩), .int .i64 n] w fun e w' => e = dmg ∧ w' = w := take_no b n l w h hl (takeD_none hd)
theorem numD_le {n m : Nat} {l r : List UInt8} (h : numD n l = some (m, r)) : r.length ≤ l.length := by
  obtain ⟨_, _, rfl⟩ := numD_some h; simp
theorem takeD_le {n : Nat} {l t r : List UInt8} (h : takeD n l = some (t, r)) : r.length ≤ l.length := by
  obtain ⟨_, _, rfl⟩ := takeD_some h; simp
theorem Rd.alloc {w : World} {b : Nat} {l : List UInt8} (h : Rd w b l) (o : Obj) : Rd (w.alloc o) b l := World.rowIs.alloc h o
theorem Rd.ne {w : World} {b : Nat} {l : List UInt8} (h : Rd w b l) : b < w.heap.size := World.rowIs.lt h

/-- A value's box in a world of a reader's: it stands as long as only the reader's block turns. -/
theorem box_gr {w w1 : World} {b : Nat} {l : List UInt8} {y : Val} (h : Rd w b l) (hg : Gr (w.alloc (.cells #[.int .i64 y.k, .int .i64 y.n, .string y.s] 38)) w1 b) : w1.rowIs w.heap.size 38 3 (box3 y) :=
  World.rowIs.of_block (box3_alloc w y) (hg.block w.heap.size (by simp) (fun e => by injection e with e; have := h.ne; omega))
/-- Stores into a new box. -/
theorem gr_box {w w1 : World} {b : Nat} {o : Obj} (hg : Gr (w.alloc o) w1 b) (j : Nat) (v : Value) : Gr (w.alloc o) w1 b := hg
theorem Gr.new3 {w w1 : World} {b : Nat} {o : Obj} (hg : Gr (w.alloc o) w1 b) (u v x : Value) : Gr w (((w1.setCell ⟨w.heap.size, 0, none⟩ u).setCell ⟨w.heap.size, 1, none⟩ v).setCell ⟨w.heap.size, 2, none⟩ x) b := by
  have hs : w.heap.size + 1 ≤ w1.heap.size := by have := hg.size; simpa using this
  refine ⟨hg.os, hg.tape, hg.output, ?_, fun i hi hne => ?_⟩
  · simp; omega
  · have h1 : i ≠ w.heap.size := by omega
    rw [Deep.blk_setCell_other _ _ _ _ h1, Deep.blk_setCell_other _ _ _ _ h1, Deep.blk_setCell_other _ _ _ _ h1, hg.block i (by simp; omega) hne, Below.heap_alloc _ _ _ hi]
theorem Rd.new3 {w1 : World} {b g : Nat} {l : List UInt8} (h : Rd w1 b l) (hne : b ≠ g) (u v x : Value) : Rd (((w1.setCell ⟨g, 0, none⟩ u).setCell ⟨g, 1, none⟩ v).setCell ⟨g, 2, none⟩ x) b l :=
  World.rowIs.setOther (World.rowIs.setOther (World.rowIs.setOther h hne _) hne _) hne _
set_option maxHeartbeats 1000000 in
set_option maxRecDepth 100000 in
theorem plain_int {b m : Nat} {l r : List UInt8} {w : World} (h : Rd w b l) (hl : l.length ≤ 140737488355328) (hd : numD 8 l = some (m, r)) :
    Calls Tryz.prog 84 #[.pointer (some ⟨b, 0, none⟩), .int .i64 1] w fun e w' => e = .returned (Val.num (sint m)).v ∧ Rd w' b r ∧ Gr w w' b := by
  have HN := hide (fun o => numd_yes (h.alloc o) hl hd (by decide))
  have HX := hide (fun w1 hg => box3_facts (box_gr (w1 := w1) (y := Val.null) h hg))
  have hne : b ≠ w.heap.size := by have := h.ne; omega
  have HNE := hide hne
  clear h hne
  go_enter Tryz.func84, Tryz.ntmps84
  go_wp2_with (go_at_call 53; refine (unhide HN _).mono ?_; rintro e w1 ⟨rfl, hr1, hg1⟩; obtain ⟨c0, c1, c2, f0, f1, f2⟩ := unhide HX w1 hg1)
  refine bodyPost_ret (v := (Val.num (sint m)).v) ?_ rfl ⟨rfl, ?_, ?_⟩
  · simp [results, Tryz.results84, go_sem, Val.v, Val.num, sint, c0, c1, c2]
  · exact hr1.new3 (unhide HNE) _ _ _
  · exact hg1.new3 _ _ _
set_option maxHeartbeats 1000000 in
set_option maxRecDepth 100000 in
theorem plain_intno {b : Nat} {l : List UInt8} {w : World} (h : Rd w b l) (hl : l.length ≤ 140737488355328) (hd : numD 8 l = none) :
    Calls Tryz.prog 84 #[.pointer (some ⟨b, 0, none⟩), .int .i64 1] w fun e w' => e = dmg ∧ Gr w w' b := by
  have HN := hide (fun o => numd_no (h.alloc o) hl hd)
  clear h
  go_enter Tryz.func84, Tryz.ntmps84
  go_wp2_with (go_at_call 53; refine (unhide HN _).mono ?_; rintro e w1 ⟨rfl, rfl⟩)
  exact ⟨rfl, rfl, Gr.alloc _ _ _⟩
set_option maxHeartbeats 1000000 in
set_option maxRecDepth 100000 in
theorem plain_text {b m : Nat} {l r t r2 : List UInt8} {w : World} (h : Rd w b l) (hl : l.length ≤ 140737488355328) (hd : numD 2 l = some (m, r)) (hm : m ≤ 1000) (ht : takeD m r = some (t, r2)) :
    Calls Tryz.prog 84 #[.pointer (some ⟨b, 0, none⟩), .int .i64 2] w fun e w' => e = .returned (Val.str (bs t)).v ∧ Rd w' b r2 ∧ Gr w w' b := by
  have HN := hide (fun o => numd_yes (h.alloc o) hl hd (by decide))
  have HX := hide (fun w1 hg => box3_facts (box_gr (w1 := w1) (y := Val.null) h hg))
  have hrl := numD_le hd
  have HT := hide (fun W (hW : Rd W b r) => takeg_yes hW (by omega) ht)
  have hne : b ≠ w.heap.size := by have := h.ne; omega
  have HNE := hide hne
  have hmi : (m : Int) ≤ 1000 := by omega
  clear h hne ht
  go_enter Tryz.func84, Tryz.ntmps84
  go_wp2_with (first
    | (go_at_call 53; refine (unhide HN _).mono ?_; rintro e w1 ⟨rfl, hr1, hg1⟩; replace hr1 := hide hr1)
    | (go_at_call 54; refine (ensure_yes _).mono ?_; rintro e w2 ⟨rfl, rfl⟩)
    | (go_at_call 70; refine (unhide HT _ (unhide hr1)).mono ?_; rintro e w3 ⟨rfl, hr3, hg3⟩; obtain ⟨c0, c1, c2, f0, f1, f2⟩ := unhide HX _ (hg1.trans hg3)))
  refine bodyPost_ret (v := (Val.str (bs t)).v) ?_ rfl ⟨rfl, ?_, ?_⟩
  · simp [results, Tryz.results84, go_sem, Val.v, Val.str, c0, c1, c2]
  · exact hr3.new3 (unhide HNE) _ _ _
  · exact (hg1.trans hg3).new3 _ _ _
set_option maxHeartbeats 1000000 in
set_option maxRecDepth 100000 in
theorem plain_textno1 {b : Nat} {l : List UInt8} {w : World} (h : Rd w b l) (hl : l.length ≤ 140737488355328) (hd : numD 2 l = none) :
    Calls Tryz.prog 84 #[.pointer (some ⟨b, 0, none⟩), .int .i64 2] w fun e w' => e = dmg ∧ Gr w w' b := by
  have HN := hide (fun o => numd_no (h.alloc o) hl hd)
  clear h
  go_enter Tryz.func84, Tryz.ntmps84
  go_wp2_with (go_at_call 53; refine (unhide HN _).mono ?_; rintro e w1 ⟨rfl, rfl⟩)
  exact ⟨rfl, rfl, Gr.alloc _ _ _⟩
set_option maxHeartbeats 1000000 in
set_option maxRecDepth 100000 in
theorem plain_textno2 {b m : Nat} {l r : List UInt8} {w : World} (h : Rd w b l) (hl : l.length ≤ 140737488355328) (hd : numD 2 l = some (m, r)) (hm : 1000 < m) :
    Calls Tryz.prog 84 #[.pointer (some ⟨b, 0, none⟩), .int .i64 2] w fun e w' => e = dmg ∧ Gr w w' b := by
  have HN := hide (fun o => numd_yes (h.alloc o) hl hd (by decide))
  have hmi : ¬ (m : Int) ≤ 1000 := by omega
  clear h
  go_enter Tryz.func84, Tryz.ntmps84
  go_wp2_with (first
    | (go_at_call 53; refine (unhide HN _).mono ?_; rintro e w1 ⟨rfl, hr1, hg1⟩; replace hr1 := hide hr1)
    | (go_at_call 54; refine (ensureF _ (decide_eq_false (by omega)) _).mono ?_; rintro e w2 ⟨rfl, rfl⟩))
  exact ⟨rfl, rfl, (Gr.alloc _ _ _).trans hg1⟩
set_option maxHeartbeats 1000000 in
set_option maxRecDepth 100000 in
theorem plain_textno3 {b m : Nat} {l r : List UInt8} {w : World} (h : Rd w b l) (hl : l.length ≤ 140737488355328) (hd : numD 2 l = some (m, r)) (hm : m ≤ 1000) (ht : takeD m r = none) :
    Calls Tryz.prog 84 #[.pointer (some ⟨b, 0, none⟩), .int .i64 2] w fun e w' => e = dmg ∧ Gr w w' b := by
  have HN := hide (fun o => numd_yes (h.alloc o) hl hd (by decide))
  have hrl := numD_le hd
  have HT := hide (fun W (hW : Rd W b r) => takeg_no hW (by omega) ht)
  have hmi : (m : Int) ≤ 1000 := by omega
  clear h ht
  go_enter Tryz.func84, Tryz.ntmps84
  go_wp2_with (first
    | (go_at_call 53; refine (unhide HN _).mono ?_; rintro e w1 ⟨rfl, hr1, hg1⟩; replace hr1 := hide hr1)
    | (go_at_call 54; refine (ensure_yes _).mono ?_; rintro e w2 ⟨rfl, rfl⟩)
    | (go_at_call 70; refine (unhide HT _ (unhide hr1)).mono ?_; rintro e w3 ⟨rfl, rfl⟩))
  exact ⟨rfl, rfl, (Gr.alloc _ _ _).trans hg1⟩
theorem plain_yes {b : Nat} {kind : Int} {l r : List UInt8} {x : Val} {w : World} (hk : kind = 1 ∨ kind = 2) (h : Rd w b l) (hl : l.length ≤ 140737488355328) (hd : plainD kind l = some (x, r)) :
    Calls Tryz.prog 84 #[.pointer (some ⟨b, 0, none⟩), .int .i64 kind] w fun e w' => e = .returned x.v ∧ Rd w' b r ∧ Gr w w' b := by
  rcases hk with rfl | rfl
  · unfold plainD at hd
    rw [if_pos (by decide)] at hd
    cases hn : numD 8 l with
    | none => rw [hn] at hd; cases hd
    | some p =>
      rw [hn] at hd
      injection hd with hd
      injection hd with h1 h2
      subst h1; subst h2
      exact plain_int h hl hn
  · unfold plainD at hd
    rw [if_neg (by decide)] at hd
    cases hn : numD 2 l with
    | none => rw [hn] at hd; cases hd
    | some p =>
      rw [hn, Option.bind_some] at hd
      by_cases hm : p.1 ≤ 1000
      · rw [if_pos hm] at hd
        cases ht : takeD p.1 p.2 with
        | none => rw [ht] at hd; cases hd
        | some q =>
          rw [ht] at hd
          injection hd with hd
          injection hd with h1 h2
          subst h1; subst h2
          exact plain_text h hl hn hm ht
      · rw [if_neg hm] at hd; cases hd
theorem plain_no {b : Nat} {kind : Int} {l : List UInt8} {w : World} (hk : kind = 1 ∨ kind = 2) (h : Rd w b l) (hl : l.length ≤ 140737488355328) (hd : plainD kind l = none) :
    Calls Tryz.prog 84 #[.pointer (some ⟨b, 0, none⟩), .int .i64 kind] w fun e w' => e = dmg ∧ Gr w w' b := by
  rcases hk with rfl | rfl
  · unfold plainD at hd
    rw [if_pos (by decide)] at hd
    cases hn : numD 8 l with
    | none => exact plain_intno h hl hn
    | some p => rw [hn] at hd; cases hd
  · unfold plainD at hd
    rw [if_neg (by decide)] at hd
    cases hn : numD 2 l with
    | none => exact plain_textno1 h hl hn
    | some p =>
      rw [hn, Option.bind_some] at hd
      by_cases hm : p.1 ≤ 1000
      · rw [if_pos hm] at hd
        cases ht : takeD p.1 p.2 with
        | none => exact plain_textno3 h hl hn hm ht
        | some q => rw [ht] at hd; cases hd
      · exact plain_textno2 h hl hn (by omega)
theorem plainD_le {kind : Int} {l r : List UInt8} {x : Val} (hd : plainD kind l = some (x, r)) : r.length ≤ l.length := by
  unfold plainD at hd
  split at hd
  · cases hn : numD 8 l with
    | none => rw [hn] at hd; cases hd
    | some p =>
      rw [hn] at hd
      injection hd with hd
      injection hd with h1 h2
      subst h2
      exact numD_le hn
  · cases hn : numD 2 l with
    | none => rw [hn] at hd; cases hd
    | some p =>
      rw [hn, Option.bind_some] at hd
      split at hd
      · cases ht : takeD p.1 p.2 with
        | none => rw [ht] at hd; cases hd
        | some q =>
          rw [ht] at hd
          injection hd with hd
          injection hd with h1 h2
          subst h2
          exact Nat.le_trans (takeD_le ht) (numD_le hn)
      · cases hd
end Go.Proofs.YtjnggnhgambmkaaGreat

import Derived.Test.YtmagpdblacgneaaGreatPxA
import Derived.Sort.OwnSortedInts
import Derived.Lib.OwnBridge
import Derived.Test.YtmagpdblacgneaaGreatExE
import Derived.Test.YtmagpdblacgneaaGreatCellC
set_option linter.unusedSimpArgs false
set_option linter.unusedVariables false
set_option maxRecDepth 100000
namespace Go.Proofs.YtmagpdblacgneaaGreat
open Go.RowKit Go.Sort Go.Shelf

/-- slices.Sort (75) of numbers of the call's own. -/
theorem isort_any (base : Nat) (xs : List Int) (v : Value) (w : World) (hl : xs.length ≤ 1048576) (hown : OwnI w base v xs) (hb : base ≤ w.heap.size) :
    Calls Tryz.prog 35 #[v] w fun e w' => e = .returned (.tuple #[]) ∧ OwnI w' base v (xs.mergeSort fun x y => decide (x ≤ y)) ∧ Below base w w' := by
  have hml : (xs.mergeSort fun x y => decide (x ≤ y)).length = xs.length := List.length_mergeSort xs
  rcases hown.2 with ⟨rfl, h0⟩ | ⟨g, cap, cur, rfl, hge, hh, hnc, hcm, hcs, htake⟩
  · have hx : xs = [] := List.eq_nil_of_length_eq_zero h0
    subst hx
    have hcon := Any.slices_Sort_int_none Tryz.sortI none 0 w
    change Calls Tryz.prog 35 _ _ _ at hcon
    refine hcon.mono ?_
    rintro e w' ⟨rfl, rfl⟩
    exact ⟨rfl, by rw [List.mergeSort_nil]; exact hown, Below.refl _ _⟩
  · obtain ⟨g', cap', e', _, hgl, _, _, _, hH⟩ := Lib.holds_of_ownsRow hown (by simp)
    injection e' with e1 _ e3
    injection e1 with e1
    injection e1 with e1
    subst e1 e3
    have hcon := Any.slices_Sort_int Tryz.sortI g 0 cap xs w hH hgl (by omega)
    change Calls Tryz.prog 35 _ _ _ at hcon
    refine hcon.mono ?_
    rintro e w' ⟨rfl, n, os, rfl⟩
    refine ⟨rfl, ?_, (Below.refl base w).grown (grownBy_sortedI _) hb fun j hj => by cases hj; exact hge⟩
    unfold OwnI
    rw [hml]
    exact ownsRow_sortedI hml hge hh hnc hcm hcs
/-- slices.Compact (76), likewise. -/
theorem icompact_any (base : Nat) (xs : List Int) (v : Value) (w : World) (hl : xs.length ≤ 1048576) (hown : OwnI w base v xs) (hb : base ≤ w.heap.size) :
    Calls Tryz.prog 36 #[v] w fun e w' => ∃ v', e = .returned v' ∧ OwnI w' base v' (Lib.compact xs) ∧ Below base w w' := by
  rcases hown.2 with ⟨rfl, h0⟩ | ⟨g, cap, cur, rfl, hge, hh, hnc, hcm, hcs, htake⟩
  · have hx : xs = [] := List.eq_nil_of_length_eq_zero h0
    subst hx
    have hcon := Any.slices_Compact_int_empty Tryz.compI none 0 w
    change Calls Tryz.prog 36 _ _ _ at hcon
    refine hcon.mono ?_
    rintro e w' ⟨rfl, rfl⟩
    exact ⟨_, rfl, hown, Below.refl _ _⟩
  · obtain ⟨g', cap', e', _, hgl, _, _, _, hH⟩ := Lib.holds_of_ownsRow hown (by simp)
    injection e' with e1 _ e3
    injection e1 with e1
    injection e1 with e1
    subst e1 e3
    have hcon := Any.slices_Compact_int Tryz.compI g 0 cap xs w hH (by omega) hnc
    change Calls Tryz.prog 36 _ _ _ at hcon
    refine hcon.mono ?_
    rintro e w' ⟨rfl, q, rfl⟩
    have hle := Lib.compact_length_le xs
    refine ⟨_, rfl, ?_, Lib.below_putRow (Below.refl _ _) hge⟩
    have hc := Lib.ownsRow_putRow (q := q) (k := (Lib.compact xs).length) (ys := Lib.compact xs ++ List.replicate (xs.length - (Lib.compact xs).length) 0) hown (by simp; omega) (by omega)
    rw [List.take_left] at hc
    exact hc
set_option maxHeartbeats 1000000 in
/-- Columns (33). -/
theorem cols_any (e : Ex) (hf : e.fin) (a : Option Addr) (c : Nat) (w : World) (ha : Ex.all w a e.args) :
    Calls Tryz.prog 12 #[e.val a c] w fun r w' => ∃ v, r = .returned v ∧ OwnI w' w.heap.size v (if builtE e then uniqI (colsE e) else []) ∧ Below w.heap.size w w' := by
  have HB := hide (fun (W : World) (hW : Below w.heap.size w W) => built_any e hf a c W (Ex.all_later _ ha hW))
  have HC := hide (fun (hb : builtE e = true) (W : World) (hW : Below w.heap.size w W) => columns_all e.size e (Nat.le_refl _) (built_good hb) hf (built_bounds hb).1 a c W (Ex.all_later _ ha hW))
  have HB0 := hide (below_alloc (Below.refl _ w) (.cells #[.int .i64 e.op, .int .i64 e.n, .int .i64 e.v.k, .int .i64 e.v.n, .string e.v.s, .slice a e.args.length c] 26))
  have H6 := hide (Six.new w e a c)
  have hsz : builtE e = true → (colsE e).length ≤ 400 := fun hb => by have h1 := cols_size e; have h2 := (built_bounds hb).1; omega
  rw [Ex.val_open] at HB HC ⊢
  clear ha
  unfold uniqI
  cases hb : builtE e with
  | false =>
    rw [hb] at HB
    clear hb HC hsz
    go_enter Tryz.func12, Tryz.ntmps12
    go_wp2_with (go_at_call 21; refine (unhide HB _ (unhide HB0)).mono ?_; rintro r w1 ⟨rfl, hb1⟩)
    go_ret
    exact ⟨_, rfl, own_nil _ _, below_step (unhide HB0) hb1⟩
  | true =>
    rw [hb] at HB
    have HC := hide (unhide HC hb)
    have HZ := hide (hsz hb)
    clear hb hsz
    generalize colsE e = S at *
    go_enter Tryz.func12, Tryz.ntmps12
    go_wp2_with (first
      | (go_at_call 36; refine (unhide HX4).mono ?_; rintro r w4 ⟨v4, rfl, hO4, hb4⟩)
      | (go_at_call 35; refine (unhide HX3).mono ?_; rintro r w3 ⟨rfl, hO3, hb3⟩; have HX4 := hide (icompact_any w.heap.size _ v2 w3 (by rw [List.length_mergeSort]; have := unhide HZ; omega) hO3 (hB2.trans hb3).size); have hB3 := hB2.trans hb3)
      | (go_at_call 34; refine (unhide HC w1 hB1).mono ?_; rintro r w2 ⟨v2, rfl, hO2, hb2⟩; have hB2 := below_step hB1 hb2; have HX3 := hide (isort_any w.heap.size _ v2 w2 (by have := unhide HZ; omega) (hO2.base_le hB1.size) hB2.size))
      | (go_at_call 21; refine (unhide HB _ (unhide HB0)).mono ?_; rintro r w1 ⟨rfl, hb1⟩; obtain ⟨b0, b1, b2, b3, b4, b5⟩ := (unhide H6).later hb1; have hB1 := below_step (unhide HB0) hb1))
    go_ret
    exact ⟨_, rfl, hO4, hB3.trans hb4⟩
end Go.Proofs.YtmagpdblacgneaaGreat
set_option linter.unusedSimpArgs false
set_option linter.unusedVariables false
namespace Go.Proofs.YtmagpdblacgneaaGreat
open Go.RowKit Go.Sort

mutual
/-- Certainly null where these columns are. -/
def anE (cols : List Int) : Ex → Bool
  | .mk op n v l => if op == 1 then cols.any (fun x => n == x) else if op == 2 then (cleanV v).k == 0 else if op == 5 || op == 19 || op == 20 || op == 21 then false else anL cols l
def anL (cols : List Int) : List Ex → Bool
  | [] => false
  | e :: l => anE cols e || anL cols l
end
theorem anL_any (cols : List Int) : ∀ l : List Ex, anL cols l = l.any (anE cols)
  | [] => by rw [anL]; rfl
  | e :: l => by rw [anL, anL_any cols l]; rfl
theorem anE_eq (cols : List Int) (e : Ex) : anE cols e = if e.op == 1 then cols.any (fun x => e.n == x) else if e.op == 2 then (cleanV e.v).k == 0 else if e.op == 5 || e.op == 19 || e.op == 20 || e.op == 21 then false else e.args.any (anE cols) := by
  cases e with
  | mk op n v l => rw [anE, anL_any]; rfl
theorem any_noK {α : Type} {p : α → Bool} {l : List α} {k : Nat} (hk : k = l.length) (h : ∀ i x, i < k → l[i]? = some x → p x = false) : l.any p = false := by
  rw [List.any_eq_false]
  intro y hy
  obtain ⟨i, hi⟩ := List.mem_iff_getElem?.1 hy
  rw [h i y (by rw [hk]; exact (List.getElem?_eq_some_iff.1 hi).1) hi]; simp
theorem any_yes {α : Type} {p : α → Bool} {l : List α} {k : Nat} {x : α} (hx : l[k]? = some x) (hp : p x = true) : l.any p = true := List.any_eq_true.2 ⟨x, List.mem_of_getElem? hx, hp⟩
end Go.Proofs.YtmagpdblacgneaaGreat
set_option linter.unusedSimpArgs false
set_option linter.unusedVariables false
namespace Go.Proofs.YtmagpdblacgneaaGreat
open Go.RowKit Go.Sort

def endB (op : Int) (x : Val) : Bool := x.k == 1 && ((x.n != 0) == (op == 20))
theorem end_and (x : Val) : endB 19 x = falseB x := by unfold endB falseB; cases h : (x.n == 0) <;> simp [bne, h]
theorem end_or (x : Val) : endB 20 x = trueB x := by unfold endB trueB; simp
theorem bothV_and (a b : Val) : bothV 19 a b = if endB 19 a || endB 19 b then truthV false else if a.k == 1 && b.k == 1 then truthV true else .null := by rw [end_and, end_and]; rfl
theorem bothV_or (a b : Val) : bothV 20 a b = if endB 20 a || endB 20 b then truthV true else if a.k == 1 && b.k == 1 then truthV false else .null := by rw [end_or, end_or]; rfl

def boxesO (w : World) (op : Int) (a b : Val) : World := boxes3 (w.alloc (.cells #[.int .i64 op] 3)) a b
theorem boxesO_facts {w w' : World} {op : Int} {a b : Val} (h : Below (boxesO w op a b).heap.size (boxesO w op a b) w') :
    w'.cell? ⟨w.heap.size, 0, none⟩ = some (.int .i64 op) ∧ BoxAt w' (w.heap.size + 1) a ∧ BoxAt w' (w.heap.size + 1 + 1) b ∧ ZeroAt w' (w.heap.size + 1 + 1 + 1) ∧ w.heap.size + 1 + 1 + 1 < w'.heap.size := by
  have f := boxes3_facts (w := w.alloc (.cells #[.int .i64 op] 3)) h
  simp only [World.size_alloc] at f
  refine ⟨?_, f.1, f.2.1, f.2.2.2.2.1, f.2.2.2.2.2⟩
  rw [(bcell h).1 _ _ (by unfold boxesO; rw [boxes3_size]; simp; omega)]
  simp [boxesO, boxes3, boxes, go_sem]
theorem boxesO_below {w w' : World} {op : Int} {a b : Val} (h : Below (boxesO w op a b).heap.size (boxesO w op a b) w') : Below w.heap.size w w' :=
  ((Below.refl _ _).alloc (Nat.le_refl _) _).trans ((boxes3_below (w := w.alloc (.cells #[.int .i64 op] 3)) h).mono (by simp))

theorem both_anyL (op : Int) (a b : Val) (w : World) :
    Calls Tryz.prog 92 #[.int .i64 op, a.v, b.v] w fun e w' => e = .returned (bothV op a b).v ∧ Below w.heap.size w w' := by
  by_cases h1 : op = 19
  · subst h1; exact both_and a b w
  · by_cases h2 : op = 20
    · subst h2; exact both_or a b w
    · exact both_other op a b w (by simpa using h1) (by simpa using h2)
theorem clean_k (x : Val) : ((cleanV x).k == 1) = (x.k == 1) := by
  unfold cleanV
  rcases Bool.eq_false_or_eq_true (x.k == 1) with h1 | h1 <;> rcases Bool.eq_false_or_eq_true (x.k == 2) with h2 | h2 <;> simp [h1, h2, Val.num, Val.str, Val.null]
theorem clean_one (x : Val) (h : (x.k == 1) = true) : cleanV x = .num x.n := by unfold cleanV; simp [h]
theorem true_cleanL (x : Val) : trueB (cleanV x) = trueB x := by
  rcases Bool.eq_false_or_eq_true (x.k == 1) with h | h
  · rw [clean_one x h]; simp [trueB, Val.num, h]
  · simp [trueB, clean_k, h]
theorem false_clean (x : Val) : falseB (cleanV x) = falseB x := by
  rcases Bool.eq_false_or_eq_true (x.k == 1) with h | h
  · rw [clean_one x h]; simp [falseB, Val.num, h]
  · simp [falseB, clean_k, h]
theorem not_clean (x : Val) : notV (cleanV x) = notV x := by
  have h := clean_k x
  rcases Bool.eq_false_or_eq_true (x.k == 1) with h1 | h1
  · rw [h1] at h; simp at h h1; simp [notV, h, h1, true_cleanL]
  · rw [h1] at h; simp at h h1; simp [notV, h, h1]
theorem both_clean (op : Int) (a b : Val) : bothV op (cleanV a) (cleanV b) = bothV op a b := by
  unfold bothV
  rw [true_cleanL, true_cleanL, false_clean, false_clean, clean_k, clean_k]

end Go.Proofs.YtmagpdblacgneaaGreat
set_option linter.unusedSimpArgs false
set_option linter.unusedVariables false
namespace Go.Proofs.YtmagpdblacgneaaGreat
open Go.RowKit Go.Sort

mutual
/-- Certainly not true where these columns are null. -/
def ntE (cols : List Int) : Ex → Bool
  | .mk op n v l => if op == 2 then !trueB v else if op == 19 then ntO cols l else if op == 20 then ntA cols l else anE cols (.mk op n v l)
def ntO (cols : List Int) : List Ex → Bool
  | [] => false
  | x :: l => ntE cols x || ntH cols l
def ntA (cols : List Int) : List Ex → Bool
  | [] => false
  | x :: l => ntE cols x && ntH cols l
def ntH (cols : List Int) : List Ex → Bool
  | [] => false
  | y :: _ => ntE cols y
end
theorem ntE_eq (cols : List Int) (e : Ex) : ntE cols e = if e.op == 2 then !trueB e.v else if e.op == 19 then ntO cols e.args else if e.op == 20 then ntA cols e.args else anE cols e := by
  cases e with
  | mk op n v l => rw [ntE]; rfl
theorem nt_two (cols : List Int) (x y : Ex) : ntO cols [x, y] = (ntE cols x || ntE cols y) ∧ ntA cols [x, y] = (ntE cols x && ntE cols y) := by
  rw [ntO, ntA, ntH]; exact ⟨rfl, rfl⟩
theorem nt_of_an {cols : List Int} {e : Ex} (h : anE cols e = true) : ntE cols e = true := by
  rw [ntE_eq]
  rw [anE_eq] at h
  by_cases h2 : e.op = 2
  · rw [h2] at h ⊢
    simp at h ⊢
    rw [← true_cleanL]
    simp [trueB, h]
  by_cases h19 : e.op = 19
  · rw [h19] at h; simp at h
  by_cases h20 : e.op = 20
  · rw [h20] at h; simp at h
  · rw [← anE_eq] at h
    simp [h2, h19, h20, h]
end Go.Proofs.YtmagpdblacgneaaGreat
set_option linter.unusedSimpArgs false
set_option linter.unusedVariables false
set_option maxRecDepth 100000
namespace Go.Proofs.YtmagpdblacgneaaGreat
open Go.RowKit Go.Sort
set_option maxHeartbeats 400000 in
set_option maxRecDepth 100000 in
theorem index_any (a : Option Addr) (c : Nat) (l : List Int) (n : Int) (w : World) (hl : l.length ≤ 140737488355328) (ha : IntsAt w a l) :
    Calls Tryz.prog 93 #[.slice a l.length c, .int .i64 n] w fun e w' => (∃ r, e = .returned (.int .i64 r) ∧ decide (0 ≤ r) = l.any (fun x => n == x)) ∧ w' = w := by
  have HA := hide ha
  clear ha
  go_enter Tryz.func93, Tryz.ntmps93
  go_wp2_with fail
  go_loop [8] (fun i => ∃ k : Nat, k ≤ l.length ∧ i = .int .i64 (k : Int) ∧ Hid (∀ i x, i < k → l[i]? = some x → (n == x) = false)) (fun i => l.length - (intOf i).toNat)
  case atStart => exact ⟨0, Nat.zero_le _, rfl, fun i x hi => absurd hi (by omega)⟩
  case round =>
    obtain ⟨k, hk, rfl, HN⟩ := hrel
    by_cases hlt : k < l.length
    · have h9 : (k : Int) < (l.length : Int) := by omega
      obtain ⟨x, hx⟩ : ∃ x, l[k]? = some x := ⟨_, List.getElem?_eq_getElem hlt⟩
      obtain ⟨b, off, rfl, c0⟩ := (unhide HA).get hx
      rcases Bool.eq_false_or_eq_true (n == x) with he | he
      · have HE := hide (any_at (p := fun x => n == x) hx he)
        clear hx HN
        go_wp2
        go_ret
        exact ⟨⟨_, rfl, by rw [unhide HE]; simp⟩, rfl⟩
      · have HE := hide (no_step (p := fun x => n == x) (unhide HN) hx he)
        clear hx HN
        go_wp2
        exact ⟨⟨k + 1, by omega, by go_num, unhide HE⟩, by simp [intOf]; omega⟩
    · have h9 : ¬ (k : Int) < (l.length : Int) := by omega
      have HE := hide (any_no (p := fun x => n == x) fun i x hi hx => unhide HN i x (by omega) hx)
      clear HN
      go_wp2
      go_ret
      exact ⟨⟨_, rfl, by rw [unhide HE]; rfl⟩, rfl⟩
theorem contains_any (a : Option Addr) (c : Nat) (l : List Int) (n : Int) (w : World) (hl : l.length ≤ 140737488355328) (ha : IntsAt w a l) :
    Calls Tryz.prog 64 #[.slice a l.length c, .int .i64 n] w fun e w' => e = .returned (.bool (l.any (fun x => n == x))) ∧ w' = w := by
  have HI := hide (index_any a c l n w hl ha)
  clear ha
  generalize l.any (fun x => n == x) = r at *
  go_enter Tryz.func64, Tryz.ntmps64
  go_wp2_with (go_at_call 93; refine (unhide HI).mono ?_; rintro e w1 ⟨⟨q, rfl, hq⟩, rfl⟩)
  go_ret
  exact ⟨rfl, rfl⟩
set_option maxHeartbeats 400000 in
set_option maxRecDepth 100000 in
theorem indexE_anyS (p : Ex → Bool) (B : Nat) (a : Option Addr) (c : Nat) (l : List Ex) (w : World) (hl : l.length ≤ 140737488355328) (ha : Ex.all w a l)
    (HP : ∀ (i : Nat) (x : Ex), l[i]? = some x → ∀ (a' : Option Addr) (c' : Nat) (W : World), Below w.heap.size w W → Ex.all W a' x.args → Calls Tryz.prog 65 #[x.val a' c', .pointer (some ⟨B, 0, none⟩)] W fun r w' => r = .returned (.bool (p x)) ∧ Below W.heap.size W w') :
    Calls Tryz.prog 46 #[.slice a l.length c, .func (.func 65) #[] #[.pointer (some ⟨B, 0, none⟩)]] w fun e w' => ∃ r, e = .returned (.int .i64 r) ∧ decide (0 ≤ r) = l.any p ∧ Below w.heap.size w w' := by
  have HA := hide ha
  have HC := hide HP
  clear ha HP
  go_enter Tryz.func46, Tryz.ntmps46
  go_wp2_with fail
  go_loopw [8] (fun i wr => ∃ k : Nat, k ≤ l.length ∧ i = .int .i64 (k : Int) ∧ Hid (∀ i x, i < k → l[i]? = some x → p x = false) ∧ Below w.heap.size w wr) (fun i _ => l.length - (intOf i).toNat)
  case atStart => exact ⟨0, Nat.zero_le _, rfl, fun i x hi => absurd hi (by omega), Below.refl _ _⟩
  case round =>
    obtain ⟨k, hk, rfl, HN, hb⟩ := hrel
    by_cases hlt : k < l.length
    · have h9 : (k : Int) < (l.length : Int) := by omega
      obtain ⟨x, hx⟩ : ∃ x, l[k]? = some x := ⟨_, List.getElem?_eq_getElem hlt⟩
      obtain ⟨vb, vo, ea, hat⟩ := Ex.all_get (Ex.all_later _ (unhide HA) hb) hx
      obtain ⟨a', c', ⟨d0, d1, d2, d3, d4, d5⟩, hal⟩ := Ex.at_open hat
      have HX := hide (unhide HC k x hx a' c' wr hb hal)
      rw [Ex.val_open] at HX
      have HB := hide hb
      subst ea
      clear hat hal hb
      cases hp : p x
      · have HE := hide (no_step (unhide HN) hx hp)
        rw [hp] at HX
        clear hx HN hp
        go_wp2_with (go_at_call 65; refine (unhide HX).mono ?_; rintro r w1 ⟨rfl, hb1⟩)
        exact ⟨⟨k + 1, by omega, by go_num, unhide HE, below_step (unhide HB) hb1⟩, by simp [intOf]; omega⟩
      · have HE := hide (any_at hx hp)
        rw [hp] at HX
        clear hx HN hp
        go_wp2_with (go_at_call 65; refine (unhide HX).mono ?_; rintro r w1 ⟨rfl, hb1⟩)
        go_ret
        exact ⟨_, rfl, by rw [unhide HE]; simp, below_step (unhide HB) hb1⟩
    · have h9 : ¬ (k : Int) < (l.length : Int) := by omega
      have HE := hide (any_no (p := p) fun i x hi hx => unhide HN i x (by omega) hx)
      have HB := hide hb
      clear HN hb
      go_wp2
      go_ret
      exact ⟨_, rfl, by rw [unhide HE]; rfl, unhide HB⟩
theorem containsE_anyS (p : Ex → Bool) (B : Nat) (a : Option Addr) (c : Nat) (l : List Ex) (w : World) (hl : l.length ≤ 140737488355328) (ha : Ex.all w a l)
    (HP : ∀ (i : Nat) (x : Ex), l[i]? = some x → ∀ (a' : Option Addr) (c' : Nat) (W : World), Below w.heap.size w W → Ex.all W a' x.args → Calls Tryz.prog 65 #[x.val a' c', .pointer (some ⟨B, 0, none⟩)] W fun r w' => r = .returned (.bool (p x)) ∧ Below W.heap.size W w') :
    Calls Tryz.prog 26 #[.slice a l.length c, .func (.func 65) #[] #[.pointer (some ⟨B, 0, none⟩)]] w fun e w' => e = .returned (.bool (l.any p)) ∧ Below w.heap.size w w' := by
  have HI := hide (indexE_anyS p B a c l w hl ha HP)
  clear ha HP
  generalize l.any p = r at *
  go_enter Tryz.func26, Tryz.ntmps26
  go_wp2_with (go_at_call 46; refine (unhide HI).mono ?_; rintro e w1 ⟨q, rfl, hq, hb⟩)
  go_ret
  exact ⟨rfl, hb⟩
set_option maxHeartbeats 400000 in
set_option maxRecDepth 100000 in
theorem an56 {cols : List Int} {x : Ex} {aC : Option Addr} {cC B : Nat} {a : Option Addr} {c : Nat} {w : World} (hB : Box1 w B (.slice aC cols.length cC)) (hC : IntsAt w aC cols) (ha : Ex.all w a x.args)
    (H : ∀ (W : World), IntsAt W aC cols → Ex.all W a x.args → Calls Tryz.prog 52 #[x.val a c, .slice aC cols.length cC] W fun r w' => r = .returned (.bool (anE cols x)) ∧ Below W.heap.size W w') :
    Calls Tryz.prog 65 #[x.val a c, .pointer (some ⟨B, 0, none⟩)] w fun r w' => r = .returned (.bool (anE cols x)) ∧ Below w.heap.size w w' := by
  have HC := hide (H (w.alloc (.cells #[.int .i64 x.op, .int .i64 x.n, .int .i64 x.v.k, .int .i64 x.v.n, .string x.v.s, .slice a x.args.length c] 26)) (hC.later (below_alloc (Below.refl _ _) _)) (Ex.all_later _ ha (below_alloc (Below.refl _ _) _)))
  have c0 := clater hB (below_alloc (Below.refl _ w) (.cells #[.int .i64 x.op, .int .i64 x.n, .int .i64 x.v.k, .int .i64 x.v.n, .string x.v.s, .slice a x.args.length c] 26))
  generalize anE cols x = r at *
  rw [Ex.val_open] at HC ⊢
  clear H hB hC ha
  go_enter Tryz.func65, Tryz.ntmps65
  go_wp2_with (go_at_call 52; refine (unhide HC).mono ?_; rintro e w1 ⟨rfl, hb1⟩)
  go_ret
  exact ⟨rfl, below_one hb1⟩
set_option maxHeartbeats 1000000 in
set_option maxRecDepth 100000 in
theorem always_step (cols : List Int) (e : Ex) (hf : e.fin) (aC : Option Addr) (cC : Nat) (a : Option Addr) (c : Nat) (w : World) (hl : cols.length ≤ 140737488355328) (hC : IntsAt w aC cols) (ha : Ex.all w a e.args)
    (IH : ∀ (i : Nat) (x : Ex), e.args[i]? = some x → ∀ (a' : Option Addr) (c' : Nat) (W : World), IntsAt W aC cols → Ex.all W a' x.args → Calls Tryz.prog 52 #[x.val a' c', .slice aC cols.length cC] W fun r w' => r = .returned (.bool (anE cols x)) ∧ Below W.heap.size W w') :
    Calls Tryz.prog 52 #[e.val a c, .slice aC cols.length cC] w fun r w' => r = .returned (.bool (anE cols e)) ∧ Below w.heap.size w w' := by
  obtain ⟨⟨hel, hv, _, _⟩, _⟩ := Ex.fin_open hf
  have hBa := below_alloc (below_alloc (Below.refl _ w) (.cells #[.int .i64 e.op, .int .i64 e.n, .int .i64 e.v.k, .int .i64 e.v.n, .string e.v.s, .slice a e.args.length c] 26)) (.cells #[.slice aC cols.length cC] 27)
  have h6 := Six.later (Six.new w e a c) (below_alloc (Below.refl _ (w.alloc (.cells #[.int .i64 e.op, .int .i64 e.n, .int .i64 e.v.k, .int .i64 e.v.n, .string e.v.s, .slice a e.args.length c] 26))) (.cells #[.slice aC cols.length cC] 27))
  have hB1 : Box1 ((w.alloc (.cells #[.int .i64 e.op, .int .i64 e.n, .int .i64 e.v.k, .int .i64 e.v.n, .string e.v.s, .slice a e.args.length c] 26)).alloc (.cells #[.slice aC cols.length cC] 27)) (w.heap.size + 1) (.slice aC cols.length cC) := by unfold Box1; simp [go_sem]
  have HCON := hide (contains_any aC cC cols e.n ((w.alloc (.cells #[.int .i64 e.op, .int .i64 e.n, .int .i64 e.v.k, .int .i64 e.v.n, .string e.v.s, .slice a e.args.length c] 26)).alloc (.cells #[.slice aC cols.length cC] 27)) hl (hC.later hBa))
  have HCE := hide (containsE_anyS (anE cols) (w.heap.size + 1) a c e.args ((w.alloc (.cells #[.int .i64 e.op, .int .i64 e.n, .int .i64 e.v.k, .int .i64 e.v.n, .string e.v.s, .slice a e.args.length c] 26)).alloc (.cells #[.slice aC cols.length cC] 27)) hel (Ex.all_later _ ha hBa)
    fun i x hx a' c' W hW hal => an56 (hB1.later hW) ((hC.later hBa).later hW) hal fun W' h1 h2 => IH i x hx a' c' W' h1 h2)
  have HCL := hide (clean_any e.v)
  obtain ⟨R, hR⟩ : ∃ R, R = anE cols e := ⟨_, rfl⟩
  have HR : Hid (R = if e.op == 1 then cols.any (fun x => e.n == x) else if e.op == 2 then (cleanV e.v).k == 0 else if e.op == 5 || e.op == 19 || e.op == 20 || e.op == 21 then false else e.args.any (anE cols)) := by rw [hR]; exact anE_eq cols e
  rw [← hR]
  generalize e.args.any (anE cols) = rE at *
  generalize cols.any (fun x => e.n == x) = rC at *
  generalize cleanV e.v = cv at *
  obtain ⟨c0, c1, c2, c3, c4, c5⟩ := h6
  have hf0 := field0
  have HB := hide hBa
  rw [Ex.val_open]
  rw [Val.open_] at HCL
  clear hR hBa ha hC IH hB1
  rcases Bool.eq_false_or_eq_true (e.op == 1) with h1 | h1
  · rw [h1] at HR
    go_enter Tryz.func52, Tryz.ntmps52
    go_wp2_with (go_at_call 64; refine (unhide HCON).mono ?_; rintro r w1 ⟨rfl, rfl⟩)
    go_ret
    exact ⟨by rw [unhide HR]; simp, unhide HB⟩
  rw [h1] at HR
  rcases Bool.eq_false_or_eq_true (e.op == 2) with h2 | h2
  · rw [h2] at HR
    go_enter Tryz.func52, Tryz.ntmps52
    go_wp2_with (go_at_call 57; refine (unhide HCL _).mono ?_; rintro r w1 ⟨rfl, hb1⟩; rw [Val.open_])
    go_ret
    exact ⟨by rw [unhide HR]; simp, below_step (unhide HB) hb1⟩
  rw [h2] at HR
  rcases Bool.eq_false_or_eq_true (e.op == 5) with h5 | h5
  · rw [h5] at HR
    go_enter Tryz.func52, Tryz.ntmps52
    go_wp2
    go_ret
    exact ⟨by rw [unhide HR]; simp, unhide HB⟩
  rcases Bool.eq_false_or_eq_true (e.op == 19) with h19 | h19
  · rw [h5, h19] at HR
    go_enter Tryz.func52, Tryz.ntmps52
    go_wp2
    go_ret
    exact ⟨by rw [unhide HR]; simp, unhide HB⟩
  rcases Bool.eq_false_or_eq_true (e.op == 20) with h20 | h20
  · rw [h5, h19, h20] at HR
    go_enter Tryz.func52, Tryz.ntmps52
    go_wp2
    go_ret
    exact ⟨by rw [unhide HR]; simp, unhide HB⟩
  rcases Bool.eq_false_or_eq_true (e.op == 21) with h21 | h21
  · rw [h5, h19, h20, h21] at HR
    go_enter Tryz.func52, Tryz.ntmps52
    go_wp2
    go_ret
    exact ⟨by rw [unhide HR]; simp, unhide HB⟩
  rw [h5, h19, h20, h21] at HR
  have hmf : ∀ (fn : Fn) (first cap : Array Value) (w : World), (Instr.makeFunc fn first cap).run Tryz.prog w = .ok (.func fn first cap) w := fun _ _ _ _ => rfl
  go_enter Tryz.func52, Tryz.ntmps52
  go_wp2_with (go_at_call 26; refine (unhide HCE).mono ?_; rintro r w1 ⟨rfl, hb1⟩)
  go_ret
  exact ⟨by rw [unhide HR]; simp, below_step (unhide HB) hb1⟩
theorem always_all (cols : List Int) (aC : Option Addr) (cC : Nat) (hl : cols.length ≤ 140737488355328) : ∀ (k : Nat) (e : Ex), e.size ≤ k → e.fin → ∀ (a : Option Addr) (c : Nat) (w : World), IntsAt w aC cols → Ex.all w a e.args →
    Calls Tryz.prog 52 #[e.val a c, .slice aC cols.length cC] w fun r w' => r = .returned (.bool (anE cols e)) ∧ Below w.heap.size w w'
  | 0, e, hs, _, _, _, _, _, _ => by rw [Ex.size_mk] at hs; omega
  | k + 1, e, hs, hf, a, c, w, hC, ha => always_step cols e hf aC cC a c w hl hC ha fun i x hx a' c' W h1 h2 => always_all cols aC cC hl k x (by have := Ex.size_arg hx; omega) (Ex.fin_arg hf hx) a' c' W h1 h2
end Go.Proofs.YtmagpdblacgneaaGreat

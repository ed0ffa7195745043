import Derived.Test.YtjnggnhgambmkaaGreatRdQ
set_option linter.unusedSimpArgs false
set_option linter.unusedVariables false
namespace Go.Proofs.YtjnggnhgambmkaaGreat
open Go.RowKit Go.Sort

def truthV (b : Bool) : Val := .num (if b then 1 else 0)
def ZeroAt (w : World) (b : Nat) : Prop := w.cell? ⟨b, 0, none⟩ = some (.int .i64 0) ∧ w.cell? ⟨b, 1, none⟩ = some (.int .i64 0) ∧ w.cell? ⟨b, 2, none⟩ = some (.string ⟨#[]⟩) ∧ w.frozen? ⟨b, 0, none⟩ = false ∧ w.frozen? ⟨b, 1, none⟩ = false ∧ w.frozen? ⟨b, 2, none⟩ = false
theorem ZeroAt.later {w w1 : World} {b : Nat} (h : ZeroAt w b) (hb : Below w.heap.size w w1) : ZeroAt w1 b := by
  obtain ⟨h0, h1, h2, f0, f1, f2⟩ := h
  obtain ⟨hc, hf⟩ := bcell hb
  have hl : b < w.heap.size := World.block_lt_of_cell? w _ h0
  unfold ZeroAt
  rw [hc _ _ hl, hc _ _ hl, hc _ _ hl, hf _ _ hl, hf _ _ hl, hf _ _ hl]
  exact ⟨h0, h1, h2, f0, f1, f2⟩
abbrev Zero23 : Obj := .cells #[.int .i64 0, .int .i64 0, .string ⟨#[]⟩] 38
def boxes3 (w : World) (a b : Val) : World := (boxes w a b).alloc Zero23
theorem boxes3_size (w : World) (a b : Val) : (boxes3 w a b).heap.size = w.heap.size + 1 + 1 + 1 := by simp [boxes3, boxes_size]
theorem boxes3_drew (w : World) (a b : Val) : Below (boxes3 w a b).heap.size (boxes3 w a b) (boxes3 w a b).drew := (Below.refl _ _).drew
theorem boxes3_facts {w w' : World} {a b : Val} (h : Below (boxes3 w a b).heap.size (boxes3 w a b) w') :
    BoxAt w' w.heap.size a ∧ BoxAt w' (w.heap.size + 1) b ∧ FreeAt w' w.heap.size ∧ FreeAt w' (w.heap.size + 1) ∧ ZeroAt w' (w.heap.size + 1 + 1) ∧ w.heap.size + 1 + 1 < w'.heap.size := by
  have hs := h.size
  rw [boxes3_size] at hs
  obtain ⟨hc, hf⟩ := bcell h
  refine ⟨⟨?_, ?_, ?_⟩, ⟨?_, ?_, ?_⟩, ⟨?_, ?_, ?_⟩, ⟨?_, ?_, ?_⟩, ⟨?_, ?_, ?_, ?_, ?_, ?_⟩, by omega⟩
  all_goals first | (rw [hc _ _ (by rw [boxes3_size]; omega)]; simp [boxes3, boxes, go_sem]; done) | (rw [hf _ _ (by rw [boxes3_size]; omega)]; simp [boxes3, boxes, go_sem]; done)
theorem boxes3_below {w w' : World} {a b : Val} (h : Below (boxes3 w a b).heap.size (boxes3 w a b) w') : Below w.heap.size w w' :=
  ((((Below.refl _ _).alloc (Nat.le_refl _) _).alloc (by simp) _).alloc (by simp; omega) _).trans (h.mono (by rw [boxes3_size]; omega))
def tnullB (x : Val) : Bool := (cleanV x).k == 0
theorem tnullB_eq (x : Val) : tnullB x = (x.k != 1 && x.k != 2) := by
  unfold tnullB cleanV
  rcases Bool.eq_false_or_eq_true (x.k == 1) with h1 | h1 <;> rcases Bool.eq_false_or_eq_true (x.k == 2) with h2 | h2 <;> simp [h1, h2, bne, Val.num, Val.str, Val.null]

def testB (op o : Int) : Option Bool :=
  if op == 12 then some (o == 0) else if op == 13 then some (o != 0) else if op == 14 then some (decide (o < 0)) else if op == 15 then some (decide (o ≤ 0)) else if op == 16 then some (decide (0 < o)) else if op == 17 then some (decide (0 ≤ o)) else none
def testR (op o : Int) : Val := match testB op o with | some t => truthV t | none => .null
def testV (op : Int) (a b : Val) : Val := if tnullB a || tnullB b then .null else testR op (ordV a b)

theorem testR_some {op o : Int} {t : Bool} (h : testB op o = some t) : testR op o = truthV t := by simp [testR, h]
theorem testR_none {op o : Int} (h : testB op o = none) : testR op o = .null := by simp [testR, h]

end Go.Proofs.YtjnggnhgambmkaaGreat
set_option linter.unusedSimpArgs false
set_option linter.unusedVariables false
namespace Go.Proofs.YtjnggnhgambmkaaGreat
open Go.RowKit Go.Sort

/-- A text that is a packed column: what opened answers, wherever. -/
def Opens (s : ByteArray) (sch : Nat) (kind : Int) (xs : List Val) : Prop := ∀ W, Calls Tryz.prog 37 #[.string s] W fun e w' => ∃ a c, e = .returned (.tuple #[.agg #[.int .i64 (sch : Int), .int .i64 kind, .slice a xs.length c], .int .i64 0]) ∧ RowAt w' a xs ∧ Below W.heap.size W w'
theorem opens_of {s : ByteArray} {sch : Nat} {kind : Int} {xs : List Val} (hl : s.size ≤ 140737488355328) (h : columnD s.data.toList = some (sch, kind, xs)) : Opens s sch kind xs := by
  intro W
  have := opened_yes (w := W) (l := s.data.toList) (by rw [Array.length_toList]; exact hl) h
  rw [bs_back] at this
  refine this.mono ?_
  rintro e w' ⟨v, rfl, ho, hb⟩
  obtain ⟨a, c, rfl, _, _, hr⟩ := ownV_slice ho
  exact ⟨a, c, rfl, hr, hb⟩
set_option maxHeartbeats 400000 in
set_option maxRecDepth 100000 in
theorem pread_any {s : ByteArray} {sch : Nat} {kind : Int} {xs : List Val} (h : Opens s sch kind xs) (hl : xs.length ≤ 4096) {X : Vc} (hf : fromV kind xs = (X, 0)) (w : World) : Calls Tryz.prog 20 #[.string s] w fun e w' => ∃ p, e = .returned (.tuple #[vecV X p, .int .i64 0]) ∧ VecAt w' X p ∧ Own3 w' w.heap.size X p ∧ Below w.heap.size w w' := by
  have H := hide h
  have HF : Hid (∀ W a c, RowAt W a xs → Calls Tryz.prog 5 #[.int .i64 kind, .slice a xs.length c] W fun e w' => ∃ p, e = .returned (.tuple #[vecV X p, .int .i64 0]) ∧ VecAt w' X p ∧ Own3 w' W.heap.size X p ∧ Below W.heap.size W w') := fun W a c ha => by
    have := from_any a c kind xs W (by omega) ha
    rw [hf] at this
    exact this
  clear h hf
  go_enter Tryz.func20, Tryz.ntmps20
  go_wp2_with (first
    | (go_at_call 37; refine (unhide H _).mono ?_; rintro e w1 ⟨a, c, rfl, hr1, hb1⟩)
    | (go_at_call 5; refine (unhide HF _ _ _ (hr1.later (below_alloc (Below.refl _ _) _))).mono ?_; rintro e w2 ⟨p, rfl, hv2, hfr2, hb2⟩; rw [vecV_open]; obtain ⟨r0, r1, r2, r3, s0, s1, s2, s3⟩ := box_facts (rowIs_later (World.rowIs.alloc (rowIs_later (box4_alloc w (.int .i64 0) (.slice none 0 0) (.slice none 0 0) (.slice none 0 0)) hb1) _) hb2))
    | fail)
  have hB1 := below_one hb1
  have hB2 := below_step (below_alloc hB1 _) hb2
  have hz1 : w.heap.size + 1 ≤ w1.heap.size := by have := hb1.size; simpa using this
  have hfr2' : Own3 w2 (w.heap.size + 1) X p := hfr2.less (by simp; omega)
  have hfr3 : Fresh (w.heap.size + 1) p := hfr2'.fresh
  refine bodyPost_ret (v := .tuple #[vecV X p, .int .i64 0]) ?_ rfl ⟨p, rfl, ?_, (hfr2'.setO4 (by omega) _ _ _ _).less (by omega), ?_⟩
  · simp [results, Tryz.results20, go_sem, vecV, r0, r1, r2, r3]
  · exact ⟨(((hv2.1.setO hfr3.1 _ (by simp) _).setO hfr3.1 _ (by simp) _).setO hfr3.1 _ (by simp) _).setO hfr3.1 _ (by simp) _, (((hv2.2.1.setO hfr3.2.1 _ (by simp) _).setO hfr3.2.1 _ (by simp) _).setO hfr3.2.1 _ (by simp) _).setO hfr3.2.1 _ (by simp) _, (((hv2.2.2.setO hfr3.2.2 _ (by simp) _).setO hfr3.2.2 _ (by simp) _).setO hfr3.2.2 _ (by simp) _).setO hfr3.2.2 _ (by simp) _⟩
  · exact (((hB2.setCell (p := ⟨w.heap.size, 0, none⟩) (Nat.le_refl _) _).setCell (p := ⟨w.heap.size, 1, none⟩) (Nat.le_refl _) _).setCell (p := ⟨w.heap.size, 2, none⟩) (Nat.le_refl _) _).setCell (p := ⟨w.heap.size, 3, none⟩) (Nat.le_refl _) _
end Go.Proofs.YtjnggnhgambmkaaGreat
set_option linter.unusedSimpArgs false
set_option linter.unusedVariables false
namespace Go.Proofs.YtjnggnhgambmkaaGreat
open Go.RowKit Go.Sort

/-- The places below k at which f holds. -/
def fT (f : Nat → Bool) (k : Nat) : List Nat := (List.range k).filter f
theorem fT_next (f : Nat → Bool) (k : Nat) : fT f (k + 1) = fT f k ++ (if f k then [k] else []) := by
  unfold fT
  rw [List.range_succ, List.filter_append]
  cases h : f k <;> simp [h]
theorem fT_pre (f : Nat → Bool) {k n : Nat} (h : k ≤ n) : ∃ r, fT f n = fT f k ++ r := by
  obtain ⟨j, rfl⟩ : ∃ j, n = k + j := ⟨n - k, by omega⟩
  clear h
  induction j with
  | zero => exact ⟨[], by simp⟩
  | succ j ih =>
    obtain ⟨r, hr⟩ := ih
    exact ⟨r ++ (if f (k + j) then [k + j] else []), by rw [← Nat.add_assoc, fT_next, hr, List.append_assoc]⟩
theorem fT_at {f : Nat → Bool} {k n : Nat} (h : k < n) (hf : f k = true) : (fT f n)[(fT f k).length]? = some k := by
  obtain ⟨r, hr⟩ := fT_pre f (k := k + 1) h
  rw [hr, fT_next, if_pos hf, List.append_assoc]
  simp
theorem fT_len (f : Nat → Bool) (k : Nat) : (fT f k).length ≤ k := by
  unfold fT
  exact Nat.le_trans (List.length_filter_le _ _) (by simp)
/-- Does a value compare so? -/
def hitB (op : Int) (y x : Val) : Bool := trueB (testV op x y)
def hitF (op : Int) (y : Val) (xs : List Val) (k : Nat) : Bool := hitB op y (xs.getD k .null)
theorem hitF_at {op : Int} {y x : Val} {xs : List Val} {k : Nat} (h : xs[k]? = some x) : hitF op y xs k = hitB op y x := by
  unfold hitF
  rw [List.getD_eq_getElem?_getD, h]; rfl
/-- An own row of numbers. -/
def OwnN (w : World) (base : Nat) (v : Value) (ns : List Nat) : Prop := w.ownsRow base 3 1 v ns.length (ns.map fun n : Nat => Value.int .i64 (n : Int))
theorem Tryz.info3' : (Tryz.prog.info? 3).map (fun i => (i.zero, i.size, i.bytes)) = some (some (.int .i64 0), 1, 8) := by kernel_rfl
theorem ownN_app {w : World} {base : Nat} {v : Value} {ys : List Nat} {m : Nat} (h : w.ownsRow base 3 1 v (ys.length + 1) ((ys.map fun n : Nat => Value.int .i64 (n : Int)) ++ [.int .i64 (m : Int)])) : OwnN w base v (ys ++ [m]) := by
  unfold OwnN
  rw [List.length_append, List.map_append]
  exact h
set_option maxHeartbeats 400000 in
set_option maxRecDepth 100000 in
theorem samerow_same (a b : Option Addr) (c d : Nat) (xs : List Val) (w : World) (hl : xs.length ≤ 1048576) (ha : RowAt w a xs) (hb : RowAt w b xs) :
    Calls Tryz.prog 8 #[.slice a xs.length c, .slice b xs.length d] w fun e w' => e = .returned (.bool true) ∧ Below w.heap.size w w' := by
  have HA := hide ha
  have HB := hide hb
  clear ha hb
  go_enter Tryz.func8, Tryz.ntmps8
  go_wp2_with fail
  go_loopw [13] (fun i wr => ∃ k : Nat, k ≤ xs.length ∧ i = .int .i64 (k : Int) ∧ Below w.heap.size w wr) (fun i _ => xs.length - (intOf i).toNat)
  case atStart => exact ⟨0, Nat.zero_le _, rfl, Below.refl _ _⟩
  case round =>
    obtain ⟨k, hk, rfl, hb⟩ := hrel
    by_cases hlt : k < xs.length
    · have h9 : (k : Int) < (xs.length : Int) := by omega
      obtain ⟨x, hx⟩ : ∃ x, xs[k]? = some x := ⟨_, List.getElem?_eq_getElem hlt⟩
      obtain ⟨vb, vo, rfl, c0, c1, c2⟩ := ((unhide HA).later hb).lo hx
      obtain ⟨ub, uo, rfl, d0, d1, d2⟩ := ((unhide HB).later hb).lo hx
      have HB2 := hide hb
      clear hx hb
      go_wp2_with fail
      go_quiet (fail)
      go_wp2
      go_roundw
      case rel => exact ⟨k + 1, by omega, by go_num, below_drewN (unhide HB2) _⟩
      case measure => simp [intOf]; omega
    · have h9 : ¬ (k : Int) < (xs.length : Int) := by omega
      have HB2 := hide hb
      clear hb
      go_wp2
      go_ret
      exact ⟨rfl, unhide HB2⟩
end Go.Proofs.YtjnggnhgambmkaaGreat
set_option linter.unusedSimpArgs false
set_option linter.unusedVariables false
namespace Go.Proofs.YtjnggnhgambmkaaGreat
open Go.RowKit Go.Sort

theorem clean_clean (x : Val) : cleanV (cleanV x) = cleanV x := by
  unfold cleanV
  rcases Bool.eq_false_or_eq_true (x.k == 1) with h1 | h1 <;> rcases Bool.eq_false_or_eq_true (x.k == 2) with h2 | h2 <;> simp [h1, h2, Val.num, Val.str, Val.null]
theorem clean_cases (x : Val) : cleanV x = .null ∨ cleanV x = .num x.n ∨ cleanV x = .str x.s := by
  unfold cleanV
  split
  · exact .inr (.inl rfl)
  · split
    · exact .inr (.inr rfl)
    · exact .inl rfl
theorem clean_shape {y : Val} (h : cleanV y = y) : y = .null ∨ (∃ n, y = .num n) ∨ ∃ s, y = .str s := by
  rcases clean_cases y with e | e | e
  · exact .inl (h.symm.trans e)
  · exact .inr (.inl ⟨_, h.symm.trans e⟩)
  · exact .inr (.inr ⟨_, h.symm.trans e⟩)
theorem large_le {s : ByteArray} : largeB s = false ↔ s.size ≤ 1000 := by
  unfold largeB
  rw [decide_eq_false_iff_not]
  omega
theorem zip_map2 {α β γ : Type} (f : α → β) (g : α → γ) (l : List α) : (l.map f).zip (l.map g) = l.map fun x => (f x, g x) := by
  induction l with
  | nil => rfl
  | cons a l ih => simp [ih]
theorem laid_good {kind : Int} {ys : List Val} (hk : kind = 1 ∨ kind = 2) (hc : ∀ y ∈ ys, cleanV y = y) (hb : ∀ y ∈ ys, badK kind y = false) (hl : ∀ y ∈ ys, largeB y.s = false) : goodB (laidV kind ys) = true := by
  rcases hk with rfl | rfl
  · unfold goodB laidV
    simp only [beq_self_eq_true, if_true, znN, nlOf, zip_map2, List.length_map, Bool.and_eq_true, Bool.not_eq_true', List.length_nil]
    refine ⟨trivial, trivial, ?_⟩
    rw [List.any_eq_false]
    intro p hp
    obtain ⟨y, hy, rfl⟩ := List.mem_map.1 hp
    rcases clean_shape (hc y hy) with rfl | ⟨n, rfl⟩ | ⟨s, rfl⟩ <;> simp [badN, Val.null, Val.num, Val.str]
  · have e1 : ((2 : Int) == 1) = false := rfl
    have e2 : ¬ (2 : Int) = 1 := by decide
    unfold goodB laidV
    simp only [e1, Bool.false_eq_true, beq_self_eq_true, if_true, if_false, e2, znS, nlOf, zip_map2, List.length_map, Bool.and_eq_true, Bool.not_eq_true', List.length_nil]
    refine ⟨⟨trivial, trivial, ?_⟩, ?_⟩
    · rw [List.any_eq_false]
      intro p hp
      obtain ⟨y, hy, rfl⟩ := List.mem_map.1 hp
      rcases clean_shape (hc y hy) with rfl | ⟨n, rfl⟩ | ⟨s, rfl⟩
      · simp [badS, Val.null]
      · simp [badS, Val.num]
      · simp [badS, Val.str]
    · rw [List.any_eq_false]
      intro s hs
      obtain ⟨y, hy, rfl⟩ := List.mem_map.1 hs
      simp [hl y hy]
theorem laid_vals {kind : Int} {ys : List Val} (hk : kind = 1 ∨ kind = 2) (hc : ∀ y ∈ ys, cleanV y = y) (hb : ∀ y ∈ ys, badK kind y = false) (hl : ∀ y ∈ ys, largeB y.s = false) : valsV (laidV kind ys) = ys := by
  have hg := laid_good hk hc hb hl
  apply List.ext_getElem?
  intro i
  by_cases hi : i < ys.length
  · rw [vals_at hg (by simpa [laidV, nlOf] using hi), List.getElem?_eq_getElem hi]
    congr 1
    have hm := List.getElem_mem hi
    have hcl := hc _ hm
    have hbd := hb _ hm
    generalize hy : ys[i] = y at *
    have hgt : ys[i]? = some y := by rw [List.getElem?_eq_getElem hi, hy]
    unfold atV
    rcases hk with rfl | rfl
    · rcases clean_shape hcl with rfl | ⟨n, rfl⟩ | ⟨s, rfl⟩
      · simp [laidV, nlOf, hgt, List.getD_eq_getElem?_getD, Val.null]
      · simp [laidV, nlOf, hgt, List.getD_eq_getElem?_getD, Val.num]
      · simp [badK, Val.str] at hbd
    · rcases clean_shape hcl with rfl | ⟨n, rfl⟩ | ⟨s, rfl⟩
      · simp [laidV, nlOf, hgt, List.getD_eq_getElem?_getD, Val.null]
      · simp [badK, Val.num] at hbd
      · simp [laidV, nlOf, hgt, List.getD_eq_getElem?_getD, Val.str]
  · rw [List.getElem?_eq_none (by rw [vals_len hg]; simp [laidV, nlOf]; omega), List.getElem?_eq_none (by omega)]
/-- What From makes of values that fit. -/
theorem from_ok {kind : Int} {xs : List Val} {X : Vc} (h : fromV kind xs = (X, 0)) : goodB X = true ∧ X.k = kind ∧ valsV X = xs.map cleanV ∧ fromV X.k (valsV X) = (X, 0) ∧ X.nl.length = xs.length ∧ X.ns.length ≤ xs.length ∧ X.ss.length ≤ xs.length ∧ ((∀ x ∈ xs, -9223372036854775808 ≤ x.n ∧ x.n ≤ 9223372036854775807) → ∀ n ∈ X.ns, -9223372036854775808 ≤ n ∧ n ≤ 9223372036854775807) := by
  unfold fromV at h
  split at h
  · injection h with _ h; cases h
  rename_i hk
  split at h
  · injection h with _ h; cases h
  rename_i hb
  split at h
  · injection h with _ h; cases h
  rename_i hl
  injection h with h _
  subst h
  have hk2 : kind = 1 ∨ kind = 2 := by
    cases hkk : kindB kind
    · exact absurd hkk hk
    · unfold kindB at hkk; simpa using hkk
  have hc : ∀ y ∈ xs.map cleanV, cleanV y = y := fun y hy => by
    obtain ⟨x, _, rfl⟩ := List.mem_map.1 hy
    exact clean_clean x
  have hb2 : ∀ y ∈ xs.map cleanV, badK kind y = false := fun y hy => by
    cases hbb : badK kind y
    · rfl
    · exact absurd (List.any_eq_true.2 ⟨y, hy, hbb⟩) hb
  have hl2 : ∀ y ∈ xs.map cleanV, largeB y.s = false := fun y hy => by
    cases hbb : largeB y.s
    · rfl
    · exact absurd (List.any_eq_true.2 ⟨y, hy, hbb⟩) hl
  have hv := laid_vals hk2 hc hb2 hl2
  have ec : (xs.map cleanV).map cleanV = xs.map cleanV := by
    conv => rhs; rw [← List.map_id (xs.map cleanV)]
    exact List.map_congr_left fun y hy => hc y hy
  refine ⟨laid_good hk2 hc hb2 hl2, rfl, hv, ?_, by simp [laidV, nlOf], ?_, ?_, ?_⟩
  · rw [hv]
    show fromV kind (xs.map cleanV) = _
    unfold fromV
    rw [if_neg hk, ec, if_neg hb, if_neg hl]
  · simp only [laidV]; split <;> simp
  · simp only [laidV]; split <;> simp
  · intro hr n hn
    simp only [laidV] at hn
    split at hn
    · obtain ⟨y, hy, rfl⟩ := List.mem_map.1 hn
      obtain ⟨x, hx, rfl⟩ := List.mem_map.1 hy
      rcases clean_cases x with e | e | e
      · rw [e]; decide
      · rw [e]; exact hr x hx
      · rw [e]; show -9223372036854775808 ≤ (0 : Int) ∧ (0 : Int) ≤ 9223372036854775807; decide
    · cases hn
theorem from_bad {kind : Int} {xs : List Val} (h : (fromV kind xs).2 ≠ 0) : (fromV kind xs).1 = .zero := by
  unfold fromV at h ⊢
  split
  · rfl
  · split
    · rfl
    · split
      · rfl
      · rename_i h1 h2 h3
        rw [if_neg h1, if_neg h2, if_neg h3] at h
        exact absurd rfl h
theorem words_one {ys W W' : List Val} (hc : ∀ y ∈ ys, cleanV y = y) (h : WordsOf ys W) (h' : WordsOf ys W') : W = W' := by
  obtain ⟨S, hp, hr, rfl⟩ := h
  obtain ⟨S', hp', hr', rfl⟩ := h'
  rw [rises_eq hr hr' (hp.trans hp'.symm) (fun x hx => hc x (hp.mem_iff.1 hx))]
theorem body_one {n : Nat} {ys : List Val} {b b' : List Int} (hc : ∀ y ∈ ys, cleanV y = y) (h : BodyB n ys b) (h' : BodyB n ys b') : b = b' := by
  rcases h with ⟨rfl, rfl⟩ | ⟨rfl, rfl⟩ | ⟨rfl, W, hW, rfl⟩ | ⟨rfl, rfl⟩
  · rcases h' with ⟨_, rfl⟩ | ⟨e, _⟩ | ⟨e, _⟩ | ⟨e, _⟩
    · rfl
    all_goals cases e
  · rcases h' with ⟨e, _⟩ | ⟨_, rfl⟩ | ⟨e, _⟩ | ⟨e, _⟩
    · cases e
    · rfl
    all_goals cases e
  · rcases h' with ⟨e, _⟩ | ⟨e, _⟩ | ⟨_, W', hW', rfl⟩ | ⟨e, _⟩
    · cases e
    · cases e
    · rw [words_one hc hW hW']
    · cases e
  · rcases h' with ⟨e, _⟩ | ⟨e, _⟩ | ⟨e, _⟩ | ⟨_, rfl⟩
    · cases e
    · cases e
    · cases e
    · rfl
/-- Write answers one thing. -/
theorem pw_one {X : Vc} (hg : goodB X = true) {n : Int} {s s' : ByteArray} {f f' : Int} (h : PW X n s f) (h' : PW X n s' f') : s = s' ∧ f = f' := by
  rcases h with ⟨h1, rfl, rfl⟩ | ⟨h1, h2, rfl, rfl⟩ | ⟨h1, h2, rfl, b, hb, rfl⟩
  · rcases h' with ⟨_, rfl, rfl⟩ | ⟨g1, _⟩ | ⟨g1, _⟩
    · exact ⟨rfl, rfl⟩
    · rw [h1] at g1; cases g1
    · rw [h1] at g1; cases g1
  · rcases h' with ⟨g1, _⟩ | ⟨_, _, rfl, rfl⟩ | ⟨_, g2, _⟩
    · rw [h1] at g1; cases g1
    · exact ⟨rfl, rfl⟩
    · omega
  · rcases h' with ⟨g1, _⟩ | ⟨_, g2, _⟩ | ⟨_, _, rfl, b', hb', rfl⟩
    · rw [h1] at g1; cases g1
    · omega
    · rw [body_one (fun y hy => vals_clean hg (List.mem_filter.1 hy).1) hb hb']
      exact ⟨rfl, rfl⟩
/-- The shortest is one of them, and as short as any. -/
theorem pb_one {X : Vc} (hg : goodB X = true) : ∀ (j : Nat) (b : ByteArray), PB X j b → (∃ n : Nat, 1 ≤ n ∧ n ≤ j + 1 ∧ PW X (n : Int) b 0) ∧ ∀ (n : Nat) (s : ByteArray), 1 ≤ n → n ≤ j + 1 → PW X (n : Int) s 0 → b.size ≤ s.size
  | 0, b, h => by
    refine ⟨⟨1, by omega, by omega, h⟩, fun n s h1 h2 hs => ?_⟩
    have : n = 1 := by omega
    subst this
    rw [(pw_one hg h hs).1]; exact Nat.le_refl _
  | j + 1, b, ⟨c, s, f, hc, hs, hb⟩ => by
    obtain ⟨⟨n, n1, n2, hn⟩, hmin⟩ := pb_one hg j c hc
    have e : (j : Int) + 2 = ((j + 2 : Nat) : Int) := by omega
    rw [e] at hs
    subst hb
    unfold pickB
    by_cases hp : f = 0 ∧ s.size < c.size
    · rw [if_pos hp]
      obtain ⟨rfl, hlt⟩ := hp
      refine ⟨⟨j + 2, by omega, by omega, hs⟩, fun m t m1 m2 ht => ?_⟩
      by_cases hm : m = j + 2
      · subst hm; rw [(pw_one hg hs ht).1]; exact Nat.le_refl _
      · have := hmin m t m1 (by omega) ht; omega
    · rw [if_neg hp]
      refine ⟨⟨n, n1, by omega, hn⟩, fun m t m1 m2 ht => ?_⟩
      by_cases hm : m = j + 2
      · subst hm
        obtain ⟨e1, e2⟩ := pw_one hg hs ht
        subst e1; subst e2
        have : ¬ s.size < c.size := fun h => hp ⟨rfl, h⟩
        omega
      · exact hmin m t m1 (by omega) ht
theorem runsB_len : ∀ (f : Nat) (xs : List Val), (∀ x ∈ xs, x.s.size ≤ 1000) → (runsB f xs).length ≤ 1012 * f
  | 0, _, _ => by simp [runsB]
  | f + 1, [], _ => by simp [runsB]
  | f + 1, x :: xs, h => by
    have h1 := plainL_len x
    have h2 := h x (by simp)
    have h3 := runsB_len f ((x :: xs).drop (aheadN (x :: xs))) (fun y hy => h y (List.mem_of_mem_drop hy))
    rw [runsB, List.length_append, List.length_append, beL_len]
    omega
theorem bytesN_le {k d : Nat} (hk : k ≤ 4096) (hd : d ≤ 64) : bytesN k d ≤ 32769 := by
  have : k * d ≤ 4096 * 64 := Nat.mul_le_mul hk hd
  unfold bytesN; omega
theorem body_len {n : Nat} {ys : List Val} {b : List Int} (h : BodyB n ys b) (hl : ys.length ≤ 4096) (hs : ∀ x ∈ ys, x.s.size ≤ 1000) : b.length ≤ 5000000 := by
  rcases h with ⟨_, rfl⟩ | ⟨_, rfl⟩ | ⟨_, W, hW, rfl⟩ | ⟨_, rfl⟩
  · have := plains_len4 ys hs hl; omega
  · have := runsB_len ys.length ys hs
    rw [List.length_append, beL_len]; omega
  · have h1 := plains_len4 W (fun x hx => hs x (hW.sub hx)) (by have := hW.len; omega)
    have hlen := hW.len
    have hd : bl (W.length - 1) ≤ 64 := bl_le (by have : (2:Nat)^64 = 18446744073709551616 := by decide
                                                  omega)
    have := bytesN_le hl hd
    unfold wordsB
    rw [List.length_append, List.length_append, beL_len, leB_len]; omega
  · have := bytesN_le hl (widL_le (leastI ys) ys)
    unfold offsB
    rw [List.length_append, List.length_append, beL_len, beL_len, leB_len]; omega
theorem pw_size {X : Vc} {n : Int} {s : ByteArray} (h : PW X n s 0) : s.size ≤ 6000000 := by
  rcases h with ⟨_, _, h⟩ | ⟨_, _, _, h⟩ | ⟨hb, hl, _, b, hbody, rfl⟩
  · cases h
  · cases h
  have hg : goodB X = true := by
    unfold badW at hb
    cases hgg : goodB X
    · rw [hgg] at hb; simp at hb
    · rfl
  have hvl : (valsV X).length ≤ 4096 := Nat.le_trans (vals_le X) hl
  have h1 := body_len hbody (Nat.le_trans (List.length_filter_le _ _) hvl) (fun x hx => vals_size hg (List.mem_filter.1 hx).1)
  have h2 := nulls_len (valsV X) hvl
  rw [toB_size, List.length_append]
  unfold headB
  rw [List.length_append, List.length_append, List.length_append, beL_len, beL_len, beL_len]
  omega
theorem pw_opens {X : Vc} (hr : ∀ n ∈ X.ns, -9223372036854775808 ≤ n ∧ n ≤ 9223372036854775807) {n : Nat} (h1 : 1 ≤ n) (h4 : n ≤ 4) {s : ByteArray} (h : PW X (n : Int) s 0) : Opens s n X.k (valsV X) :=
  opens_of (by have := pw_size h; omega) (packed_col hr (by omega) h)
end Go.Proofs.YtjnggnhgambmkaaGreat

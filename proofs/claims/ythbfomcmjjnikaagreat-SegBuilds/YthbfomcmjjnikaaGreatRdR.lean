import Derived.Test.YthbfomcmjjnikaaGreatRdQ
set_option linter.unusedSimpArgs false
set_option linter.unusedVariables false
namespace Go.Proofs.YthbfomcmjjnikaaGreat
open Go.RowKit Go.Sort

def truthV (b : Bool) : Val := .num (if b then 1 else 0)
def ZeroAt (w : World) (b : Nat) : Prop := w.cell? ⟨b, 0, none⟩ = some (.int .i64 0) ∧ w.cell? ⟨b, 1, none⟩ = some (.int .i64 0) ∧ w.cell? ⟨b, 2, none⟩ = some (.string ⟨#[]⟩) ∧ w.frozen? ⟨b, 0, none⟩ = false ∧ w.frozen? ⟨b, 1, none⟩ = false ∧ w.frozen? ⟨b, 2, none⟩ = false
theorem ZeroAt.later {w w1 : World} {b : Nat} (h : ZeroAt w b) (hb : Below w.heap.size w w1) : ZeroAt w1 b := by
  obtain ⟨h0, h1, h2, f0, f1, f2⟩ := h
  obtain ⟨hc, hf⟩ := bcell hb
  have hl : b < w.heap.size := World.block_lt_of_cell? w _ h0
  unfold ZeroAt
  rw [hc _ _ hl, hc _ _ hl, hc _ _ hl, hf _ _ hl, hf _ _ hl, hf _ _ hl]
  exact ⟨h0, h1, h2, f0, f1, f2⟩
abbrev Zero23 : Obj := .cells #[.int .i64 0, .int .i64 0, .string ⟨#[]⟩] 59
def boxes3 (w : World) (a b : Val) : World := (boxes w a b).alloc Zero23
theorem boxes3_size (w : World) (a b : Val) : (boxes3 w a b).heap.size = w.heap.size + 1 + 1 + 1 := by simp [boxes3, boxes_size]
theorem boxes3_drew (w : World) (a b : Val) : Below (boxes3 w a b).heap.size (boxes3 w a b) (boxes3 w a b).drew := (Below.refl _ _).drew
theorem boxes3_facts {w w' : World} {a b : Val} (h : Below (boxes3 w a b).heap.size (boxes3 w a b) w') :
    BoxAt w' w.heap.size a ∧ BoxAt w' (w.heap.size + 1) b ∧ FreeAt w' w.heap.size ∧ FreeAt w' (w.heap.size + 1) ∧ ZeroAt w' (w.heap.size + 1 + 1) ∧ w.heap.size + 1 + 1 < w'.heap.size := by
  have hs := h.size
  rw [boxes3_size] at hs
  obtain ⟨hc, hf⟩ := bcell h
  refine ⟨⟨?_, ?_, ?_⟩, ⟨?_, ?_, ?_⟩, ⟨?_, ?_, ?_⟩, ⟨?_, ?_, ?_⟩, ⟨?_, ?_, ?_, ?_, ?_, ?_⟩, by omega⟩
  all_goals first | (rw [hc _ _ (by rw [boxes3_size]; omega)]; simp [boxes3, boxes, go_sem]; done) | (rw [hf _ _ (by rw [boxes3_size]; omega)]; simp [boxes3, boxes, go_sem]; done)
theorem boxes3_below {w w' : World} {a b : Val} (h : Below (boxes3 w a b).heap.size (boxes3 w a b) w') : Below w.heap.size w w' :=
  ((((Below.refl _ _).alloc (Nat.le_refl _) _).alloc (by simp) _).alloc (by simp; omega) _).trans (h.mono (by rw [boxes3_size]; omega))
def tnullB (x : Val) : Bool := (cleanV x).k == 0
theorem tnullB_eq (x : Val) : tnullB x = (x.k != 1 && x.k != 2) := by
  unfold tnullB cleanV
  rcases Bool.eq_false_or_eq_true (x.k == 1) with h1 | h1 <;> rcases Bool.eq_false_or_eq_true (x.k == 2) with h2 | h2 <;> simp [h1, h2, bne, Val.num, Val.str, Val.null]

def testB (op o : Int) : Option Bool :=
  if op == 12 then some (o == 0) else if op == 13 then some (o != 0) else if op == 14 then some (decide (o < 0)) else if op == 15 then some (decide (o ≤ 0)) else if op == 16 then some (decide (0 < o)) else if op == 17 then some (decide (0 ≤ o)) else none
def testR (op o : Int) : Val := match testB op o with | some t => truthV t | none => .null
def testV (op : Int) (a b : Val) : Val := if tnullB a || tnullB b then .null else testR op (ordV a b)

theorem testR_some {op o : Int} {t : Bool} (h : testB op o = some t) : testR op o = truthV t := by simp [testR, h]
theorem testR_none {op o : Int} (h : testB op o = none) : testR op o = .null := by simp [testR, h]

end Go.Proofs.YthbfomcmjjnikaaGreat
set_option linter.unusedSimpArgs false
set_option linter.unusedVariables false
namespace Go.Proofs.YthbfomcmjjnikaaGreat
open Go.RowKit Go.Sort

/-- A text that is a packed column: what opened answers, wherever. -/
def Opens (s : ByteArray) (sch : Nat) (kind : Int) (xs : List Val) : Prop := ∀ W, Calls Tryz.prog 101 #[.string s] W fun e w' => ∃ a c, e = .returned (.tuple #[.agg #[.int .i64 (sch : Int), .int .i64 kind, .slice a xs.length c], .int .i64 0]) ∧ RowAt w' a xs ∧ Below W.heap.size W w'
theorem opens_of {s : ByteArray} {sch : Nat} {kind : Int} {xs : List Val} (hl : s.size ≤ 140737488355328) (h : columnD s.data.toList = some (sch, kind, xs)) : Opens s sch kind xs := by
  intro W
  have := opened_yes (w := W) (l := s.data.toList) (by rw [Array.length_toList]; exact hl) h
  rw [bs_back] at this
  refine this.mono ?_
  rintro e w' ⟨v, rfl, ho, hb⟩
  obtain ⟨a, c, rfl, _, _, hr⟩ := ownV_slice ho
  exact ⟨a, c, rfl, hr, hb⟩
set_option maxHeartbeats 400000 in
set_option maxRecDepth 100000 in
theorem pread_any {s : ByteArray} {sch : Nat} {kind : Int} {xs : List Val} (h : Opens s sch kind xs) (hl : xs.length ≤ 4096) {X : Vc} (hf : fromV kind xs = (X, 0)) (w : World) : Calls Tryz.prog 93 #[.string s] w fun e w' => ∃ p, e = .returned (.tuple #[vecV X p, .int .i64 0]) ∧ VecAt w' X p ∧ Fresh w.heap.size p ∧ Below w.heap.size w w' := by
  have H := hide h
  have HF : Hid (∀ W a c, RowAt W a xs → Calls Tryz.prog 27 #[.int .i64 kind, .slice a xs.length c] W fun e w' => ∃ p, e = .returned (.tuple #[vecV X p, .int .i64 0]) ∧ VecAt w' X p ∧ Fresh W.heap.size p ∧ Below W.heap.size W w') := fun W a c ha => by
    have := from_any a c kind xs W (by omega) ha
    rw [hf] at this
    exact this
  clear h hf
  go_enter Tryz.func93, Tryz.ntmps93
  go_wp2_with (first
    | (go_at_call 101; refine (unhide H _).mono ?_; rintro e w1 ⟨a, c, rfl, hr1, hb1⟩)
    | (go_at_call 27; refine (unhide HF _ _ _ (hr1.later (below_alloc (Below.refl _ _) _))).mono ?_; rintro e w2 ⟨p, rfl, hv2, hfr2, hb2⟩; rw [vecV_open]; obtain ⟨r0, r1, r2, r3, s0, s1, s2, s3⟩ := box_facts (rowIs_later (World.rowIs.alloc (rowIs_later (box4_alloc w (.int .i64 0) (.slice none 0 0) (.slice none 0 0) (.slice none 0 0)) hb1) _) hb2))
    | fail)
  have hB1 := below_one hb1
  have hB2 := below_step (below_alloc hB1 _) hb2
  have hz1 : w.heap.size + 1 ≤ w1.heap.size := by have := hb1.size; simpa using this
  have hfr3 : Fresh (w.heap.size + 1) p := hfr2.less (by simp; omega)
  have hfr4 : Fresh w.heap.size p := hfr3.less (by omega)
  refine bodyPost_ret (v := .tuple #[vecV X p, .int .i64 0]) ?_ rfl ⟨p, rfl, ?_, hfr4, ?_⟩
  · simp [results, Tryz.results93, go_sem, vecV, r0, r1, r2, r3]
  · exact ⟨(((hv2.1.setO hfr3.1 _ (by simp) _).setO hfr3.1 _ (by simp) _).setO hfr3.1 _ (by simp) _).setO hfr3.1 _ (by simp) _, (((hv2.2.1.setO hfr3.2.1 _ (by simp) _).setO hfr3.2.1 _ (by simp) _).setO hfr3.2.1 _ (by simp) _).setO hfr3.2.1 _ (by simp) _, (((hv2.2.2.setO hfr3.2.2 _ (by simp) _).setO hfr3.2.2 _ (by simp) _).setO hfr3.2.2 _ (by simp) _).setO hfr3.2.2 _ (by simp) _⟩
  · exact (((hB2.setCell (p := ⟨w.heap.size, 0, none⟩) (Nat.le_refl _) _).setCell (p := ⟨w.heap.size, 1, none⟩) (Nat.le_refl _) _).setCell (p := ⟨w.heap.size, 2, none⟩) (Nat.le_refl _) _).setCell (p := ⟨w.heap.size, 3, none⟩) (Nat.le_refl _) _
end Go.Proofs.YthbfomcmjjnikaaGreat
set_option linter.unusedSimpArgs false
set_option linter.unusedVariables false
namespace Go.Proofs.YthbfomcmjjnikaaGreat
open Go.RowKit Go.Sort

/-- The places below k at which f holds. -/
def fT (f : Nat → Bool) (k : Nat) : List Nat := (List.range k).filter f
theorem fT_next (f : Nat → Bool) (k : Nat) : fT f (k + 1) = fT f k ++ (if f k then [k] else []) := by
  unfold fT
  rw [List.range_succ, List.filter_append]
  cases h : f k <;> simp [h]
theorem fT_pre (f : Nat → Bool) {k n : Nat} (h : k ≤ n) : ∃ r, fT f n = fT f k ++ r := by
  obtain ⟨j, rfl⟩ : ∃ j, n = k + j := ⟨n - k, by omega⟩
  clear h
  induction j with
  | zero => exact ⟨[], by simp⟩
  | succ j ih =>
    obtain ⟨r, hr⟩ := ih
    exact ⟨r ++ (if f (k + j) then [k + j] else []), by rw [← Nat.add_assoc, fT_next, hr, List.append_assoc]⟩
theorem fT_at {f : Nat → Bool} {k n : Nat} (h : k < n) (hf : f k = true) : (fT f n)[(fT f k).length]? = some k := by
  obtain ⟨r, hr⟩ := fT_pre f (k := k + 1) h
  rw [hr, fT_next, if_pos hf, List.append_assoc]
  simp
theorem fT_len (f : Nat → Bool) (k : Nat) : (fT f k).length ≤ k := by
  unfold fT
  exact Nat.le_trans (List.length_filter_le _ _) (by simp)
/-- Does a value compare so? -/
def hitB (op : Int) (y x : Val) : Bool := trueB (testV op x y)
def hitF (op : Int) (y : Val) (xs : List Val) (k : Nat) : Bool := hitB op y (xs.getD k .null)
theorem hitF_at {op : Int} {y x : Val} {xs : List Val} {k : Nat} (h : xs[k]? = some x) : hitF op y xs k = hitB op y x := by
  unfold hitF
  rw [List.getD_eq_getElem?_getD, h]; rfl
/-- An own row of numbers. -/
def OwnN (w : World) (base : Nat) (v : Value) (ns : List Nat) : Prop := w.ownsRow base 3 1 v ns.length (ns.map fun n : Nat => Value.int .i64 (n : Int))
theorem Tryz.info3' : (Tryz.prog.info? 3).map (fun i => (i.zero, i.size, i.bytes)) = some (some (.int .i64 0), 1, 8) := by kernel_rfl
theorem ownN_app {w : World} {base : Nat} {v : Value} {ys : List Nat} {m : Nat} (h : w.ownsRow base 3 1 v (ys.length + 1) ((ys.map fun n : Nat => Value.int .i64 (n : Int)) ++ [.int .i64 (m : Int)])) : OwnN w base v (ys ++ [m]) := by
  unfold OwnN
  rw [List.length_append, List.map_append]
  exact h
end Go.Proofs.YthbfomcmjjnikaaGreat

import Derived.Test.YtbdkpkpncmagoaaGreatVecN
set_option linter.unusedSimpArgs false
set_option linter.unusedVariables false
namespace Go.Proofs.YtbdkpkpncmagoaaGreat
open Go.RowKit Go.Sort

def c3 (x : Val) : List Value := [.int .i64 x.k, .int .i64 x.n, .string x.s]
/-- The slice of values v, a row of the call's own, holds xs. -/
def OwnV (w : World) (base : Nat) (v : Value) (xs : List Val) : Prop := w.ownsRow base 42 3 v xs.length (xs.flatMap c3)
theorem ownV_app {w : World} {base : Nat} {v : Value} {ys : List Val} {x : Val} (h : w.ownsRow base 42 3 v (ys.length + 1) (ys.flatMap c3 ++ c3 x)) : OwnV w base v (ys ++ [x]) := by
  unfold OwnV
  rw [List.length_append, List.flatMap_append]
  simpa using h
theorem OwnV.later {w w1 : World} {base : Nat} {v : Value} {xs : List Val} (h : OwnV w base v xs) (hb : Below w.heap.size w w1) : OwnV w1 base v xs := own_later h hb
theorem flat_at : ∀ (zs : List Val) (i j : Nat) (x : Val), zs[i]? = some x → j < 3 → (zs.flatMap c3)[i * 3 + j]? = (c3 x)[j]?
  | [], i, j, x, h, _ => by simp at h
  | z :: zs, 0, j, x, h, hj => by
    simp at h
    subst h
    rw [List.flatMap_cons, List.getElem?_append_left (by simp [c3]; omega)]
    simp
  | z :: zs, i + 1, j, x, h, hj => by
    have ih := flat_at zs i j x (by simpa using h) hj
    rw [List.flatMap_cons, List.getElem?_append_right (by simp [c3]; omega)]
    rw [← ih]
    congr 1
    simp [c3]
    omega
theorem flat_len (zs : List Val) : (zs.flatMap c3).length = zs.length * 3 := by
  induction zs with
  | nil => rfl
  | cons z zs ih => rw [List.flatMap_cons, List.length_append, ih]; simp [c3]; omega
theorem ownV_row {w : World} {base : Nat} {v : Value} {zs : List Val} (h : OwnV w base v zs) : ∃ a cap, v = .slice a zs.length cap ∧ RowAt w a zs := by
  rcases h.2 with ⟨rfl, h0⟩ | ⟨g, cap, cur, rfl, _⟩
  · have : zs = [] := List.eq_nil_of_length_eq_zero h0
    subst this
    exact ⟨none, 0, rfl, .inl rfl⟩
  · refine ⟨_, cap, rfl, .inr ⟨g, 0, rfl, fun i x hx => ?_⟩⟩
    have hc := World.ownsRow.cells h rfl
    have ea : ∀ n : Nat, (⟨g, 0, none⟩ : Addr).add n = ⟨g, 0 + n, none⟩ := by
      intro n
      by_cases h : n = 0 <;> simp [Addr.add, h]
    have e0 := hc (i * 3 + 0) _ (flat_at zs i 0 x hx (by omega))
    have e1 := hc (i * 3 + 1) _ (flat_at zs i 1 x hx (by omega))
    have e2 := hc (i * 3 + 2) _ (flat_at zs i 2 x hx (by omega))
    rw [ea] at e0 e1 e2
    exact ⟨by simpa using e0, by simpa [Nat.add_assoc] using e1, by simpa [Nat.add_assoc] using e2⟩
theorem own_of_row {w : World} {base g n : Nat} {F : Nat → Value} {ys : List Val} (h : w.rowIs g 42 (n * 3) F) (hl : ys.length = n) (hh : Holds3 F n ys) (hb : base ≤ g) (hn : n ≤ maxLen) : OwnV w base (.slice (some ⟨g, 0, none⟩) n n) ys := by
  subst hl
  obtain ⟨c, hc, hs, hf⟩ := h
  refine ⟨flat_len ys, .inr ⟨g, ys.length, c, rfl, hb, hc, Nat.le_refl _, hn, hs, ?_⟩⟩
  rw [List.take_of_length_le (by simp [hs])]
  apply List.ext_getElem?
  intro j
  by_cases hj : j < ys.length * 3
  · have e : j = (j / 3) * 3 + j % 3 := by omega
    have hx : ys[j / 3]? = some (ys[j / 3]'(by omega)) := List.getElem?_eq_getElem (by omega)
    obtain ⟨f0, f1, f2⟩ := hh (j / 3) _ (by omega) hx
    have hcj : c.toList[j]? = some (F j) := by rw [Array.getElem?_toList]; exact hf j hj
    rw [hcj]
    have hfl := flat_at ys (j / 3) (j % 3) _ hx (by omega)
    rw [← e] at hfl
    rw [hfl]
    have h3 : j % 3 = 0 ∨ j % 3 = 1 ∨ j % 3 = 2 := by omega
    rcases h3 with h3 | h3 | h3
    · rw [h3]; rw [h3, Nat.add_zero] at e; rw [← e] at f0; simp [c3, f0]
    · rw [h3]; rw [h3] at e; rw [← e] at f1; simp [c3, f1]
    · rw [h3]; rw [h3] at e; rw [← e] at f2; simp [c3, f2]
  · rw [List.getElem?_eq_none (by simp [hs]; omega), List.getElem?_eq_none (by rw [flat_len]; omega)]

/-- A column's box and a row of values that is being laid. -/
def PInv (w0 w : World) (B g n k : Nat) (v0 v1 v2 v3 : Value) (ys : List Val) : Prop :=
  Below w0.heap.size w0 w ∧ w.rowIs B 49 4 (box4 v0 v1 v2 v3) ∧ (∃ F, w.rowIs g 42 (n * 3) F ∧ Holds3 F k ys)
theorem PInv.later {w0 w w' : World} {B g n k : Nat} {v0 v1 v2 v3 : Value} {ys : List Val} (h : PInv w0 w B g n k v0 v1 v2 v3 ys) (hb : Below w.heap.size w w') : PInv w0 w' B g n k v0 v1 v2 v3 ys := by
  obtain ⟨hb0, hr, F, hF, hF'⟩ := h
  exact ⟨below_step hb0 hb, rowIs_later hr hb, F, rowIs_later hF hb, hF'⟩
theorem PInv.step {w0 w : World} {B g n k : Nat} {v0 v1 v2 v3 : Value} {ys : List Val} {y : Val} (h : PInv w0 w B g n k v0 v1 v2 v3 ys) (hg : w0.heap.size ≤ g) (hne : B ≠ g) (hy : ys[k]? = some y) :
    PInv w0 (((w.setCell ⟨g, k * 3, none⟩ (.int .i64 y.k)).setCell ⟨g, k * 3 + 1, none⟩ (.int .i64 y.n)).setCell ⟨g, k * 3 + 2, none⟩ (.string y.s)) B g n (k + 1) v0 v1 v2 v3 ys := by
  obtain ⟨hb0, hr, F, hF, hF'⟩ := h
  refine ⟨((hb0.setCell hg _).setCell hg _).setCell hg _, ?_, ⟨_, ?_, hF'.step hy⟩⟩
  · exact ((hr.setOther hne _).setOther hne _).setOther hne _
  · exact ((hF.set _ _).set _ _).set _ _

theorem PInv.start {w0 w1 : World} {B : Nat} {v0 v1 v2 v3 : Value} (hb : Below w0.heap.size w0 w1) (hr : w1.rowIs B 49 4 (box4 v0 v1 v2 v3)) (c : Array Value) (n : Nat) (ys : List Val) : PInv w0 (w1.alloc (.cells (madeCells c (n * 3)) 42)) B w1.heap.size n 0 v0 v1 v2 v3 ys := by
  obtain ⟨F, hF⟩ := rowIs_any w1 (madeCells c (n * 3)) 42
  rw [size_madeCells] at hF
  exact ⟨below_alloc hb _, hr.alloc _, F, hF, Holds3.zero _ _⟩

set_option maxHeartbeats 2000000 in
theorem values_any (X : Vc) (p : Sl) (w : World) (hs : small X) (hp : VecAt w X p) :
    Calls Tryz.prog 70 #[vecV X p] w fun e w' => ∃ v, e = .returned v ∧ OwnV w' w.heap.size v (valsV X) ∧ Below w.heap.size w w' := by
  obtain ⟨i4, hi4, z40, z41, z42⟩ := info_parts Tryz.info42
  have HL : Hid (∀ w', Below w.heap.size w w' → Calls Tryz.prog 45 #[vecV X p] w' fun e w'' => e = .returned (.int .i64 ((valsV X).length : Nat)) ∧ Below w'.heap.size w' w'') := fun w' hb => len_any X p w' hs (hp.later hb)
  have HT : Hid (goodB X = true → ∀ w', Below w.heap.size w w' → ∀ i, i < X.nl.length → Calls Tryz.prog 52 #[vecV X p, .int .i64 i] w' fun e w'' => e = .returned (atV X i).v ∧ Below w'.heap.size w' w'') := fun hg w' hb i hi => at_any X p w' hs hg (hp.later hb) i hi
  have hN : (valsV X).length ≤ 4398046511104 := Nat.le_trans (vals_le X) hs.1
  obtain ⟨N, hNe⟩ : ∃ N, N = (valsV X).length := ⟨_, rfl⟩
  have HN := hide hNe
  rw [← hNe] at hN HL
  have HA : Hid (∀ i, i < N → (valsV X)[i]? = some (atV X i) ∧ ∀ w', Below w.heap.size w w' → Calls Tryz.prog 52 #[vecV X p, .int .i64 i] w' fun e w'' => e = .returned (atV X i).v ∧ Below w'.heap.size w' w'') := by
    intro i hi
    rw [hNe] at hi
    cases hg : goodB X
    · rw [vals_none hg] at hi; simp at hi
    · rw [vals_len hg] at hi
      exact ⟨vals_at hg hi, fun w' hb => unhide HT hg w' hb i hi⟩
  clear hp HT hNe hs
  rw [vecV_open]
  go_enter Tryz.func70, Tryz.ntmps70
  go_wp2_with (first
    | (go_at_call 45; refine (unhide HL _ (below_alloc (Below.refl _ _) _)).mono ?_; rintro e w1 ⟨rfl, hb1⟩; have hbx := boxV_facts hb1; obtain ⟨⟨r0, r1, r2, r3⟩, hbw, hzw⟩ := hbx)
    | (at_make; refine wpList_make_rows _ rfl (.tmp 6) (.tmp 6) 34 rfl 42 i4 _ Tryz.underlying34 hi4 z40 3 z41 .i64 .i64 N rfl rfl (by rw [z42]; omega) (by omega) ?_)
    | fail)
  have HR := hide (rowIs_later (box4_alloc w _ _ _ _) hb1)
  clear hb1 r0 r1 r2 r3
  go_loopw [10] (fun i wr => ∃ k : Nat, k ≤ N ∧ i = .int .i64 k ∧ PInv w wr w.heap.size w1.heap.size N k (.int .i64 X.k) (.slice p.a1 X.nl.length p.c1) (.slice p.a2 X.ns.length p.c2) (.slice p.a3 X.ss.length p.c3) (valsV X)) (fun i _ => N - (intOf i).toNat)
  case atStart => exact ⟨0, Nat.zero_le _, rfl, PInv.start hbw (unhide HR) _ _ _⟩
  case round =>
    obtain ⟨k, hk, rfl, hI⟩ := hrel
    have HI := hide hI
    obtain ⟨hb, hr, F, hF, hF'⟩ := hI
    by_cases h1 : k < N
    · obtain ⟨r0, r1, r2, r3, _⟩ := box_facts hr
      obtain ⟨hv, hat⟩ := unhide HA k h1
      have HV := hide hv
      have HT := hide (hat wr hb)
      generalize atV X k = y at HV HT
      have HF := hide hF
      have hg := hF.lt
      have i1 : (k : Int) < (N : Int) := by omega
      clear hr hF hF' hb hv hat
      go_wp2_with (go_at_call 52; refine (unhide HT).mono ?_; rintro e w2 ⟨rfl, hb2⟩; rw [Val.open_]; obtain ⟨p0, p1, p2, q0, q1, q2⟩ := three (k := k) (rowIs_later (unhide HF) hb2) (by omega))
      go_roundw
      case rel => exact ⟨k + 1, by omega, by go_num, ((unhide HI).later hb2).step (by omega) (by omega) (unhide HV)⟩
      case measure => simp [intOf]; omega
    · have i1 : ¬ (k : Int) < (N : Int) := by omega
      have HE : Hid (OwnV wr w.heap.size (.slice (some ⟨w1.heap.size, 0, none⟩) N N) (valsV X)) := by
        have e : k = N := by omega
        rw [e] at hF'
        exact own_of_row hF (unhide HN).symm hF' (by omega) (by unfold maxLen; omega)
      clear hF hF' hr
      go_wp2
      go_ret
      exact ⟨_, rfl, unhide HE, hb⟩
end Go.Proofs.YtbdkpkpncmagoaaGreat
set_option linter.unusedSimpArgs false
set_option linter.unusedVariables false
namespace Go.Proofs.YtbdkpkpncmagoaaGreat
open Go.RowKit Go.Sort

theorem cells3_new (w : World) (y : Val) : ∀ j u, (c3 y)[j]? = some u → (w.alloc (.cells #[.int .i64 y.k, .int .i64 y.n, .string y.s] 42)).cell? ((⟨w.heap.size, 0, none⟩ : Addr).add j) = some u := by
  intro j u hj
  match j, hj with
  | 0, hj => simp [c3] at hj; subst hj; simp [Addr.add, go_sem]
  | 1, hj => simp [c3] at hj; subst hj; simp [Addr.add, go_sem]
  | 2, hj => simp [c3] at hj; subst hj; simp [Addr.add, go_sem]
  | j + 3, hj => simp [c3] at hj
theorem c3_one (y : Val) : ∀ u ∈ c3 y, u.oneCell' = true := by
  intro u hu; simp [c3] at hu; rcases hu with rfl | rfl | rfl <;> rfl
theorem ownV_len {w : World} {base : Nat} {v : Value} {ys zs : List Val} (h : OwnV w base v zs) (e : zs = ys) : OwnV w base v ys := e ▸ h
/-- Behind an append to an own row: what lay below stays. -/
theorem own_below {w0 w w1 : World} {o : Obj} {v : Value} {base : Nat} {ys : List Val} (hb : Below w0.heap.size w0 w) (ho : OwnV w base v ys) (hbase : w0.heap.size ≤ base) (hg : (w.alloc o).grownBy w1 v.ownBlock) : Below w0.heap.size w0 w1 :=
  (below_alloc hb o).trans (grown_below hg (below_alloc hb o).size fun g e => Nat.le_trans hbase (ho.lt g e).1)

theorem own_base {w : World} {base base' e size : Nat} {v : Value} {m : Nat} {xs : List Value} (h : w.ownsRow base e size v m xs) (hb : base' ≤ base) : w.ownsRow base' e size v m xs := by
  refine ⟨h.1, ?_⟩
  rcases h.2 with h | ⟨g, cap, cur, hv, hg, rest⟩
  · exact .inl h
  · exact .inr ⟨g, cap, cur, hv, Nat.le_trans hb hg, rest⟩

end Go.Proofs.YtbdkpkpncmagoaaGreat

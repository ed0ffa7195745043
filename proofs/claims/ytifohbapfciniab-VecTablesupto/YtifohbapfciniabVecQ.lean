import Derived.Test.YtifohbapfciniabVecP
set_option linter.unusedSimpArgs false
set_option linter.unusedVariables false
namespace Go.Proofs.Ytifohbapfciniab
open Go.RowKit Go.Sort

theorem below_drewN {W0 w : World} (h : Below W0.heap.size W0 w) (n : Nat) : Below W0.heap.size W0 (World.drewN w n) := by
  induction n with
  | zero => exact h
  | succ n ih => exact ih.drew

set_option maxHeartbeats 2000000 in
set_option maxRecDepth 100000 in
theorem samerow_same (aa ab : Option Addr) (ca cb : Nat) (xs : List Val) (w : World) (hla : xs.length ≤ maxLen) (ha : RowAt w aa xs) (hb : RowAt w ab xs) :
    Calls Try.prog 16 #[.slice aa xs.length ca, .slice ab xs.length cb] w fun e w' => e = .returned (.bool true) ∧ Below w.heap.size w w' := by
  unfold maxLen at hla
  go_enter Try.func16, Try.ntmps16
  go_wp2_with fail
  go_loopw [13] (fun i wr => ∃ k : Nat, k ≤ xs.length ∧ i = .int .i64 k ∧ Below w.heap.size w wr) (fun i wx => xs.length - (intOf i).toNat)
  case atStart => exact ⟨0, Nat.zero_le _, rfl, Below.refl _ _⟩
  case round =>
    obtain ⟨k, hk1, rfl, hbel⟩ := hrel
    have ha' := ha.later hbel
    have hb' := hb.later hbel
    by_cases h1 : k < xs.length
    · obtain ⟨x, hx⟩ : ∃ x, xs[k]? = some x := ⟨_, List.getElem?_eq_getElem h1⟩
      rcases ha' with e | ⟨ba, oa, rfl, hca⟩
      · subst e; simp at h1
      rcases hb' with e | ⟨bb, ob, rfl, hcb⟩
      · subst e; simp at h1
      obtain ⟨c0, c1, c2⟩ := hca k x hx
      obtain ⟨d0, d1, d2⟩ := hcb k x hx
      have i1 : (k : Int) < (xs.length : Int) := by omega
      clear hca hcb hx
      go_wp2_with fail
      go_quiet (fail)
      go_wp2
      go_roundw
      case rel => exact ⟨k + 1, by omega, by go_num, below_drewN hbel _⟩
      case measure => simp [intOf]; omega
    · have i1 : ¬ (k : Int) < (xs.length : Int) := by omega
      go_wp2
      go_ret
      exact ⟨rfl, hbel⟩

set_option maxHeartbeats 2000000 in
set_option maxRecDepth 100000 in
theorem samenums_same (aa ab : Option Addr) (ca cb : Nat) (xs : List Int) (w : World) (hla : xs.length ≤ maxLen) (ha : LisAt w aa (xs.map (.int .i64))) (hb : LisAt w ab (xs.map (.int .i64))) :
    Calls Try.prog 18 #[.slice aa xs.length ca, .slice ab xs.length cb] w fun e w' => e = .returned (.bool true) ∧ Below w.heap.size w w' := by
  unfold maxLen at hla
  go_enter Try.func18, Try.ntmps18
  go_wp2_with fail
  go_loopw [13] (fun i wr => ∃ k : Nat, k ≤ xs.length ∧ i = .int .i64 k ∧ Below w.heap.size w wr) (fun i wx => xs.length - (intOf i).toNat)
  case atStart => exact ⟨0, Nat.zero_le _, rfl, Below.refl _ _⟩
  case round =>
    obtain ⟨k, hk1, rfl, hbel⟩ := hrel
    have ha' := ha.later hbel
    have hb' := hb.later hbel
    by_cases h1 : k < xs.length
    · obtain ⟨x, hx⟩ : ∃ x, xs[k]? = some x := ⟨_, List.getElem?_eq_getElem h1⟩
      obtain ⟨ba, oa, rfl, c0⟩ := ha'.get (k := k) (x := .int .i64 x) (by simp [hx])
      obtain ⟨bb, ob, rfl, d0⟩ := hb'.get (k := k) (x := .int .i64 x) (by simp [hx])
      have i1 : (k : Int) < (xs.length : Int) := by omega
      clear hx
      go_wp2_with fail
      go_quiet (fail)
      go_wp2
      go_roundw
      case rel => exact ⟨k + 1, by omega, by go_num, below_drewN hbel _⟩
      case measure => simp [intOf]; omega
    · have i1 : ¬ (k : Int) < (xs.length : Int) := by omega
      go_wp2
      go_ret
      exact ⟨rfl, hbel⟩

/-- What 'At' answers. -/
def atI (X : Vc) (i : Int) : Val := if 0 ≤ i ∧ i < ((valsV X).length : Int) then (valsV X).getD i.toNat .null else .null
theorem atI_in {X : Vc} {i : Int} (h0 : 0 ≤ i) (h1 : i < ((valsV X).length : Int)) : goodB X = true ∧ i.toNat < X.nl.length ∧ atI X i = atV X i.toNat := by
  cases hg : goodB X
  · rw [vals_none hg] at h1; simp at h1; omega
  · have hl := vals_len hg
    have hi : i.toNat < X.nl.length := by omega
    refine ⟨rfl, hi, ?_⟩
    rw [atI, if_pos ⟨h0, h1⟩, List.getD_eq_getElem?_getD, vals_at hg hi]; rfl

theorem bv_facts {w w' : World} {a b c d : Value} (h : Below ((w.alloc (.cells #[a, b, c, d] 27)).alloc (.cells #[.int .i64 0, .int .i64 0, .string ⟨#[]⟩] 40)).heap.size ((w.alloc (.cells #[a, b, c, d] 27)).alloc (.cells #[.int .i64 0, .int .i64 0, .string ⟨#[]⟩] 40)) w') :
    w'.rowIs w.heap.size 27 4 (box4 a b c d) ∧ w'.rowIs (w.heap.size + 1) 40 3 (box3 Val.null) ∧ Below w.heap.size w w' := by
  refine ⟨rowIs_later ((box4_alloc w a b c d).alloc _) h, ?_, below_step (below_alloc (below_alloc (Below.refl _ _) _) _) h⟩
  have := rowIs_later (box3_alloc (w.alloc (.cells #[a, b, c, d] 27)) Val.null) h
  simpa using this

set_option maxHeartbeats 2000000 in
theorem atpub_any (X : Vc) (p : Sl) (w : World) (i : Int) (hs : small X) (hp : VecAt w X p) :
    Calls Try.prog 15 #[vecV X p, .int .i64 i] w fun e w' => e = .returned (atI X i).v ∧ Below w.heap.size w w' := by
  have HL : Hid (∀ w', Below w.heap.size w w' → Calls Try.prog 14 #[vecV X p] w' fun e w'' => e = .returned (.int .i64 ((valsV X).length : Nat)) ∧ Below w'.heap.size w' w'') := fun w' hb => len_any X p w' hs (hp.later hb)
  by_cases h0 : i < 0
  · have HE : Hid (atI X i = .null) := by show _ = _; rw [atI, if_neg (by omega)]
    generalize atI X i = V at HE ⊢
    rw [vecV_open]
    clear hp
    go_enter Try.func15, Try.ntmps15
    go_wp2
    refine bodyPost_ret (v := Val.null.v) (by simp [results, Try.results15, go_sem, Val.v, Val.null]) rfl ⟨by rw [unhide HE], ?_⟩
    (repeat (first | exact Below.refl _ _ | refine Below.alloc ?_ (by simp <;> omega) _ | refine Below.setCell ?_ (by simp <;> omega) _))
  · by_cases h1 : i < ((valsV X).length : Int)
    · obtain ⟨hg, hi, he⟩ := atI_in (X := X) (by omega) h1
      have HT : Hid (∀ w', Below w.heap.size w w' → Calls Try.prog 38 #[vecV X p, .int .i64 i] w' fun e w'' => e = .returned (atI X i).v ∧ Below w'.heap.size w' w'') := by
        intro w' hb
        have := at_any X p w' hs hg (hp.later hb) i.toNat hi
        rw [he]
        have e : ((i.toNat : Nat) : Int) = i := by omega
        rw [e] at this
        exact this
      generalize atI X i = V at HT ⊢
      generalize (valsV X).length = N at HL h1
      rw [vecV_open]
      clear hp hg hi he
      go_enter Try.func15, Try.ntmps15
      go_wp2_with (first
        | (go_at_call 14; refine (unhide HL _ (below_alloc (below_alloc (Below.refl _ _) _) _)).mono ?_; rintro e w1 ⟨rfl, hb1⟩; obtain ⟨hr1, hv1, hbw⟩ := bv_facts hb1; obtain ⟨r0, r1, r2, r3, _⟩ := box_facts hr1)
        | (go_at_call 38; refine (unhide HT _ hbw).mono ?_; rintro e w2 ⟨rfl, hb2⟩; rw [Val.open_]; obtain ⟨p0, p1, p2, q0, q1, q2⟩ := box3_facts (rowIs_later hv1 hb2)))
      refine bodyPost_ret (v := V.v) (by simp [results, Try.results15, go_sem, Val.v, *]) rfl ⟨rfl, ?_⟩
      exact (((below_step hbw hb2).setCell (by simp) _).setCell (by simp) _).setCell (by simp) _
    · have HE : Hid (atI X i = .null) := by show _ = _; rw [atI, if_neg (by omega)]
      generalize atI X i = V at HE ⊢
      generalize (valsV X).length = N at HL h1
      rw [vecV_open]
      clear hp
      go_enter Try.func15, Try.ntmps15
      go_wp2_with (go_at_call 14; refine (unhide HL _ (below_alloc (below_alloc (Below.refl _ _) _) _)).mono ?_; rintro e w1 ⟨rfl, hb1⟩; obtain ⟨hr1, hv1, hbw⟩ := bv_facts hb1; obtain ⟨p0, p1, p2, q0, q1, q2⟩ := box3_facts hv1)
      refine bodyPost_ret (v := Val.null.v) (by simp [results, Try.results15, go_sem, Val.v, Val.null, *]) rfl ⟨by rw [unhide HE], ?_⟩
      exact ((hbw.setCell (by simp) _).setCell (by simp) _).setCell (by simp) _
end Go.Proofs.Ytifohbapfciniab

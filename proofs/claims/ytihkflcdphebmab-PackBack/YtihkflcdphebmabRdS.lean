import Derived.Test.YtihkflcdphebmabRdR
set_option linter.unusedSimpArgs false
set_option linter.unusedVariables false
namespace Go.Proofs.Ytihkflcdphebmab
open Go.RowKit Go.Sort

/-- A text that is a packed column: what opened answers, wherever. -/
def Opens (s : ByteArray) (sch : Nat) (kind : Int) (xs : List Val) : Prop := ∀ W, Calls Try.prog 54 #[.string s] W fun e w' => ∃ a c, e = .returned (.tuple #[.agg #[.int .i64 (sch : Int), .int .i64 kind, .slice a xs.length c], .int .i64 0]) ∧ RowAt w' a xs ∧ Below W.heap.size W w'
theorem opens_of {s : ByteArray} {sch : Nat} {kind : Int} {xs : List Val} (hl : s.size ≤ 140737488355328) (h : columnD s.data.toList = some (sch, kind, xs)) : Opens s sch kind xs := by
  intro W
  have := opened_yes (w := W) (l := s.data.toList) (by rw [Array.length_toList]; exact hl) h
  rw [bs_back] at this
  refine this.mono ?_
  rintro e w' ⟨v, rfl, ho, hb⟩
  obtain ⟨a, c, rfl, _, _, hr⟩ := ownV_slice ho
  exact ⟨a, c, rfl, hr, hb⟩
set_option maxHeartbeats 400000 in
theorem scheme_any {s : ByteArray} {sch : Nat} {kind : Int} {xs : List Val} (h : Opens s sch kind xs) (w : World) : Calls Try.prog 32 #[.string s] w fun e w' => e = .returned (.int .i64 (sch : Int)) ∧ Below w.heap.size w w' := by
  have H := hide h
  clear h
  go_enter Try.func32, Try.ntmps32
  go_wp2_with (go_at_call 54; refine (unhide H _).mono ?_; rintro e w1 ⟨a, c, rfl, hr1, hb1⟩)
  go_ret
  exact ⟨rfl, below_alloc hb1 _⟩
set_option maxHeartbeats 400000 in
theorem plen_any {s : ByteArray} {sch : Nat} {kind : Int} {xs : List Val} (h : Opens s sch kind xs) (w : World) : Calls Try.prog 49 #[.string s] w fun e w' => e = .returned (.int .i64 (xs.length : Nat)) ∧ Below w.heap.size w w' := by
  have H := hide h
  clear h
  go_enter Try.func49, Try.ntmps49
  go_wp2_with (go_at_call 54; refine (unhide H _).mono ?_; rintro e w1 ⟨a, c, rfl, hr1, hb1⟩)
  go_ret
  exact ⟨rfl, below_alloc hb1 _⟩
set_option maxHeartbeats 400000 in
set_option maxRecDepth 100000 in
theorem pat_any {s : ByteArray} {sch : Nat} {kind : Int} {xs : List Val} (h : Opens s sch kind xs) (hl : xs.length ≤ 4096) {k : Nat} {x : Val} (hx : xs[k]? = some x) (w : World) : Calls Try.prog 51 #[.string s, .int .i64 (k : Int)] w fun e w' => e = .returned (.tuple #[x.v, .int .i64 0]) ∧ Below w.heap.size w w' := by
  have H := hide h
  have hk := (List.getElem?_eq_some_iff.1 hx).1
  have hki : (k : Int) < (xs.length : Int) := by omega
  have HX := hide hx
  have HZ := hide (fun w1 (hb : Below (w.alloc (.cells #[.int .i64 0, .int .i64 0, .string ⟨#[]⟩] 40)).heap.size (w.alloc (.cells #[.int .i64 0, .int .i64 0, .string ⟨#[]⟩] 40)) w1) o => box3_facts (World.rowIs.alloc (rowIs_later (box3_alloc w Val.null) hb) o))
  clear h hx
  go_enter Try.func51, Try.ntmps51
  go_wp2_with (go_at_call 54; refine (unhide H _).mono ?_; rintro e w1 ⟨a, c, rfl, hr1, hb1⟩; obtain ⟨vb, vo, rfl, _, _, _⟩ := hr1.lo (unhide HX); obtain ⟨_, _, e, c0, c1, c2⟩ := (hr1.later (below_alloc (Below.refl _ _) (.cells #[.int .i64 (sch : Int), .int .i64 kind, .slice (some ⟨vb, vo, none⟩) xs.length c] 86))).lo (unhide HX); injection e with e; injection e with e1 e2; subst e1; subst e2; obtain ⟨p0, p1, p2, q0, q1, q2⟩ := unhide HZ w1 hb1 (.cells #[.int .i64 (sch : Int), .int .i64 kind, .slice (some ⟨vb, vo, none⟩) xs.length c] 86))
  refine bodyPost_ret (v := .tuple #[x.v, .int .i64 0]) ?_ rfl ⟨rfl, ?_⟩
  · simp [results, Try.results51, go_sem, Val.v, p0, p1, p2]
  · exact (((below_alloc (below_one hb1) _).setCell (p := ⟨w.heap.size, 0, none⟩) (Nat.le_refl _) _).setCell (p := ⟨w.heap.size, 1, none⟩) (Nat.le_refl _) _).setCell (p := ⟨w.heap.size, 2, none⟩) (Nat.le_refl _) _
set_option maxHeartbeats 400000 in
set_option maxRecDepth 100000 in
theorem pread_any {s : ByteArray} {sch : Nat} {kind : Int} {xs : List Val} (h : Opens s sch kind xs) (hl : xs.length ≤ 4096) {X : Vc} (hf : fromV kind xs = (X, 0)) (w : World) : Calls Try.prog 47 #[.string s] w fun e w' => ∃ p, e = .returned (.tuple #[vecV X p, .int .i64 0]) ∧ VecAt w' X p ∧ Fresh w.heap.size p ∧ Below w.heap.size w w' := by
  have H := hide h
  have HF : Hid (∀ W a c, RowAt W a xs → Calls Try.prog 7 #[.int .i64 kind, .slice a xs.length c] W fun e w' => ∃ p, e = .returned (.tuple #[vecV X p, .int .i64 0]) ∧ VecAt w' X p ∧ Fresh W.heap.size p ∧ Below W.heap.size W w') := fun W a c ha => by
    have := from_any a c kind xs W (by omega) ha
    rw [hf] at this
    exact this
  clear h hf
  go_enter Try.func47, Try.ntmps47
  go_wp2_with (first
    | (go_at_call 54; refine (unhide H _).mono ?_; rintro e w1 ⟨a, c, rfl, hr1, hb1⟩)
    | (go_at_call 7; refine (unhide HF _ _ _ (hr1.later (below_alloc (Below.refl _ _) _))).mono ?_; rintro e w2 ⟨p, rfl, hv2, hfr2, hb2⟩; rw [vecV_open]; obtain ⟨r0, r1, r2, r3, s0, s1, s2, s3⟩ := box_facts (rowIs_later (World.rowIs.alloc (rowIs_later (box4_alloc w (.int .i64 0) (.slice none 0 0) (.slice none 0 0) (.slice none 0 0)) hb1) _) hb2))
    | fail)
  have hB1 := below_one hb1
  have hB2 := below_step (below_alloc hB1 _) hb2
  have hz1 : w.heap.size + 1 ≤ w1.heap.size := by have := hb1.size; simpa using this
  have hfr3 : Fresh (w.heap.size + 1) p := hfr2.less (by simp; omega)
  have hfr4 : Fresh w.heap.size p := hfr3.less (by omega)
  refine bodyPost_ret (v := .tuple #[vecV X p, .int .i64 0]) ?_ rfl ⟨p, rfl, ?_, hfr4, ?_⟩
  · simp [results, Try.results47, go_sem, vecV, r0, r1, r2, r3]
  · exact ⟨(((hv2.1.setO hfr3.1 _ (by simp) _).setO hfr3.1 _ (by simp) _).setO hfr3.1 _ (by simp) _).setO hfr3.1 _ (by simp) _, (((hv2.2.1.setO hfr3.2.1 _ (by simp) _).setO hfr3.2.1 _ (by simp) _).setO hfr3.2.1 _ (by simp) _).setO hfr3.2.1 _ (by simp) _, (((hv2.2.2.setO hfr3.2.2 _ (by simp) _).setO hfr3.2.2 _ (by simp) _).setO hfr3.2.2 _ (by simp) _).setO hfr3.2.2 _ (by simp) _⟩
  · exact (((hB2.setCell (p := ⟨w.heap.size, 0, none⟩) (Nat.le_refl _) _).setCell (p := ⟨w.heap.size, 1, none⟩) (Nat.le_refl _) _).setCell (p := ⟨w.heap.size, 2, none⟩) (Nat.le_refl _) _).setCell (p := ⟨w.heap.size, 3, none⟩) (Nat.le_refl _) _
end Go.Proofs.Ytihkflcdphebmab

import Derived.Test.YtihkflcdphebmabPackX
set_option linter.unusedSimpArgs false
set_option linter.unusedVariables false
namespace Go.Proofs.Ytihkflcdphebmab
open Go.RowKit Go.Sort

theorem good_kind {X : Vc} (h : goodB X = true) : X.k = 1 ∨ X.k = 2 := by
  unfold goodB at h
  split at h
  · rename_i h1; exact .inl (by simpa using h1)
  · split at h
    · rename_i h1; exact .inr (by simpa using h1)
    · cases h
theorem vals_kind {X : Vc} (hg : goodB X = true) {x : Val} (hx : x ∈ valsV X) : x = .null ∨ (X.k = 1 ∧ ∃ n, (n ∈ X.ns ∨ n = 0) ∧ x = .num n) ∨ (X.k = 2 ∧ ∃ s, s.size ≤ 1000 ∧ x = .str s) := by
  obtain ⟨i, hi, rfl⟩ := List.getElem_of_mem hx
  have hi2 : i < X.nl.length := by rw [vals_len hg] at hi; exact hi
  have e := vals_at hg hi2
  rw [List.getElem?_eq_getElem hi] at e
  injection e with e
  rw [e]
  unfold atV
  split
  · exact .inl rfl
  · rcases good_kind hg with h | h
    · right; left
      refine ⟨h, X.ns.getD i 0, ?_, by simp [h]⟩
      rw [List.getD_eq_getElem?_getD]
      cases he : X.ns[i]? with
      | none => right; rfl
      | some n => left; exact List.mem_of_getElem? he
    · right; right
      refine ⟨h, X.ss.getD i ⟨#[]⟩, ?_, by simp [h]⟩
      rw [List.getD_eq_getElem?_getD]
      cases he : X.ss[i]? with
      | none => show (0 : Nat) ≤ 1000; omega
      | some s =>
        have hm := List.mem_of_getElem? he
        unfold goodB at hg
        rw [h] at hg
        have h2 : X.ss.any largeB = false := by
          cases h3 : X.ss.any largeB
          · rfl
          · simp [h3] at hg
        rw [List.any_eq_false] at h2
        have := h2 s hm
        simp [largeB] at this
        show s.size ≤ 1000
        omega
theorem vals_size {X : Vc} (hg : goodB X = true) {x : Val} (hx : x ∈ valsV X) : x.s.size ≤ 1000 := by
  rcases vals_kind hg hx with rfl | ⟨_, n, _, rfl⟩ | ⟨_, s, hs, rfl⟩
  · show (0 : Nat) ≤ 1000; omega
  · show (0 : Nat) ≤ 1000; omega
  · exact hs
theorem vals_clean {X : Vc} (hg : goodB X = true) {x : Val} (hx : x ∈ valsV X) : cleanV x = x := by
  rcases vals_kind hg hx with rfl | ⟨_, n, _, rfl⟩ | ⟨_, s, hs, rfl⟩ <;> rfl
def badW (X : Vc) (sch : Int) : Bool := !goodB X || decide (sch < 1) || decide (4 < sch) || (sch == 4 && X.k == 2)
/-- What the program's Write answers. -/
def PW (X : Vc) (sch : Int) (s : ByteArray) (f : Int) : Prop :=
  (badW X sch = true ∧ s = ⟨#[]⟩ ∧ f = 1) ∨ (badW X sch = false ∧ 4096 < X.nl.length ∧ s = ⟨#[]⟩ ∧ f = 3) ∨
  (badW X sch = false ∧ X.nl.length ≤ 4096 ∧ f = 0 ∧ ∃ b, BodyB sch.toNat (standL (valsV X)) b ∧ s = toB (headB sch.toNat X.k.toNat (valsV X) ++ b))
/-- A column in a box. -/
def Box4 (w : World) (b : Nat) (X : Vc) (p : Sl) : Prop := w.cell? ⟨b, 0, none⟩ = some (.int .i64 X.k) ∧ w.cell? ⟨b, 1, none⟩ = some (.slice p.a1 X.nl.length p.c1) ∧ w.cell? ⟨b, 2, none⟩ = some (.slice p.a2 X.ns.length p.c2) ∧ w.cell? ⟨b, 3, none⟩ = some (.slice p.a3 X.ss.length p.c3)
theorem Box4.later {w w' : World} {b : Nat} {X : Vc} {p : Sl} (h : Box4 w b X p) (hb : Below w.heap.size w w') : Box4 w' b X p := ⟨cell_later hb h.1, cell_later hb h.2.1, cell_later hb h.2.2.1, cell_later hb h.2.2.2⟩

set_option maxHeartbeats 4000000 in
set_option maxRecDepth 100000 in
theorem pwrite_bad (X : Vc) (p : Sl) (sch : Int) (w : World) (hs : small X) (hp : VecAt w X p) (hbad : badW X sch = true) :
    Calls Try.prog 29 #[vecV X p, .int .i64 sch] w fun e w' => e = .returned (.tuple #[.string ⟨#[]⟩, .int .i64 1]) ∧ Below w.heap.size w w' := by
  rw [vecV_open]
  have bl := below_alloc (Below.refl _ w) (.cells #[.int .i64 X.k, .slice p.a1 X.nl.length p.c1, .slice p.a2 X.ns.length p.c2, .slice p.a3 X.ss.length p.c3] 27)
  have HG := hide (good_any X p _ hs (hp.later bl))
  rw [vecV_open] at HG
  cases hg : goodB X
  · rw [hg] at HG
    clear hbad hg
    go_enter Try.func29, Try.ntmps29
    go_wp2_with (go_at_call 14; refine (unhide HG).mono ?_; rintro e w1 ⟨rfl, hb1⟩; obtain ⟨hc1, _⟩ := bcell hb1)
    refine bodyPost_ret (v := .tuple #[.string ⟨#[]⟩, .int .i64 1]) (by simp [results, Try.results29, go_sem]) rfl ⟨rfl, below_step bl hb1⟩
  · rw [hg] at HG
    simp only [badW, hg, Bool.not_true, Bool.false_or, Bool.or_eq_true, decide_eq_true_eq, Bool.and_eq_true, beq_iff_eq] at hbad
    have FACT : Hid (∀ w1, Below (w.alloc (.cells #[.int .i64 X.k, .slice p.a1 X.nl.length p.c1, .slice p.a2 X.ns.length p.c2, .slice p.a3 X.ss.length p.c3] 27)).heap.size (w.alloc (.cells #[.int .i64 X.k, .slice p.a1 X.nl.length p.c1, .slice p.a2 X.ns.length p.c2, .slice p.a3 X.ss.length p.c3] 27)) w1 → w1.cell? ⟨w.heap.size, 0, none⟩ = some (.int .i64 X.k) ∧ Hid (Below w.heap.size w w1)) := fun w1 hb1 => by
      obtain ⟨hc1, _⟩ := bcell hb1
      refine ⟨?_, below_step bl hb1⟩
      rw [hc1 _ _ (by simp)]; simp [go_sem]
    clear hg bl
    rcases hbad with (h | h) | ⟨h1, h2⟩
    · go_enter Try.func29, Try.ntmps29
      go_wp2_with (go_at_call 14; refine (unhide HG).mono ?_; rintro e w1 ⟨rfl, hb1⟩; obtain ⟨c0, hbb⟩ := unhide FACT _ hb1; clear hb1)
      refine bodyPost_ret (v := .tuple #[.string ⟨#[]⟩, .int .i64 1]) (by simp [results, Try.results29, go_sem]) rfl ⟨rfl, unhide hbb⟩
    · have h3 : ¬ sch < 1 := by omega
      go_enter Try.func29, Try.ntmps29
      go_wp2_with (go_at_call 14; refine (unhide HG).mono ?_; rintro e w1 ⟨rfl, hb1⟩; obtain ⟨c0, hbb⟩ := unhide FACT _ hb1; clear hb1)
      refine bodyPost_ret (v := .tuple #[.string ⟨#[]⟩, .int .i64 1]) (by simp [results, Try.results29, go_sem]) rfl ⟨rfl, unhide hbb⟩
    · subst h1
      rw [h2] at FACT HG
      rw [h2]
      clear h2
      go_enter Try.func29, Try.ntmps29
      go_wp2_with (go_at_call 14; refine (unhide HG).mono ?_; rintro e w1 ⟨rfl, hb1⟩; obtain ⟨c0, hbb⟩ := unhide FACT _ hb1; clear hb1)
      refine bodyPost_ret (v := .tuple #[.string ⟨#[]⟩, .int .i64 1]) (by simp [results, Try.results29, go_sem]) rfl ⟨rfl, unhide hbb⟩

set_option maxHeartbeats 4000000 in
set_option maxRecDepth 100000 in
theorem pwrite_large (X : Vc) (p : Sl) (sch : Int) (w : World) (hs : small X) (hp : VecAt w X p) (hbad : badW X sch = false) (hbig : 4096 < X.nl.length) :
    Calls Try.prog 29 #[vecV X p, .int .i64 sch] w fun e w' => e = .returned (.tuple #[.string ⟨#[]⟩, .int .i64 3]) ∧ Below w.heap.size w w' := by
  rw [vecV_open]
  have bl := below_alloc (Below.refl _ w) (.cells #[.int .i64 X.k, .slice p.a1 X.nl.length p.c1, .slice p.a2 X.ns.length p.c2, .slice p.a3 X.ss.length p.c3] 27)
  have HG := hide (good_any X p _ hs (hp.later bl))
  rw [vecV_open] at HG
  simp only [badW, Bool.or_eq_false_iff, Bool.not_eq_false', decide_eq_false_iff_not] at hbad
  obtain ⟨⟨⟨hg, h1⟩, h2⟩, h3⟩ := hbad
  rw [hg] at HG
  have i1 : (4096 : Int) < (X.nl.length : Int) := by omega
  have FACT : Hid (∀ w1, Below (w.alloc (.cells #[.int .i64 X.k, .slice p.a1 X.nl.length p.c1, .slice p.a2 X.ns.length p.c2, .slice p.a3 X.ss.length p.c3] 27)).heap.size (w.alloc (.cells #[.int .i64 X.k, .slice p.a1 X.nl.length p.c1, .slice p.a2 X.ns.length p.c2, .slice p.a3 X.ss.length p.c3] 27)) w1 → w1.cell? ⟨w.heap.size, 0, none⟩ = some (.int .i64 X.k) ∧ w1.cell? ⟨w.heap.size, 1, none⟩ = some (.slice p.a1 X.nl.length p.c1) ∧ Hid (Below w.heap.size w w1)) := fun w1 hb1 => by
    obtain ⟨hc1, _⟩ := bcell hb1
    refine ⟨?_, ?_, below_step bl hb1⟩ <;> (rw [hc1 _ _ (by simp)]; simp [go_sem])
  clear hg bl
  rcases Bool.eq_false_or_eq_true (sch == 4) with e4 | e4
  · have e2 : (X.k == 2) = false := by simpa [e4] using h3
    clear h3
    go_enter Try.func29, Try.ntmps29
    go_wp2_with (go_at_call 14; refine (unhide HG).mono ?_; rintro e w1 ⟨rfl, hb1⟩; obtain ⟨c0, c1, hbb⟩ := unhide FACT _ hb1; clear hb1)
    refine bodyPost_ret (v := .tuple #[.string ⟨#[]⟩, .int .i64 3]) (by simp [results, Try.results29, go_sem]) rfl ⟨rfl, unhide hbb⟩
  · clear h3
    go_enter Try.func29, Try.ntmps29
    go_wp2_with (go_at_call 14; refine (unhide HG).mono ?_; rintro e w1 ⟨rfl, hb1⟩; obtain ⟨c0, c1, hbb⟩ := unhide FACT _ hb1; clear hb1)
    refine bodyPost_ret (v := .tuple #[.string ⟨#[]⟩, .int .i64 3]) (by simp [results, Try.results29, go_sem]) rfl ⟨rfl, unhide hbb⟩
end Go.Proofs.Ytihkflcdphebmab

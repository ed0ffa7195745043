import Derived.Test.YtgmfbjehdcdioaaOhB
set_option linter.unusedSimpArgs false
set_option linter.unusedVariables false
set_option maxRecDepth 100000
namespace Go.Proofs.Ytgmfbjehdcdioaa
open Go.RowKit Go.Sort

/-- A sketch, and the counts of what has come to it. -/
structure Lw (w : World) (b k nb : Nat) (F : Ft) (LN xs : List (Vk × Nat)) : Prop where
  sk : SkO w b k F xs
  mp : MpN w nb LN
  ct : CtsOf LN xs
theorem Lw.later {w w' : World} {b k nb : Nat} {F : Ft} {LN xs : List (Vk × Nat)} (h : Lw w b k nb F LN xs) (hb : Below w.heap.size w w') : Lw w' b k nb F LN xs :=
  ⟨⟨h.sk.1.later hb, h.sk.2⟩, h.mp.later hb, h.ct⟩
/-- What told has captured. -/
structure TdB (w : World) (ob cb wb b nb wd : Nat) : Prop where
  o : w.cell? ⟨ob, 0, none⟩ = some (.pointer (some ⟨b, 0, none⟩))
  m : w.cell? ⟨cb, 0, none⟩ = some (.map (some nb))
  w : w.cell? ⟨wb, 0, none⟩ = some (.int .i64 wd)
theorem TdB.later {w w' : World} {ob cb wb b nb wd : Nat} (h : TdB w ob cb wb b nb wd) (hb : Below w.heap.size w w') : TdB w' ob cb wb b nb wd := ⟨cell_later hb h.o, cell_later hb h.m, cell_later hb h.w⟩

theorem Loose.of_le' {α : Type} [DecidableEq α] {k fl : Nat} {cs : List (Ct α)} {xs : List (α × Nat)} (h : Loose k fl cs xs) (v : α) : loOf cs v ≤ tot xs ∧ hiOf fl cs v ≤ tot xs := by
  refine ⟨Nat.le_trans (h.of v).2.2.1 (cnt_le xs v), ?_⟩
  unfold hiOf
  cases hf : cs.find? (fun c => decide (c.v = v)) with
  | none => exact h.fl_le
  | some c => exact (h.hi_le (List.mem_of_find?_eq_some hf)).1
theorem Lw.tell {w : World} {b k nb : Nat} {F : Ft} {LN xs : List (Vk × Nat)} (h : Lw w b k nb F LN xs) (x : Vk) : ∃ lo hi : Nat, (∀ W, Below w.heap.size w W → Calls Try.prog 27 #[.pointer (some ⟨b, 0, none⟩), .agg #[.int .i64 x.k, .int .i64 x.n, .string x.s]] W fun e w' => e = .returned (.tuple #[.int .i64 lo, .int .i64 hi]) ∧ Below W.heap.size W w') ∧
    lo ≤ valN LN (cleanK x) ∧ valN LN (cleanK x) ≤ hi ∧ hi ≤ lo + tot xs / (k + 1) ∧ hi ≤ 4611686018427387904 ∧ (∃ fl L, Of w b k (tot xs) fl F.mb F.S F.n F.E L ∧ Loose k fl (cts F.E F.n) xs ∧ F.n ≤ k ∧ lo = loOf (cts F.E F.n) (cleanK x) ∧ hi = hiOf fl (cts F.E F.n) (cleanK x)) := by
  obtain ⟨⟨⟨fl, L, hO, hL, hn⟩, ht⟩, _, hc⟩ := h
  refine ⟨loOf (cts F.E F.n) (cleanK x), hiOf fl (cts F.E F.n) (cleanK x), fun W hW => ?_, ?_, ?_, ?_, ?_, fl, L, hO, hL, hn, rfl, rfl⟩
  · refine (tell_any (hO.later hW) x).mono ?_
    rintro e w' ⟨r1, r2⟩
    exact ⟨loose_tell hL r1, r2⟩
  · rw [hc.2]; exact (hL.of _).2.2.1
  · rw [hc.2]; exact (hL.of _).2.2.2
  · have h1 := (hL.of (cleanK x)).2.1
    have h2 := hL.floor
    omega
  · have := (hL.of_le' (cleanK x)).2
    omega

set_option maxHeartbeats 2000000 in
theorem told_any {w : World} {b k nb ob cb wb wd : Nat} {F : Ft} {LN xs : List (Vk × Nat)} (h : Lw w b k nb F LN xs) (hb : TdB w ob cb wb b nb wd) (hwd : wd = tot xs / (k + 1)) (x : Vk) :
    Calls Try.prog 26 #[x.v, .pointer (some ⟨ob, 0, none⟩), .pointer (some ⟨cb, 0, none⟩), .pointer (some ⟨wb, 0, none⟩)] w fun e w' => e = .returned (.bool true) ∧ Below w.heap.size w w' := by
  obtain ⟨lo, hi, hT, h1, h2, h3, h4, _⟩ := h.tell x
  obtain ⟨W1, hW1⟩ : ∃ W1, w.alloc (.cells #[.int .i64 x.k, .int .i64 x.n, .string x.s] 34) = W1 := ⟨_, rfl⟩
  have hB1 : Below w.heap.size w W1 := by rw [← hW1]; exact below_alloc (Below.refl _ _) _
  have v0 : W1.cell? ⟨w.heap.size, 0, none⟩ = some (.int .i64 x.k) := by rw [← hW1]; simp [go_sem]
  have v1 : W1.cell? ⟨w.heap.size, 1, none⟩ = some (.int .i64 x.n) := by rw [← hW1]; simp [go_sem]
  have v2 : W1.cell? ⟨w.heap.size, 2, none⟩ = some (.string x.s) := by rw [← hW1]; simp [go_sem]
  have hb1 := hb.later hB1
  obtain ⟨o1, m1, w1⟩ := hb1
  have HT := hide (hT W1 hB1)
  have HW2 : Hid (∀ w2, Below W1.heap.size W1 w2 → TdB w2 ob cb wb b nb wd ∧ (w2.cell? ⟨w.heap.size, 0, none⟩ = some (.int .i64 x.k) ∧ w2.cell? ⟨w.heap.size, 1, none⟩ = some (.int .i64 x.n) ∧ w2.cell? ⟨w.heap.size, 2, none⟩ = some (.string x.s)) ∧ Below w.heap.size w w2 ∧ MpN w2 nb LN) := fun w2 h2 =>
    ⟨(hb.later hB1).later h2, ⟨cell_later h2 v0, cell_later h2 v1, cell_later h2 v2⟩, below_step hB1 h2, (h.later (below_step hB1 h2)).mp⟩
  have HCL : Hid (∀ W, Calls Try.prog 9 #[.agg #[.int .i64 x.k, .int .i64 x.n, .string x.s]] W fun e w' => e = .returned (cleanK x).v ∧ Below W.heap.size W w') := fun W => clean_any x W
  have HLK : Hid (∀ W, MpN W nb LN → (Instr.lookup 25 (.map (some nb)) (cleanK x).v false).run Try.prog W = .ok (.int .i64 (valN LN (cleanK x))) W) := fun W hW => lookN map25 hW (cleanK x)
  obtain ⟨c, hc⟩ : ∃ c, valN LN (cleanK x) = c := ⟨_, rfl⟩
  obtain ⟨cv, hcv⟩ : ∃ cv, (cleanK x).v = cv := ⟨_, rfl⟩
  rw [hc] at h1 h2 HLK
  rw [hcv] at HCL HLK
  rw [← hwd] at h3
  have i0 : (0 : Int) ≤ (lo : Int) := by omega
  have i1 : (lo : Int) ≤ (c : Int) := by omega
  have i2 : (c : Int) ≤ (hi : Int) := by omega
  have i3 : (hi : Int) - (lo : Int) ≤ (wd : Int) := by omega
  have i4 : (hi : Int) ≤ 4611686018427387904 := by omega
  clear h hb hT hB1 h1 h2 h3 h4 hwd hc hcv
  rw [x.open_]
  go_enter Try.func26, Try.ntmps26
  go_upto_region 2 with (go_at_call 27; refine (unhide HT).mono ?_; rintro _ w2 ⟨rfl, hb2⟩; clear v0 v1 v2 o1 m1 w1; obtain ⟨⟨o1, m1, w1⟩, ⟨v0, v1, v2⟩, hB2, hM2⟩ := unhide HW2 w2 hb2; clear hb2; replace hB2 := hide hB2; replace hM2 := hide hM2)
  go_cut [8] (fun s8 wc => s8 = .int .i64 (c : Int) ∧ Hid (Below w2.heap.size w2 wc))
  case first =>
    have k0 := cell_regrown v0
    have k1 := cell_regrown v1
    have k2 := cell_regrown v2
    have k3 := cell_regrown m1
    have k4 : ∀ d os, (Instr.lookup 25 (.map (some nb)) cv false).run Try.prog (grow (redrawn w2 d) os) = .ok (.int .i64 (c : Int)) (grow (redrawn w2 d) os) := fun d os => unhide HLK _ ((unhide hM2).later (below_regrown _ _ _))
    refine wp_region_quiet_below (by kernel_rfl) (by kernel_rfl) ?_
    repeat (go_big_quiet_step (first | (go_at_call 9; exact Calls.regrown_of (unhide HCL _))))
    refine wpQuiet_nil ?_
    intro w' hw'
    have HB : Hid (Below w2.heap.size w2 w') := by obtain ⟨p, rfl⟩ := hw'; exact below_regrown _ _ _
    clear hw' k0 k1 k2 k3 k4
    go_wp2
    go_meet
    exact ⟨rfl, HB⟩
  case rest =>
  obtain ⟨rfl, HB⟩ := hcut
  have w3 := cell_later (unhide HB) w1
  have HF := hide (below_step (unhide hB2) (unhide HB))
  clear v0 v1 v2 o1 m1 w1
  by_cases hc0 : c = 0
  · subst hc0
    obtain rfl : lo = 0 := by omega
    go_wp2
    go_ret
    exact ⟨rfl, unhide HF⟩
  · have i5 : (0 : Int) < (c : Int) := by omega
    have i6 : 0 < c := by omega
    go_wp2
    go_ret
    exact ⟨rfl, unhide HF⟩
end Go.Proofs.Ytgmfbjehdcdioaa

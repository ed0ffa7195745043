import Derived.Test.YtfnacpkodfhfoacFoE
set_option linter.unusedSimpArgs false
set_option linter.unusedVariables false
namespace Go.Proofs.Ytfnacpkodfhfoac
open Go.RowKit Go.Sort

theorem exk_lo {lo : Nat} {w : World} {b off i : Nat} {l : List Ex} {x : Ex} (hK : ExK lo w (some ⟨b, off, none⟩) l) (hx : l[i]? = some x) : lo ≤ b := by
  by_cases h : lo ≤ b
  · exact h
  · exfalso
    have hlt : b < lo := by omega
    obtain ⟨b', off', e', h1⟩ := Ex.all_get (hK w (Kept.refl _ _ _)) hx
    injection e' with e'
    injection e' with e1 e2
    subst e1 e2
    obtain ⟨a1, c1, ⟨d0, _⟩, _⟩ := Ex.at_open h1
    obtain ⟨b', off', e', h2⟩ := Ex.all_get (hK (w.setCell ⟨b, off + i * 6, none⟩ (.bool true)) (Kept.of_low _ _ _ _ hlt)) hx
    injection e' with e'
    injection e' with e1 e2
    subst e1 e2
    obtain ⟨a2, c2, ⟨q0, _⟩, _⟩ := Ex.at_open h2
    have h3 : (w.setCell ⟨b, off + i * 6, none⟩ (.bool true)).cell? ⟨b, off + i * 6, none⟩ = some (.bool true) := by simp [go_sem, d0]
    rw [h3] at q0
    cases q0
/-- A part of what lies in the blocks from lo on lies there too. -/
theorem exk_child {lo : Nat} {w : World} {b off i n c' : Nat} {l : List Ex} {x : Ex} {a' : Option Addr} (hK : ExK lo w (some ⟨b, off, none⟩) l) (hx : l[i]? = some x) (hc : w.cell? ⟨b, off + i * 6 + 5, none⟩ = some (.slice a' n c')) : ExK lo w a' x.args := by
  have hlo := exk_lo hK hx
  intro W' hW
  obtain ⟨b', off', e', h1⟩ := Ex.all_get (hK W' hW) hx
  injection e' with e'
  injection e' with e1 e2
  subst e1 e2
  obtain ⟨a1, c1, ⟨_, _, _, _, _, d5⟩, h2⟩ := Ex.at_open h1
  have h3 := Kept.cell hc hW hlo (by simp)
  rw [h3] at d5
  injection d5 with d5
  injection d5 with d5
  rw [d5]
  exact h2
set_option maxHeartbeats 1000000 in
set_option maxRecDepth 100000 in
theorem simp_same (e : Ex) (hf : e.fin) (hc : e.args.any notConst = true ∨ e.args = []) (h19 : ¬ e.op = 19) (h20 : ¬ e.op = 20) (h21 : ¬ e.op = 21) (a : Option Addr) (c : Nat) (lo : Nat) (w : World) (hK : ExK lo w a e.args) : Calls Try.prog 36 #[e.val a c] w (SimpOk e lo w) := by
  have hse : simpE e = e := by
    have e19 : (e.op == 19) = false := by simpa using h19
    have e20 : (e.op == 20) = false := by simpa using h20
    have e21 : (e.op == 21) = false := by simpa using h21
    unfold simpE
    rw [e19, e20, e21]
    rcases hc with hc | hc
    · rw [hc]; simp
    · rw [hc]; simp
  obtain ⟨⟨hlen, _, _, _⟩, hfl⟩ := Ex.fin_open hf
  have ha := hK.now
  have HC := hide (fun (W : World) (hW : Below w.heap.size w W) => containsE_any (.func (.func 51) #[] #[]) notConst a c e.args W hlen hfl (Ex.all_later _ ha hW) (test_const W))
  have HV := hide hse
  have HK := hide hK
  have HB0 : Hid (Below w.heap.size w ((w.alloc (.cells #[.int .i64 e.op, .int .i64 e.n, .int .i64 e.v.k, .int .i64 e.v.n, .string e.v.s, .slice a e.args.length c] 26)).alloc (.cells #[.int .i64 0, .int .i64 0, .int .i64 0, .int .i64 0, .string ⟨#[]⟩, .slice none 0 0] 26))) := below_alloc (below_alloc (Below.refl _ w) _) _
  have H6 : Hid (Six ((w.alloc (.cells #[.int .i64 e.op, .int .i64 e.n, .int .i64 e.v.k, .int .i64 e.v.n, .string e.v.s, .slice a e.args.length c] 26)).alloc (.cells #[.int .i64 0, .int .i64 0, .int .i64 0, .int .i64 0, .string ⟨#[]⟩, .slice none 0 0] 26)) w.heap.size e a c) := (Six.new w e a c).later (below_alloc (Below.refl _ _) _)
  have HZ : Hid (Box6 ((w.alloc (.cells #[.int .i64 e.op, .int .i64 e.n, .int .i64 e.v.k, .int .i64 e.v.n, .string e.v.s, .slice a e.args.length c] 26)).alloc (.cells #[.int .i64 0, .int .i64 0, .int .i64 0, .int .i64 0, .string ⟨#[]⟩, .slice none 0 0] 26)) (w.heap.size + 1) zeroE none 0) := by
    have h := Box6.new (w.alloc (.cells #[.int .i64 e.op, .int .i64 e.n, .int .i64 e.v.k, .int .i64 e.v.n, .string e.v.s, .slice a e.args.length c] 26)) zeroE none 0
    rw [show (w.alloc (.cells #[.int .i64 e.op, .int .i64 e.n, .int .i64 e.v.k, .int .i64 e.v.n, .string e.v.s, .slice a e.args.length c] 26)).heap.size = w.heap.size + 1 by simp [go_sem]] at h
    exact h
  rcases hc with hc | hc
  · have hl2 : (0 : Int) < (e.args.length : Int) := by
      cases h : e.args with
      | nil => rw [h] at hc; cases hc
      | cons x l => simp
    rw [hc] at HC
    rw [Ex.val_open]
    clear ha hc hse hK
    go_enter Try.func36, Try.ntmps36
    go_wp2_with (go_at_call 25; refine (unhide HC _ (unhide HB0)).mono ?_; rintro r w1 ⟨rfl, hb1⟩; have hB1 := below_step (unhide HB0) hb1; obtain ⟨b0, b1, b2, b3, b4, b5⟩ := (unhide H6).later hb1; obtain ⟨⟨z0, z1, z2, z3, z4, z5⟩, f0, f1, f2, f3, f4, f5⟩ := (unhide HZ).later hb1)
    have hE := put6 hB1 (B := w.heap.size + 1) (by omega) (.int .i64 e.op) (.int .i64 e.n) (.int .i64 e.v.k) (.int .i64 e.v.n) (.string e.v.s) (.slice a e.args.length c)
    refine bodyPost_ret (v := e.val a c) (by simp [results, Try.results36, go_sem, Ex.val, *]) rfl ⟨a, c, by rw [unhide HV], by rw [unhide HV]; exact (unhide HK).on (Kept.of_below _ _ hE), hE⟩
  · have hl0 : e.args.length = 0 := by rw [hc]; rfl
    rw [Ex.val_open, hl0]
    rw [hl0] at HB0 H6 HZ
    clear ha hc hse hK HC
    go_enter Try.func36, Try.ntmps36
    go_wp2
    refine bodyPost_ret (v := e.val a c) (by simp [results, Try.results36, go_sem, Ex.val, *]) rfl ⟨a, c, by rw [unhide HV], by rw [unhide HV]; exact (unhide HK).on (Kept.of_below _ _ (below_alloc (below_alloc (Below.refl _ w) _) _)), below_alloc (below_alloc (Below.refl _ w) _) _⟩
end Go.Proofs.Ytfnacpkodfhfoac

import Derived.Test.YtfnacpkodfhfoacFoC
import Derived.Test.YtfnacpkodfhfoacFoD
set_option linter.unusedSimpArgs false
set_option linter.unusedVariables false
namespace Go.Proofs.Ytfnacpkodfhfoac
open Go.RowKit Go.Sort

theorem ent51 : Enters 51 := fun args w => by kernel_rfl
theorem ent53 : Enters 53 := fun args w => by kernel_rfl
theorem ent54 : Enters 54 := fun args w => by kernel_rfl
theorem test_const (W : World) : TestE W (.func (.func 51) #[] #[]) notConst := ⟨51, #[], rfl, ent51, fun x a c W' _ _ _ => by simpa using notconst_any x a c W'⟩
theorem test_zero (W : World) : TestE W (.func (.func 53) #[] #[]) isZeroE := ⟨53, #[], rfl, ent53, fun x a c W' _ _ _ => by simpa using iszero_any x a c W'⟩
theorem test_true (W : World) : TestE W (.func (.func 54) #[] #[]) isTrueE := ⟨54, #[], rfl, ent54, fun x a c W' _ _ _ => by simpa using istrue_any x a c W'⟩
/-- What simpler answers. -/
def SimpOk (e : Ex) (lo : Nat) (w : World) (r : Ending) (w' : World) : Prop := ∃ a2 c2, r = .returned ((simpE e).val a2 c2) ∧ ExK lo w' a2 (simpE e).args ∧ Below w.heap.size w w'
theorem exk_nil (lo : Nat) (w : World) (a : Option Addr) : ExK lo w a [] := fun _ _ => by rw [Ex.all]; trivial
set_option maxHeartbeats 1000000 in
set_option maxRecDepth 100000 in
theorem simp_all (e : Ex) (hg : goodE e) (hf : e.fin) (hl : 0 < e.args.length) (hc : e.args.any notConst = false) (a : Option Addr) (c : Nat) (lo : Nat) (w : World) (ha : Ex.all w a e.args) : Calls Try.prog 36 #[e.val a c] w (SimpOk e lo w) := by
  have hse : simpE e = conE (evalE [] e) := by unfold simpE; rw [hc]; simp [hl]
  obtain ⟨⟨hlen, _, _, _⟩, hfl⟩ := Ex.fin_open hf
  have HC := hide (fun (W : World) (hW : Below w.heap.size w W) => containsE_any (.func (.func 51) #[] #[]) notConst a c e.args W hlen hfl (Ex.all_later _ ha hW) (test_const W))
  have HR := hide (fun (W : World) (hW : Below w.heap.size w W) => ready_all e.size e (Nat.le_refl _) hf hg a c W (Ex.all_later _ ha hW))
  have HK := hide (fun W => constant_any (evalE [] e) W)
  have HV := hide hse
  rw [hc] at HC
  have hl2 : (0 : Int) < (e.args.length : Int) := by omega
  have HB0 : Hid (Below w.heap.size w ((w.alloc (.cells #[.int .i64 e.op, .int .i64 e.n, .int .i64 e.v.k, .int .i64 e.v.n, .string e.v.s, .slice a e.args.length c] 26)).alloc (.cells #[.int .i64 0, .int .i64 0, .int .i64 0, .int .i64 0, .string ⟨#[]⟩, .slice none 0 0] 26))) := below_alloc (below_alloc (Below.refl _ w) _) _
  have H6 : Hid (Six ((w.alloc (.cells #[.int .i64 e.op, .int .i64 e.n, .int .i64 e.v.k, .int .i64 e.v.n, .string e.v.s, .slice a e.args.length c] 26)).alloc (.cells #[.int .i64 0, .int .i64 0, .int .i64 0, .int .i64 0, .string ⟨#[]⟩, .slice none 0 0] 26)) w.heap.size e a c) := (Six.new w e a c).later (below_alloc (Below.refl _ _) _)
  have HZ : Hid (Box6 ((w.alloc (.cells #[.int .i64 e.op, .int .i64 e.n, .int .i64 e.v.k, .int .i64 e.v.n, .string e.v.s, .slice a e.args.length c] 26)).alloc (.cells #[.int .i64 0, .int .i64 0, .int .i64 0, .int .i64 0, .string ⟨#[]⟩, .slice none 0 0] 26)) (w.heap.size + 1) zeroE none 0) := by
    have h := Box6.new (w.alloc (.cells #[.int .i64 e.op, .int .i64 e.n, .int .i64 e.v.k, .int .i64 e.v.n, .string e.v.s, .slice a e.args.length c] 26)) zeroE none 0
    rw [show (w.alloc (.cells #[.int .i64 e.op, .int .i64 e.n, .int .i64 e.v.k, .int .i64 e.v.n, .string e.v.s, .slice a e.args.length c] 26)).heap.size = w.heap.size + 1 by simp [go_sem]] at h
    exact h
  rw [Ex.val_open] at HR ⊢
  clear ha hc hse
  go_enter Try.func36, Try.ntmps36
  go_wp2_with (first
    | (go_at_call 25; refine (unhide HC _ (unhide HB0)).mono ?_; rintro r w1 ⟨rfl, hb1⟩; have hB1 := below_step (unhide HB0) hb1; obtain ⟨b0, b1, b2, b3, b4, b5⟩ := (unhide H6).later hb1)
    | (go_at_call 52; refine (unhide HR _ hB1).mono ?_; rintro r w2 ⟨F, rfl, hF, hb2⟩; obtain ⟨n4, k4, rfl, e4, H4⟩ := hF; unfold Enters at e4; have HC4 := hide (H4 w2 none 0 [] (Kept.refl _ _ _) (.inl rfl) (by simp) (by simp)); clear H4)
    | (go_at_call 34; refine (unhide HK w3).mono ?_; rintro r w4 ⟨rfl, hb4⟩; rw [Ex.val_open]; obtain ⟨⟨z0, z1, z2, z3, z4, z5⟩, f0, f1, f2, f3, f4, f5⟩ := (unhide HZ).later (below_step (below_step (below_step hb1 hb2) hb3) hb4))
    | (refine (unhide HC4).mono ?_; rintro r w3 ⟨rfl, hb3⟩))
  refine bodyPost_ret (v := (conE (evalE [] e)).val none 0) (by simp [results, Try.results36, go_sem, Ex.val, Ex.op, Ex.n, Ex.v, Ex.args, *]) rfl ⟨none, 0, by rw [unhide HV], by rw [unhide HV]; exact exk_nil _ _ _, ?_⟩
  exact put6 (below_step (below_step (below_step hB1 hb2) hb3) hb4) (by omega) _ _ _ _ _ _
end Go.Proofs.Ytfnacpkodfhfoac

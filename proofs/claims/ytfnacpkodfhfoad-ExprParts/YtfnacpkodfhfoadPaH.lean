import Derived.Test.YtfnacpkodfhfoadPaE
set_option linter.unusedSimpArgs false
set_option linter.unusedVariables false
namespace Go.Proofs.Ytfnacpkodfhfoad
open Go.RowKit Go.Sort

/-- What lies in the blocks from lo on, but N. -/
def ExN (lo : Nat) (N : List Nat) (w : World) (a : Option Addr) (l : List Ex) : Prop := ∀ W', Kept lo N w W' → Ex.all W' a l
/-- What Parts answers: a list of its own. -/
def PartsG (w : World) (e : Ex) (K : Nat → World → Nd → Prop) (r : Ending) (w' : World) : Prop := ∃ (g cap : Nat) (L : List Nd), r = .returned (.slice (some ⟨g, 0, none⟩) L.length cap) ∧ OwnE w' w.heap.size (.slice (some ⟨g, 0, none⟩) L.length cap) L ∧ L.map (·.1) = partsE e ∧ (∀ q ∈ L, K g w' q) ∧ Below w.heap.size w w'
/-- It holds where elder memory is as it was. -/
def PartsOk (w : World) (e : Ex) : Ending → World → Prop := PartsG w e fun g w' q => ExL w [g] w' q.2.1 q.1.args
/-- It holds whatever becomes of elder memory. -/
def PartsK (w : World) (e : Ex) : Ending → World → Prop := PartsG w e fun g w' q => ExN w.heap.size [g] w' q.2.1 q.1.args
theorem PartsK.ok {w : World} {e : Ex} {r : Ending} {w' : World} (h : PartsK w e r w') : PartsOk w e r w' := by
  obtain ⟨g, cap, L, h1, h2, h3, h4, h5⟩ := h
  exact ⟨g, cap, L, h1, h2, h3, fun q hq W' _ hk => h4 q hq W' hk, h5⟩
theorem below_between {w w1 w3 W' : World} {N : List Nat} (h1 : Below w.heap.size w w1) (h3 : Below w1.heap.size w1 w3) (hW : Below w.heap.size w W') (hK : Kept w.heap.size N w3 W') (hN : ∀ b ∈ N, w1.heap.size ≤ b) : Below w1.heap.size w1 W' := by
  refine ⟨by rw [hW.os, h1.os], by rw [hW.tape, h1.tape], by rw [hW.output, h1.output], Nat.le_trans h3.size hK.size, fun b hb => ?_⟩
  by_cases hlo : b < w.heap.size
  · rw [hW.block b hlo, h1.block b hlo]
  · rw [hK.block b (by omega) (Nat.lt_of_lt_of_le hb h3.size) (fun h => by have := hN b h; omega), h3.block b hb]
theorem own_one (w : World) (base : Nat) (hb : base ≤ w.heap.size) (q : Nd) : OwnE (w.alloc (.cells #[.int .i64 q.1.op, .int .i64 q.1.n, .int .i64 q.1.v.k, .int .i64 q.1.v.n, .string q.1.v.s, .slice q.2.1 q.1.args.length q.2.2] 26)) base (.slice (some ⟨w.heap.size, 0, none⟩) 1 1) [q] :=
  ⟨rfl, .inr ⟨w.heap.size, 1, _, rfl, hb, Go.Deep.blk_alloc_new _ _, Nat.le_refl _, by unfold maxLen; omega, rfl, rfl⟩⟩
theorem leaf_ok {w w1 w2 : World} {e : Ex} {a2 : Option Addr} {c2 : Nat} (h1 : Below w.heap.size w w1) (hb : Below w1.heap.size w1 w2) (hL : ExL w1 [] w2 a2 (copyT e).args) (hp : partsE e = [copyT e]) :
    PartsOk w e (.returned (.slice (some ⟨w2.heap.size, 0, none⟩) 1 1)) (w2.alloc (.cells #[.int .i64 (copyT e).op, .int .i64 (copyT e).n, .int .i64 (copyT e).v.k, .int .i64 (copyT e).v.n, .string (copyT e).v.s, .slice a2 (copyT e).args.length c2] 26)) := by
  have hs := h1.size
  have hs2 := hb.size
  refine ⟨w2.heap.size, 1, [(copyT e, a2, c2)], rfl, own_one w2 w.heap.size (by omega) (copyT e, a2, c2), by rw [hp]; rfl, ?_, below_alloc (below_step h1 hb) _⟩
  intro q hq W' hW hK
  rw [List.mem_singleton] at hq
  subst hq
  refine hL W' (below_between h1 (below_alloc hb _) hW hK (by simp; omega)) ?_
  refine ⟨Nat.le_trans (below_alloc (Below.refl _ w2) _).size hK.size, fun b g1 g2 _ => ?_⟩
  rw [hK.block b (by omega) (by simp [go_sem]; omega) (by simp; omega), (below_alloc (Below.refl _ w2) _).block b g2]
theorem leaf_k2 {w w1 w2 : World} {e : Ex} {a2 : Option Addr} {c2 : Nat} (h1 : Below w.heap.size w w1) (hb : Below w1.heap.size w1 w2) (hL : ExK w1.heap.size w2 a2 (copyT e).args) (hp : partsE e = [copyT e]) :
    PartsK w e (.returned (.slice (some ⟨w2.heap.size, 0, none⟩) 1 1)) (w2.alloc (.cells #[.int .i64 (copyT e).op, .int .i64 (copyT e).n, .int .i64 (copyT e).v.k, .int .i64 (copyT e).v.n, .string (copyT e).v.s, .slice a2 (copyT e).args.length c2] 26)) := by
  have hs := h1.size
  have hs2 := hb.size
  refine ⟨w2.heap.size, 1, [(copyT e, a2, c2)], rfl, own_one w2 w.heap.size (by omega) (copyT e, a2, c2), by rw [hp]; rfl, ?_, below_alloc (below_step h1 hb) _⟩
  intro q hq W' hK
  rw [List.mem_singleton] at hq
  subst hq
  refine hL W' ⟨Nat.le_trans (below_alloc (Below.refl _ w2) _).size hK.size, fun b g1 g2 _ => ?_⟩
  rw [hK.block b (by omega) (by simp [go_sem]; omega) (by simp; omega), (below_alloc (Below.refl _ w2) _).block b g2]
set_option maxHeartbeats 400000 in
set_option maxRecDepth 100000 in
theorem parts_leaf (e : Ex) (hf : e.fin) (hp : partsE e = [copyT e]) (hn : e.op ≠ 19 ∨ builtE e = false) (a : Option Addr) (c : Nat) (w : World) (ha : Ex.all w a e.args) :
    Calls Try.prog 9 #[e.val a c] w fun r w' => PartsOk w e r w' ∧ (builtE e = true → PartsK w e r w') := by
  have HB := hide (fun (W : World) (hW : Below w.heap.size w W) => built_any e hf a c W (Ex.all_later _ ha hW))
  have HC := hide (fun (W : World) (hW : Below w.heap.size w W) => copied_any e hf a c W (Ex.all_later _ ha hW))
  have HB0 := hide (below_alloc (Below.refl _ w) (.cells #[.int .i64 e.op, .int .i64 e.n, .int .i64 e.v.k, .int .i64 e.v.n, .string e.v.s, .slice a e.args.length c] 26))
  have H6 : Hid (Six (w.alloc (.cells #[.int .i64 e.op, .int .i64 e.n, .int .i64 e.v.k, .int .i64 e.v.n, .string e.v.s, .slice a e.args.length c] 26)) w.heap.size e a c) := Six.new w e a c
  have HP := hide hp
  have HBE := hide (built_ends (e := e))
  rw [Ex.val_open] at HB HC ⊢
  clear ha hp
  by_cases h19 : e.op = 19
  · have hb : builtE e = false := by rcases hn with h | h; exact absurd h19 h; exact h
    rw [hb] at HB
    rw [h19] at HB HC HB0 H6 ⊢
    have HBF := hide hb
    clear hn hb
    go_enter Try.func9, Try.ntmps9
    go_wp2_with (first
      | (go_at_call 13; refine (unhide HB _ (unhide HB0)).mono ?_; rintro r w1 ⟨rfl, hb1⟩; have hB1 := below_step (unhide HB0) hb1; obtain ⟨b0, b1, b2, b3, b4, b5⟩ := (unhide H6).later hb1)
      | (go_at_call 16; refine (unhide HC _ hB1).mono ?_; rintro r w2 ⟨a2, c2, rfl, hK2, hL2, hb2⟩; have HK2 := hide hK2; have HL2 := hide hL2; clear hK2 hL2; rw [Ex.val_open]))
    go_ret
    exact ⟨leaf_ok hB1 hb2 (unhide HL2) (unhide HP), fun h => by rw [unhide HBF] at h; cases h⟩
  · clear hn
    go_enter Try.func9, Try.ntmps9
    go_wp2_with (go_at_call 16; refine (unhide HC _ (unhide HB0)).mono ?_; rintro r w2 ⟨a2, c2, rfl, hK2, hL2, hb2⟩; have HK2 := hide hK2; have HL2 := hide hL2; clear hK2 hL2; rw [Ex.val_open])
    go_ret
    exact ⟨leaf_ok (unhide HB0) hb2 (unhide HL2) (unhide HP), fun h => leaf_k2 (unhide HB0) hb2 (unhide HK2 (unhide HBE h)) (unhide HP)⟩
end Go.Proofs.Ytfnacpkodfhfoad

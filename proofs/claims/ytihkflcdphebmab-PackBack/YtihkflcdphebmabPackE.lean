import Derived.Test.YtihkflcdphebmabPackD
set_option linter.unusedSimpArgs false
set_option linter.unusedVariables false
namespace Go.Proofs.Ytihkflcdphebmab
open Go.RowKit Go.Sort

theorem RowAt.grew {w w' : World} {v v' : Value} {a : Option Addr} {xs : List Val} (h : RowAt w a xs) (hg : Grew w w' v v') (hsep : ∀ ad, a = some ad → v.ownBlock ≠ some ad.block) : RowAt w' a xs := by
  rcases h with h | ⟨b, off, ha, h⟩
  · exact .inl h
  · refine .inr ⟨b, off, ha, fun i x hx => ?_⟩
    obtain ⟨h0, h1, h2⟩ := h i x hx
    have hs := hsep _ ha
    exact ⟨by rw [grew_kept hg (World.block_lt_of_cell? _ _ h0) hs]; exact h0, by rw [grew_kept hg (World.block_lt_of_cell? _ _ h1) hs]; exact h1, by rw [grew_kept hg (World.block_lt_of_cell? _ _ h2) hs]; exact h2⟩
/-- Values, each plain. -/
def plains (xs : List Val) : List Int := xs.flatMap plainL
theorem plains_next {xs : List Val} {k : Nat} {x : Val} (h : xs[k]? = some x) : plains (xs.take (k + 1)) = plains (xs.take k) ++ plainL x := by
  obtain ⟨h1, rfl⟩ := List.getElem?_eq_some_iff.1 h
  unfold plains
  rw [List.take_succ_eq_append_getElem h1, List.flatMap_append, List.flatMap_cons, List.flatMap_nil, List.append_nil]
theorem plains_len (xs : List Val) (h : ∀ x ∈ xs, x.s.size ≤ 1000) : (plains xs).length ≤ 1008 * xs.length := by
  unfold plains
  induction xs with
  | nil => simp
  | cons x xs ih =>
    have h1 := plainL_len x
    have h2 := h x (by simp)
    have h3 := ih (fun y hy => h y (by simp [hy]))
    rw [List.flatMap_cons, List.length_append, List.length_cons]
    omega

set_option maxHeartbeats 2000000 in
set_option maxRecDepth 100000 in
theorem applains_any (base : Nat) (zs : List Int) (aa : Option Addr) (ca : Nat) (xs : List Val) (v : Value) (w : World) (hown : OwnB w base v zs) (hlen : zs.length + 1008 * xs.length ≤ 140737488000000) (hs : ∀ x ∈ xs, x.s.size ≤ 1000) (hbase : base ≤ w.heap.size)
    (ha : RowAt w aa xs) (hsep : ∀ ad, aa = some ad → v.ownBlock ≠ some ad.block) :
    Calls Try.prog 66 #[v, .slice aa xs.length ca] w fun e w' => ∃ v', e = .returned v' ∧ OwnB w' base v' (zs ++ plains xs) ∧ Grew w w' v v' := by
  have HA := hide ha
  have HSEP := hide hsep
  have HS := hide hs
  clear ha hsep hs
  go_enter Try.func66, Try.ntmps66
  go_wp2_with fail
  go_loopw [0, 9] (fun key s wr => ∃ k : Nat, k ≤ xs.length ∧ s = .int .i64 (k : Int) ∧ OwnB wr base key (zs ++ plains (xs.take k)) ∧ Grew w wr v key) (fun _ s _ => xs.length - (intOf s).toNat)
  case atStart => exact ⟨0, Nat.zero_le _, rfl, by simpa [plains] using hown, Grew.refl _ _⟩
  case round =>
    obtain ⟨k, hk, rfl, ho, hg⟩ := hrel
    by_cases h8 : k < xs.length
    · have h9 : (k : Int) < (xs.length : Int) := by omega
      obtain ⟨x, hx⟩ : ∃ x, xs[k]? = some x := ⟨_, List.getElem?_eq_getElem h8⟩
      have hxs := unhide HS x (List.mem_of_getElem? hx)
      have hA := (unhide HA).grew hg (unhide HSEP)
      rcases hA with e | ⟨b, off, rfl, hc⟩
      · rw [e] at hx; cases hx
      obtain ⟨c0, c1, c2⟩ := hc k x hx
      have hll : (zs ++ plains (xs.take k)).length + x.s.size ≤ 140737488300000 := by
        have := plains_len (xs.take k) (fun y hy => unhide HS y (List.mem_of_mem_take hy))
        rw [List.length_take] at this
        rw [List.length_append]
        omega
      have HC := hide (fun W o (h : W = wr.alloc o) => applain_any base (zs ++ plains (xs.take k)) x u0 W (by rw [h]; exact World.ownsRow.alloc ho o) hll (by omega) (by rw [h]; have := hg.1.size; simp; omega))
      have HN := hide (plains_next hx)
      have HG := hide hg
      have HO := hide ho
      have hsz := hg.1.size
      clear hc hx hll ho hg
      go_wp2_with (go_at_call 76; refine (unhide HC _ _ rfl).mono ?_; rintro e w2 ⟨v2, rfl, ho2, hg2⟩)
      go_roundw
      case rel => exact ⟨k + 1, by omega, by go_num, by rw [unhide HN, ← List.append_assoc]; exact ho2, (unhide HG).trans ((Grew.alloc wr _ _).trans hg2)⟩
      case measure => first | (simp [intOf]; done) | (simp only [intOf]; omega)
    · have hk8 : k = xs.length := by omega
      have h9 : ¬ (k : Int) < (xs.length : Int) := by omega
      rw [hk8, List.take_length] at ho
      have HO := hide ho
      have HG := hide hg
      clear ho hg hk8
      go_wp2
      go_ret
      exact ⟨_, rfl, unhide HO, unhide HG⟩
end Go.Proofs.Ytihkflcdphebmab

import Derived.Test.YtljebbodcehmpabGreatPackE
set_option linter.unusedSimpArgs false
set_option linter.unusedVariables false
namespace Go.Proofs.YtljebbodcehmpabGreat
open Go.RowKit Go.Sort

/-- Those that are not null. -/
def standL (xs : List Val) : List Val := xs.filter fun x => x.k != 0
theorem stand_yes {xs : List Val} {k : Nat} {x : Val} (h : xs[k]? = some x) (hx : (x.k != 0) = true) : standL (xs.take (k + 1)) = standL (xs.take k) ++ [x] := by
  obtain ⟨h1, rfl⟩ := List.getElem?_eq_some_iff.1 h
  unfold standL
  rw [List.take_succ_eq_append_getElem h1, List.filter_append, List.filter_cons, hx]
  rfl
theorem stand_no {xs : List Val} {k : Nat} {x : Val} (h : xs[k]? = some x) (hx : (x.k != 0) = false) : standL (xs.take (k + 1)) = standL (xs.take k) := by
  obtain ⟨h1, rfl⟩ := List.getElem?_eq_some_iff.1 h
  unfold standL
  rw [List.take_succ_eq_append_getElem h1, List.filter_append, List.filter_cons, hx]
  simp
theorem stand_len (xs : List Val) : (standL xs).length ≤ xs.length := List.length_filter_le _ _

set_option maxHeartbeats 2000000 in
set_option maxRecDepth 100000 in
theorem stand_any (aa : Option Addr) (ca : Nat) (xs : List Val) (w : World) (hl : xs.length ≤ 1048576) (ha : RowAt w aa xs) :
    Calls Tryz.prog 27 #[.slice aa xs.length ca] w fun e w' => ∃ v, e = .returned v ∧ OwnV w' w.heap.size v (standL xs) ∧ Below w.heap.size w w' := by
  obtain ⟨i4, hi4, z40, z41, z42⟩ := info_parts Tryz.info37
  have HA := hide ha
  clear ha
  go_enter Tryz.func27, Tryz.ntmps27
  go_wp2_with fail
  go_loopw [3, 8] (fun v s wr => ∃ k : Nat, k ≤ xs.length ∧ s = .int .i64 (k : Int) ∧ OwnV wr w.heap.size v (standL (xs.take k)) ∧ Below w.heap.size w wr) (fun _ s _ => xs.length - (intOf s).toNat)
  case atStart => exact ⟨0, Nat.zero_le _, rfl, World.ownsRow_nil _ _ _ _, Below.refl _ _⟩
  case round =>
    obtain ⟨k, hk, rfl, ho, hb⟩ := hrel
    by_cases h8 : k < xs.length
    · have h9 : (k : Int) < (xs.length : Int) := by omega
      obtain ⟨x, hx⟩ : ∃ x, xs[k]? = some x := ⟨_, List.getElem?_eq_getElem h8⟩
      rcases (unhide HA).later hb with e | ⟨b, off, rfl, hc⟩
      · rw [e] at hx; cases hx
      obtain ⟨c0, c1, c2⟩ := hc k x hx
      have hlen : (standL (xs.take k)).length ≤ 1048576 := by have := stand_len (xs.take k); rw [List.length_take] at this; omega
      have HLEN := hide hlen
      have hsz := hb.size
      have HO := hide ho
      have HB := hide hb
      have bl := below_alloc (Below.refl _ wr) (.cells #[.int .i64 x.k, .int .i64 x.n, .string x.s] 37)
      have ho1 := ho.later bl
      have HB1 := hide (below_step hb bl)
      rcases Bool.eq_false_or_eq_true (x.k != 0) with kx | kx
      · have HN := hide (stand_yes hx kx)
        clear hc hx ho hb hlen bl
        go_wp2_with (at_builtin; refine wpList_append_own_at _ rfl (.tmp 15) (.tmp 17) 44 rfl w.heap.size 37 i4 (.agg #[.int .i64 0, .int .i64 0, .string ⟨#[]⟩]) 3 32 Tryz.underlying44 hi4 z40 z41 z42 rfl (by decide) _ _ _ rfl (World.ownsRow.alloc ho1 _) ⟨wr.heap.size + 1, 0, none⟩ 1 1 (c3 x) rfl rfl (by have := cells3_new (wr.alloc (.cells #[.int .i64 x.k, .int .i64 x.n, .string x.s] 37)) x; simpa using this) (c3_one _) (by have := unhide HLEN; unfold maxLen; omega) (by have := unhide HLEN; omega) (by simp; omega) ?_; intro v1 w3 hown1 hgrow1 _ hat1; have ho3 := ownV_app hown1; have hgr : ((wr.alloc (.cells #[.int .i64 x.k, .int .i64 x.n, .string x.s] 37)).alloc (.cells #[.int .i64 x.k, .int .i64 x.n, .string x.s] 37)).grownBy w3 u3.ownBlock := hgrow1; clear hown1 hgrow1 hat1)
        go_roundw
        case rel => exact ⟨k + 1, by omega, by go_num, ownV_len ho3 (unhide HN).symm, own_below (unhide HB1) ho1 (Nat.le_refl _) hgr⟩
        case measure => first | (simp [intOf]; done) | (simp only [intOf]; omega)
      · have HN := hide (stand_no hx kx)
        clear hc hx ho hb hlen bl
        go_wp2
        go_roundw
        case rel => exact ⟨k + 1, by omega, by go_num, ownV_len ho1 (unhide HN).symm, unhide HB1⟩
        case measure => first | (simp [intOf]; done) | (simp only [intOf]; omega)
    · have h9 : ¬ (k : Int) < (xs.length : Int) := by omega
      have hk8 : k = xs.length := by omega
      rw [hk8, List.take_length] at ho
      have HO := hide ho
      have HB := hide hb
      clear ho hb hk8
      go_wp2
      go_ret
      exact ⟨_, rfl, unhide HO, unhide HB⟩
end Go.Proofs.YtljebbodcehmpabGreat

import Derived.Test.YtifohbapfciniabVecB
set_option linter.unusedSimpArgs false
set_option linter.unusedVariables false
namespace Go.Proofs.Ytifohbapfciniab
open Go.RowKit Go.Sort

def fit (X : Vc) : Prop := X.nl.length ≤ maxLen ∧ X.ns.length ≤ maxLen ∧ X.ss.length ≤ maxLen
theorem LisAt.get {w : World} {a : Option Addr} {cs : List Value} {k : Nat} {x : Value} (h : LisAt w a cs) (hx : cs[k]? = some x) : ∃ b off, a = some ⟨b, off, none⟩ ∧ w.cell? ⟨b, off + k, none⟩ = some x := by
  rcases h with h | ⟨b, off, ha, h⟩
  · rw [h] at hx; cases hx
  · exact ⟨b, off, ha, h k x hx⟩

def two (w : World) (v1 v2 v3 v4 u1 u2 u3 u4 : Value) : World := (w.alloc (.cells #[v1, v2, v3, v4] 27)).alloc (.cells #[u1, u2, u3, u4] 27)
theorem two_facts {w w' : World} {v1 v2 v3 v4 u1 u2 u3 u4 : Value} (h : Below (two w v1 v2 v3 v4 u1 u2 u3 u4).heap.size (two w v1 v2 v3 v4 u1 u2 u3 u4) w') :
    (w'.cell? ⟨w.heap.size, 1, none⟩ = some v2 ∧ w'.cell? ⟨w.heap.size, 2, none⟩ = some v3 ∧ w'.cell? ⟨w.heap.size, 3, none⟩ = some v4) ∧
    (w'.cell? ⟨w.heap.size + 1, 1, none⟩ = some u2 ∧ w'.cell? ⟨w.heap.size + 1, 2, none⟩ = some u3 ∧ w'.cell? ⟨w.heap.size + 1, 3, none⟩ = some u4) ∧ Below w.heap.size w w' := by
  have hs : (two w v1 v2 v3 v4 u1 u2 u3 u4).heap.size = w.heap.size + 1 + 1 := by simp [two]
  obtain ⟨hc, hf⟩ := bcell h
  refine ⟨⟨?_, ?_, ?_⟩, ⟨?_, ?_, ?_⟩, ?_⟩
  · rw [hc _ _ (by rw [hs]; omega)]; simp [two, go_sem]
  · rw [hc _ _ (by rw [hs]; omega)]; simp [two, go_sem]
  · rw [hc _ _ (by rw [hs]; omega)]; simp [two, go_sem]
  · rw [hc _ _ (by rw [hs]; omega)]; simp [two, go_sem]
  · rw [hc _ _ (by rw [hs]; omega)]; simp [two, go_sem]
  · rw [hc _ _ (by rw [hs]; omega)]; simp [two, go_sem]
  · exact (((Below.refl _ _).alloc (Nat.le_refl _) _).alloc (by simp) _).trans (h.mono (by rw [hs]; omega))

set_option maxHeartbeats 4000000 in
set_option maxRecDepth 100000 in
theorem samevec_same (X : Vc) (p q : Sl) (w : World) (hf : fit X) (hp : VecAt w X p) (hq : VecAt w X q) :
    Calls Try.prog 9 #[vecV X p, vecV X q] w fun e w' => e = .returned (.bool true) ∧ Below w.heap.size w w' := by
  rw [vecV_open, vecV_open]
  have HP := hide hp
  have HQ := hide hq
  obtain ⟨l1, l2, l3⟩ := hf
  unfold maxLen at l1 l2 l3
  clear hp hq
  obtain ⟨W2, hW2⟩ : ∃ W2, W2 = two w (.int .i64 X.k) (.slice p.a1 X.nl.length p.c1) (.slice p.a2 X.ns.length p.c2) (.slice p.a3 X.ss.length p.c3) (.int .i64 X.k) (.slice q.a1 X.nl.length q.c1) (.slice q.a2 X.ns.length q.c2) (.slice q.a3 X.ss.length q.c3) := ⟨_, rfl⟩
  have HW2 := hide hW2
  go_enter Try.func9, Try.ntmps9
  go_wp2_with fail
  go_loopw [43] (fun i wr => ∃ k : Nat, k ≤ X.nl.length ∧ i = .int .i64 k ∧ Below W2.heap.size W2 wr) (fun i _ => X.nl.length - (intOf i).toNat)
  case atStart => exact ⟨0, Nat.zero_le _, rfl, by rw [hW2]; exact Below.refl _ _⟩
  case round =>
    clear hW2
    obtain ⟨k, hkl, rfl, hb⟩ := hrel
    have hb' := hb
    rw [unhide HW2] at hb'
    obtain ⟨⟨v2, v3, v4⟩, ⟨u2, u3, u4⟩, hB⟩ := two_facts hb'
    by_cases h1 : k < X.nl.length
    · obtain ⟨x, hx⟩ : ∃ x, X.nl[k]? = some x := ⟨_, List.getElem?_eq_getElem h1⟩
      obtain ⟨pb, po, ep, cp⟩ := ((unhide HP).later hB).1.get (k := k) (x := .bool x) (by simp [hx])
      obtain ⟨qb, qo, eq, cq⟩ := ((unhide HQ).later hB).1.get (k := k) (x := .bool x) (by simp [hx])
      rw [ep] at v2
      rw [eq] at u2
      have k0 := cell_regrown v2
      have k1 := cell_regrown u2
      have k2 := cell_regrown cp
      have k3 := cell_regrown cq
      have i1 : (k : Int) < (X.nl.length : Int) := by omega
      clear ep eq hx hb'
      go_wp2_with fail
      refine wp_region_quiet_below (by kernel_rfl) (by kernel_rfl) ?_
      repeat (go_big_quiet_step (fail))
      refine wpQuiet_nil ?_
      intro w' hw'
      have hB2 : Below wr.heap.size wr w' := by obtain ⟨p, rfl⟩ := hw'; exact below_regrown _ _ _
      clear hw'
      have hbel' := below_step hb hB2
      go_wp2
      go_roundw
      case rel => exact ⟨k + 1, by omega, by go_num, hbel'⟩
      case measure => simp [intOf]; omega
    · have i1 : ¬ (k : Int) < (X.nl.length : Int) := by omega
      obtain ⟨W3, rfl⟩ : ∃ W3, W3 = wr := ⟨_, rfl⟩
      go_wp2
      clear hb' v2 v3 v4 u2 u3 u4 hB hkl h1 i1
      go_loopw [61] (fun i wr => ∃ k : Nat, k ≤ X.ns.length ∧ i = .int .i64 k ∧ Below W2.heap.size W2 wr) (fun i _ => X.ns.length - (intOf i).toNat)
      case atStart => exact ⟨0, Nat.zero_le _, rfl, hb⟩
      case round =>
        clear hb
        obtain ⟨k, hkl, rfl, hb⟩ := hrel
        have hb' := hb
        rw [unhide HW2] at hb'
        obtain ⟨⟨v2, v3, v4⟩, ⟨u2, u3, u4⟩, hB⟩ := two_facts hb'
        by_cases h1 : k < X.ns.length
        · obtain ⟨x, hx⟩ : ∃ x, X.ns[k]? = some x := ⟨_, List.getElem?_eq_getElem h1⟩
          obtain ⟨pb, po, ep, cp⟩ := ((unhide HP).later hB).2.1.get (k := k) (x := .int .i64 x) (by simp [hx])
          obtain ⟨qb, qo, eq, cq⟩ := ((unhide HQ).later hB).2.1.get (k := k) (x := .int .i64 x) (by simp [hx])
          rw [ep] at v3
          rw [eq] at u3
          have k0 := cell_regrown v3
          have k1 := cell_regrown u3
          have k2 := cell_regrown cp
          have k3 := cell_regrown cq
          have i1 : (k : Int) < (X.ns.length : Int) := by omega
          clear ep eq hx hb'
          go_wp2_with fail
          refine wp_region_quiet_below (by kernel_rfl) (by kernel_rfl) ?_
          repeat (go_big_quiet_step (fail))
          refine wpQuiet_nil ?_
          intro w' hw'
          have hB2 : Below wr.heap.size wr w' := by obtain ⟨p, rfl⟩ := hw'; exact below_regrown _ _ _
          clear hw'
          have hbel' := below_step hb hB2
          go_wp2
          go_roundw
          case rel => exact ⟨k + 1, by omega, by go_num, hbel'⟩
          case measure => simp [intOf]; omega
        · have i1 : ¬ (k : Int) < (X.ns.length : Int) := by omega
          obtain ⟨W3, rfl⟩ : ∃ W3, W3 = wr := ⟨_, rfl⟩
          go_wp2
          clear hb' v2 v3 v4 u2 u3 u4 hB hkl h1 i1
          go_loopw [79] (fun i wr => ∃ k : Nat, k ≤ X.ss.length ∧ i = .int .i64 k ∧ Below W2.heap.size W2 wr) (fun i _ => X.ss.length - (intOf i).toNat)
          case atStart => exact ⟨0, Nat.zero_le _, rfl, hb⟩
          case round =>
            clear hb
            obtain ⟨k, hkl, rfl, hb⟩ := hrel
            have hb' := hb
            rw [unhide HW2] at hb'
            obtain ⟨⟨v2, v3, v4⟩, ⟨u2, u3, u4⟩, hB⟩ := two_facts hb'
            by_cases h1 : k < X.ss.length
            · obtain ⟨x, hx⟩ : ∃ x, X.ss[k]? = some x := ⟨_, List.getElem?_eq_getElem h1⟩
              obtain ⟨pb, po, ep, cp⟩ := ((unhide HP).later hB).2.2.get (k := k) (x := .string x) (by simp [hx])
              obtain ⟨qb, qo, eq, cq⟩ := ((unhide HQ).later hB).2.2.get (k := k) (x := .string x) (by simp [hx])
              rw [ep] at v4
              rw [eq] at u4
              have k0 := cell_regrown v4
              have k1 := cell_regrown u4
              have k2 := cell_regrown cp
              have k3 := cell_regrown cq
              have i1 : (k : Int) < (X.ss.length : Int) := by omega
              clear ep eq hx hb'
              go_wp2_with fail
              refine wp_region_quiet_below (by kernel_rfl) (by kernel_rfl) ?_
              repeat (go_big_quiet_step (fail))
              refine wpQuiet_nil ?_
              intro w' hw'
              have hB2 : Below wr.heap.size wr w' := by obtain ⟨p, rfl⟩ := hw'; exact below_regrown _ _ _
              clear hw'
              have hbel' := below_step hb hB2
              go_wp2
              go_roundw
              case rel => exact ⟨k + 1, by omega, by go_num, hbel'⟩
              case measure => simp [intOf]; omega
            · have i1 : ¬ (k : Int) < (X.ss.length : Int) := by omega
              clear hb'
              go_wp2
              go_ret
              exact ⟨rfl, hB⟩
end Go.Proofs.Ytifohbapfciniab

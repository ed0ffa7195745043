import Derived.Test.YtbdkpkpncmagoaaGreatMmF
import Derived.Test.YtbdkpkpncmagoaaGreatRdA
set_option linter.unusedSimpArgs false
set_option linter.unusedVariables false
set_option maxRecDepth 100000
namespace Go.Proofs.YtbdkpkpncmagoaaGreat
open Go.RowKit Go.Sort

set_option maxHeartbeats 4000000 in
set_option maxRecDepth 100000 in
theorem samevec_same (X : Vc) (p q : Sl) (w : World) (hf : fit X) (hp : VecAt w X p) (hq : VecAt w X q) :
    Calls Tryz.prog 20 #[vecV X p, vecV X q] w fun e w' => e = .returned (.bool true) ∧ Below w.heap.size w w' := by
  rw [vecV_open, vecV_open]
  have HP := hide hp
  have HQ := hide hq
  obtain ⟨l1, l2, l3⟩ := hf
  unfold maxLen at l1 l2 l3
  clear hp hq
  obtain ⟨W2, hW2⟩ : ∃ W2, W2 = two w (.int .i64 X.k) (.slice p.a1 X.nl.length p.c1) (.slice p.a2 X.ns.length p.c2) (.slice p.a3 X.ss.length p.c3) (.int .i64 X.k) (.slice q.a1 X.nl.length q.c1) (.slice q.a2 X.ns.length q.c2) (.slice q.a3 X.ss.length q.c3) := ⟨_, rfl⟩
  have HW2 := hide hW2
  go_enter Tryz.func20, Tryz.ntmps20
  go_wp2_with fail
  go_loopw [43] (fun i wr => ∃ k : Nat, k ≤ X.nl.length ∧ i = .int .i64 k ∧ Below W2.heap.size W2 wr) (fun i _ => X.nl.length - (intOf i).toNat)
  case atStart => exact ⟨0, Nat.zero_le _, rfl, by rw [hW2]; exact Below.refl _ _⟩
  case round =>
    clear hW2
    obtain ⟨k, hkl, rfl, hb⟩ := hrel
    have hb' := hb
    rw [unhide HW2] at hb'
    obtain ⟨⟨v2, v3, v4⟩, ⟨u2, u3, u4⟩, hB⟩ := two_facts hb'
    by_cases h1 : k < X.nl.length
    · obtain ⟨x, hx⟩ : ∃ x, X.nl[k]? = some x := ⟨_, List.getElem?_eq_getElem h1⟩
      obtain ⟨pb, po, ep, cp⟩ := ((unhide HP).later hB).1.get (k := k) (x := .bool x) (by simp [hx])
      obtain ⟨qb, qo, eq, cq⟩ := ((unhide HQ).later hB).1.get (k := k) (x := .bool x) (by simp [hx])
      rw [ep] at v2
      rw [eq] at u2
      have k0 := cell_regrown v2
      have k1 := cell_regrown u2
      have k2 := cell_regrown cp
      have k3 := cell_regrown cq
      have i1 : (k : Int) < (X.nl.length : Int) := by omega
      clear ep eq hx hb'
      go_wp2_with fail
      refine wp_region_quiet_below (by kernel_rfl) (by kernel_rfl) ?_
      repeat (go_big_quiet_step (fail))
      refine wpQuiet_nil ?_
      intro w' hw'
      have hB2 : Below wr.heap.size wr w' := by obtain ⟨p, rfl⟩ := hw'; exact below_regrown _ _ _
      clear hw'
      have hbel' := below_step hb hB2
      go_wp2
      go_roundw
      case rel => exact ⟨k + 1, by omega, by go_num, hbel'⟩
      case measure => simp [intOf]; omega
    · have i1 : ¬ (k : Int) < (X.nl.length : Int) := by omega
      obtain ⟨W3, rfl⟩ : ∃ W3, W3 = wr := ⟨_, rfl⟩
      go_wp2
      clear hb' v2 v3 v4 u2 u3 u4 hB hkl h1 i1
      go_loopw [61] (fun i wr => ∃ k : Nat, k ≤ X.ns.length ∧ i = .int .i64 k ∧ Below W2.heap.size W2 wr) (fun i _ => X.ns.length - (intOf i).toNat)
      case atStart => exact ⟨0, Nat.zero_le _, rfl, hb⟩
      case round =>
        clear hb
        obtain ⟨k, hkl, rfl, hb⟩ := hrel
        have hb' := hb
        rw [unhide HW2] at hb'
        obtain ⟨⟨v2, v3, v4⟩, ⟨u2, u3, u4⟩, hB⟩ := two_facts hb'
        by_cases h1 : k < X.ns.length
        · obtain ⟨x, hx⟩ : ∃ x, X.ns[k]? = some x := ⟨_, List.getElem?_eq_getElem h1⟩
          obtain ⟨pb, po, ep, cp⟩ := ((unhide HP).later hB).2.1.get (k := k) (x := .int .i64 x) (by simp [hx])
          obtain ⟨qb, qo, eq, cq⟩ := ((unhide HQ).later hB).2.1.get (k := k) (x := .int .i64 x) (by simp [hx])
          rw [ep] at v3
          rw [eq] at u3
          have k0 := cell_regrown v3
          have k1 := cell_regrown u3
          have k2 := cell_regrown cp
          have k3 := cell_regrown cq
          have i1 : (k : Int) < (X.ns.length : Int) := by omega
          clear ep eq hx hb'
          go_wp2_with fail
          refine wp_region_quiet_below (by kernel_rfl) (by kernel_rfl) ?_
          repeat (go_big_quiet_step (fail))
          refine wpQuiet_nil ?_
          intro w' hw'
          have hB2 : Below wr.heap.size wr w' := by obtain ⟨p, rfl⟩ := hw'; exact below_regrown _ _ _
          clear hw'
          have hbel' := below_step hb hB2
          go_wp2
          go_roundw
          case rel => exact ⟨k + 1, by omega, by go_num, hbel'⟩
          case measure => simp [intOf]; omega
        · have i1 : ¬ (k : Int) < (X.ns.length : Int) := by omega
          obtain ⟨W3, rfl⟩ : ∃ W3, W3 = wr := ⟨_, rfl⟩
          go_wp2
          clear hb' v2 v3 v4 u2 u3 u4 hB hkl h1 i1
          go_loopw [79] (fun i wr => ∃ k : Nat, k ≤ X.ss.length ∧ i = .int .i64 k ∧ Below W2.heap.size W2 wr) (fun i _ => X.ss.length - (intOf i).toNat)
          case atStart => exact ⟨0, Nat.zero_le _, rfl, hb⟩
          case round =>
            clear hb
            obtain ⟨k, hkl, rfl, hb⟩ := hrel
            have hb' := hb
            rw [unhide HW2] at hb'
            obtain ⟨⟨v2, v3, v4⟩, ⟨u2, u3, u4⟩, hB⟩ := two_facts hb'
            by_cases h1 : k < X.ss.length
            · obtain ⟨x, hx⟩ : ∃ x, X.ss[k]? = some x := ⟨_, List.getElem?_eq_getElem h1⟩
              obtain ⟨pb, po, ep, cp⟩ := ((unhide HP).later hB).2.2.get (k := k) (x := .string x) (by simp [hx])
              obtain ⟨qb, qo, eq, cq⟩ := ((unhide HQ).later hB).2.2.get (k := k) (x := .string x) (by simp [hx])
              rw [ep] at v4
              rw [eq] at u4
              have k0 := cell_regrown v4
              have k1 := cell_regrown u4
              have k2 := cell_regrown cp
              have k3 := cell_regrown cq
              have i1 : (k : Int) < (X.ss.length : Int) := by omega
              clear ep eq hx hb'
              go_wp2_with fail
              refine wp_region_quiet_below (by kernel_rfl) (by kernel_rfl) ?_
              repeat (go_big_quiet_step (fail))
              refine wpQuiet_nil ?_
              intro w' hw'
              have hB2 : Below wr.heap.size wr w' := by obtain ⟨p, rfl⟩ := hw'; exact below_regrown _ _ _
              clear hw'
              have hbel' := below_step hb hB2
              go_wp2
              go_roundw
              case rel => exact ⟨k + 1, by omega, by go_num, hbel'⟩
              case measure => simp [intOf]; omega
            · have i1 : ¬ (k : Int) < (X.ss.length : Int) := by omega
              clear hb'
              go_wp2
              go_ret
              exact ⟨rfl, hB⟩
set_option maxHeartbeats 2000000 in
set_option maxRecDepth 100000 in
theorem samenums_same (aa ab : Option Addr) (ca cb : Nat) (xs : List Int) (w : World) (hla : xs.length ≤ maxLen) (ha : LisAt w aa (xs.map (.int .i64))) (hb : LisAt w ab (xs.map (.int .i64))) :
    Calls Tryz.prog 6 #[.slice aa xs.length ca, .slice ab xs.length cb] w fun e w' => e = .returned (.bool true) ∧ Below w.heap.size w w' := by
  unfold maxLen at hla
  go_enter Tryz.func6, Tryz.ntmps6
  go_wp2_with fail
  go_loopw [13] (fun i wr => ∃ k : Nat, k ≤ xs.length ∧ i = .int .i64 k ∧ Below w.heap.size w wr) (fun i wx => xs.length - (intOf i).toNat)
  case atStart => exact ⟨0, Nat.zero_le _, rfl, Below.refl _ _⟩
  case round =>
    obtain ⟨k, hk1, rfl, hbel⟩ := hrel
    have ha' := ha.later hbel
    have hb' := hb.later hbel
    by_cases h1 : k < xs.length
    · obtain ⟨x, hx⟩ : ∃ x, xs[k]? = some x := ⟨_, List.getElem?_eq_getElem h1⟩
      obtain ⟨ba, oa, rfl, c0⟩ := ha'.get (k := k) (x := .int .i64 x) (by simp [hx])
      obtain ⟨bb, ob, rfl, d0⟩ := hb'.get (k := k) (x := .int .i64 x) (by simp [hx])
      have i1 : (k : Int) < (xs.length : Int) := by omega
      clear hx
      go_wp2_with fail
      go_quiet (fail)
      go_wp2
      go_roundw
      case rel => exact ⟨k + 1, by omega, by go_num, below_drewN hbel _⟩
      case measure => simp [intOf]; omega
    · have i1 : ¬ (k : Int) < (xs.length : Int) := by omega
      go_wp2
      go_ret
      exact ⟨rfl, hbel⟩


def markV : Val := ⟨2, 0, ⟨#[115, 112, 111, 105, 108, 116]⟩⟩
theorem mark_any (w : World) : Calls Tryz.prog 14 #[] w fun e w' => e = .returned (.agg #[.int .i64 2, .int .i64 0, .string ⟨#[115, 112, 111, 105, 108, 116]⟩]) ∧ Below w.heap.size w w' := by
  go_enter Tryz.func14, Tryz.ntmps14
  go_wp2
  refine bodyPost_ret (v := .agg #[.int .i64 2, .int .i64 0, .string ⟨#[115, 112, 111, 105, 108, 116]⟩]) (by simp [results, Tryz.results14, go_sem]) rfl ⟨rfl, below_alloc (Below.refl _ _) _⟩
end Go.Proofs.YtbdkpkpncmagoaaGreat

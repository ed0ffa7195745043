import Derived.Test.YtcbenpodohjbiaaGreatPackRa
import Derived.Test.YtcbenpodohjbiaaGreatSpA
set_option linter.unusedSimpArgs false
set_option linter.unusedVariables false
set_option maxRecDepth 100000
namespace Go.Proofs.YtcbenpodohjbiaaGreat
open Go.RowKit Go.Sort

theorem Up.refl (w : World) : Up w w := ⟨Below.refl _ _, Nat.le_refl _⟩
theorem Up.step {a b c : World} (h : Up a b) (h2 : Up b c) : Up a c := ⟨below_step h.1 h2.1, Nat.le_trans h.2 h2.2⟩
theorem Up.alloc {a b : World} (h : Up a b) (o : Obj) : Up a (b.alloc o) := ⟨below_alloc h.1 o, h.2⟩
theorem Up.drew {a b : World} (h : Up a b) : Up a b.drew := ⟨h.1.drew, by have := h.2; show a.drawn ≤ b.drawn + 1; omega⟩
theorem Up.set3 {w : World} (o : Obj) (p q r : Nat) (x y z : Value) : Up w ((((w.alloc o).setCell ⟨w.heap.size, p, none⟩ x).setCell ⟨w.heap.size, q, none⟩ y).setCell ⟨w.heap.size, r, none⟩ z) :=
  ⟨(((below_alloc (Below.refl _ w) o).setCell (Nat.le_refl _) _).setCell (Nat.le_refl _) _).setCell (Nat.le_refl _) _, by rw [World.drawn_setCell, World.drawn_setCell, World.drawn_setCell]; exact Nat.le_refl _⟩
set_option maxHeartbeats 2000000 in
set_option maxRecDepth 100000 in
theorem compare_up (aa ab : Option Addr) (ca cb : Nat) (xs ys : List Val) (w : World) (hla : xs.length ≤ maxLen) (hlb : ys.length ≤ maxLen) (ha : RowAt w aa xs) (hb : RowAt w ab ys) :
    Calls Tryz.prog 57 #[.slice aa xs.length ca, .slice ab ys.length cb, .func (.func 33) #[] #[]] w fun e w' => e = .returned (.int .i64 (rowsV xs ys)) ∧ Up w w' := by
  unfold maxLen at hla hlb
  go_enter Tryz.func57, Tryz.ntmps57
  go_wp2_with fail
  go_loopw [13] (fun i wx => ∃ k : Nat, k ≤ xs.length ∧ k ≤ ys.length ∧ i = .int .i64 k ∧ rowsV xs ys = rowsV (xs.drop k) (ys.drop k) ∧ Up w wx) (fun i wx => xs.length - (intOf i).toNat)
  case atStart => exact ⟨0, Nat.zero_le _, Nat.zero_le _, rfl, rfl, Up.refl _⟩
  case round =>
    obtain ⟨k, hk1, hk2, rfl, hr, hbel⟩ := hrel
    have HR := hide hr
    clear hr
    have ha' := ha.later hbel.1
    have hb' := hb.later hbel.1
    by_cases h1 : k < xs.length
    · obtain ⟨x, hx⟩ : ∃ x, xs[k]? = some x := ⟨_, List.getElem?_eq_getElem h1⟩
      rcases ha' with e | ⟨ba, oa, rfl, hca⟩
      · subst e; simp at h1
      obtain ⟨c0, c1, c2⟩ := hca k x hx
      have i1 : (k : Int) < (xs.length : Int) := by omega
      by_cases h2 : k < ys.length
      · obtain ⟨y, hy⟩ : ∃ y, ys[k]? = some y := ⟨_, List.getElem?_eq_getElem h2⟩
        rcases hb' with e | ⟨bb, ob, rfl, hcb⟩
        · subst e; simp at h2
        obtain ⟨d0, d1, d2⟩ := hcb k y hy
        have HS := hide (rows_step hx hy)
        have i2 : (k : Int) < (ys.length : Int) := by omega
        have n0 := World.block_lt_of_cell? _ _ d0
        clear hca hcb hx hy
        by_cases ho : ordV x y = 0
        · have ho' : (ordV x y != 0) = false := by simpa using ho
          have HE : Hid (rowsV xs ys = rowsV (xs.drop (k + 1)) (ys.drop (k + 1))) := by show _ = _; rw [unhide HR, unhide HS, if_pos ho]
          clear ho
          go_wp2_with (go_at_call 33; refine (order_up x y _).mono ?_; rintro e w1 ⟨rfl, hb1⟩)
          go_roundw
          case rel => exact ⟨k + 1, by omega, by omega, by go_num, unhide HE, Up.step (Up.alloc (Up.alloc hbel _) _) hb1⟩
          case measure => simp [intOf]; omega
        · have ho' : (ordV x y != 0) = true := by simpa using ho
          have HE : Hid (rowsV xs ys = ordV x y) := by show _ = _; rw [unhide HR, unhide HS, if_neg ho]
          clear ho
          go_wp2_with (go_at_call 33; refine (order_up x y _).mono ?_; rintro e w1 ⟨rfl, hb1⟩)
          go_ret
          exact ⟨by rw [unhide HE]; rfl, Up.step (Up.alloc (Up.alloc hbel _) _) hb1⟩
      · have e : k = ys.length := by omega
        have HE : Hid (rowsV xs ys = 1) := by
          show _ = _
          rw [unhide HR, e, List.drop_length, ← e, List.drop_eq_getElem_cons h1, rowsV]
        have i2 : (ys.length : Int) ≤ (k : Int) := by omega
        clear e hca hx
        go_wp2
        go_ret
        exact ⟨by rw [unhide HE]; rfl, Up.alloc hbel _⟩
    · have e : k = xs.length := by omega
      have i1 : ¬ (k : Int) < (xs.length : Int) := by omega
      by_cases h2 : k < ys.length
      · have HE : Hid (rowsV xs ys = -1) := by
          show _ = _
          rw [unhide HR, e, List.drop_length, ← e, List.drop_eq_getElem_cons h2, rowsV]
        have i3 : (xs.length : Int) < (ys.length : Int) := by omega
        clear e
        go_wp2
        go_ret
        exact ⟨by rw [unhide HE]; rfl, hbel⟩
      · have e2 : k = ys.length := by omega
        have HE : Hid (rowsV xs ys = 0) := by
          show _ = _
          rw [unhide HR, e, List.drop_length, ← e, e2, List.drop_length, rowsV]
        have i3 : ¬ (xs.length : Int) < (ys.length : Int) := by omega
        clear e e2
        go_wp2
        go_ret
        exact ⟨by rw [unhide HE]; rfl, hbel⟩
theorem rows_up (aa ab : Option Addr) (ca cb : Nat) (xs ys : List Val) (w : World) (hla : xs.length ≤ maxLen) (hlb : ys.length ≤ maxLen) (ha : RowAt w aa xs) (hb : RowAt w ab ys) :
    Calls Tryz.prog 35 #[.slice aa xs.length ca, .slice ab ys.length cb] w fun e w' => e = .returned (.int .i64 (rowsV xs ys)) ∧ Up w w' := by
  have HC := hide (compare_up aa ab ca cb xs ys w hla hlb ha hb)
  clear ha hb hla hlb
  go_enter Tryz.func35, Tryz.ntmps35
  go_wp2_with (go_at_call 57; refine (unhide HC).mono ?_; rintro e w1 ⟨rfl, hb1⟩)
  go_ret
  exact ⟨rfl, hb1⟩


set_option maxHeartbeats 2000000 in
/-- at (34). -/
theorem at_up (a : Option Addr) (c : Nat) (xs : List Val) (i : Int) (w : World) (hl : xs.length ≤ 1048576) (hi : 0 ≤ i) (ha : RowAt w a xs) :
    Calls Tryz.prog 34 #[.slice a xs.length c, .int .i64 i] w fun e w' => e = .returned (xs.getD i.toNat .null).v ∧ Up w w' := by
  obtain ⟨k, rfl⟩ : ∃ k : Nat, i = (k : Int) := ⟨i.toNat, by omega⟩
  rw [Int.toNat_natCast]
  by_cases h : k < xs.length
  · have i1 : (k : Int) < (xs.length : Int) := by omega
    obtain ⟨x, hx⟩ : ∃ x, xs[k]? = some x := ⟨_, List.getElem?_eq_getElem h⟩
    have e : xs.getD k .null = x := by rw [List.getD_eq_getElem?_getD, hx]; rfl
    rw [e]
    obtain ⟨b, off, rfl, d0, d1, d2⟩ := ha.lo hx
    have n0 := World.block_lt_of_cell? _ _ d0
    rw [x.open_]
    clear ha hx e hi
    go_enter Tryz.func34, Tryz.ntmps34
    go_wp2
    exact bodyPost_ret (v := .agg #[.int .i64 x.k, .int .i64 x.n, .string x.s]) (by simp [results, Tryz.results34, go_sem]) rfl ⟨rfl, (Up.refl _).alloc _⟩
  · have i1 : ¬ (k : Int) < (xs.length : Int) := by omega
    have e : xs.getD k .null = .null := by rw [List.getD_eq_getElem?_getD, List.getElem?_eq_none (by omega)]; rfl
    rw [e]
    clear ha e hi
    go_enter Tryz.func34, Tryz.ntmps34
    go_wp2
    exact bodyPost_ret (v := .agg #[.int .i64 0, .int .i64 0, .string ⟨#[]⟩]) (by simp [results, Tryz.results34, go_sem]) rfl ⟨rfl, (Up.refl _).alloc _⟩
/-- The order by keys, then by the whole row. -/
def ordG (ks : List (Int × Bool)) (x y : List Val) : Int := if keysV ks x y = 0 then rowsV x y else keysV ks x y
theorem ordG_step {ks : List (Int × Bool)} {j : Nat} {k : Int × Bool} (h : ks[j]? = some k) (x y : List Val) : ordG (ks.drop j) x y = if keyV k x y = 0 then ordG (ks.drop (j + 1)) x y else keyV k x y := by
  unfold ordG
  rw [keys_step h]
  by_cases e : keyV k x y = 0
  · rw [if_pos e, if_pos e]
  · rw [if_neg e, if_neg e, if_neg e]
set_option maxHeartbeats 4000000 in
/-- The order of a sorter (32): B is the box of its keys. -/
theorem ord32 (B : Nat) (aK : Option Addr) (cK : Nat) (ks : List (Int × Bool)) (aa ab : Option Addr) (ca cb : Nat) (xs ys : List Val) (w : World) (hB : w.cell? ⟨B, 0, none⟩ = some (.slice aK ks.length cK)) (hK : KeysAt w aK ks) (hk0 : ∀ k ∈ ks, 0 ≤ k.1) (hkl : ks.length ≤ 1048576) (hla : xs.length ≤ 1048576) (hlb : ys.length ≤ 1048576) (ha : RowAt w aa xs) (hb : RowAt w ab ys) :
    Calls Tryz.prog 32 #[.slice aa xs.length ca, .slice ab ys.length cb, .pointer (some ⟨B, 0, none⟩)] w fun e w' => e = .returned (.int .i64 (ordG ks xs ys)) ∧ Up w w' := by
  have HA := hide (fun (i : Int) (w2 : World) (hi : 0 ≤ i) (hw : Up w w2) => at_up aa ca xs i w2 hla hi (ha.later hw.1))
  have HBt := hide (fun (i : Int) (w2 : World) (hi : 0 ≤ i) (hw : Up w w2) => at_up ab cb ys i w2 hlb hi (hb.later hw.1))
  have HR := hide (fun (w2 : World) (hw : Up w w2) => rows_up aa ab ca cb xs ys w2 (by unfold maxLen; omega) (by unfold maxLen; omega) (ha.later hw.1) (hb.later hw.1))
  have HK := hide hK
  have HK0 := hide hk0
  clear hK hk0 ha hb
  go_enter Tryz.func32, Tryz.ntmps32
  go_wp2_with fail
  go_loopw [11] (fun i wr => ∃ j : Nat, j ≤ ks.length ∧ i = .int .i64 (j : Int) ∧ Hid (ordG ks xs ys = ordG (ks.drop j) xs ys ∧ Up w wr)) (fun i _ => ks.length - (intOf i).toNat)
  case atStart => exact ⟨0, Nat.zero_le _, rfl, rfl, Up.refl _⟩
  case round =>
    obtain ⟨j, hj, rfl, HI⟩ := hrel
    by_cases hlt : j < ks.length
    · have h9 : (j : Int) < (ks.length : Int) := by omega
      obtain ⟨k, hx⟩ : ∃ k, ks[j]? = some k := ⟨_, List.getElem?_eq_getElem hlt⟩
      obtain ⟨bK, oK, rfl, c0, c1⟩ := ((unhide HK).later (unhide HI).2.1).get hx
      have HS := hide (ordG_step hx xs ys)
      have hk0 := unhide HK0 k (List.mem_of_getElem? hx)
      have n0 := World.block_lt_of_cell? _ _ c0
      obtain ⟨kc, kd⟩ := k
      clear hx
      simp only at c0 c1 hk0
      have HI2 := hide (unhide HI).2
      obtain ⟨W, hW⟩ : ∃ W, wr.alloc (.cells #[.int .i64 kc, .bool kd] 58) = W := ⟨_, rfl⟩
      have HU : Hid (Up w W) := by rw [← hW]; exact (unhide HI2).alloc _
      have e0 : W.cell? ⟨wr.heap.size, 0, none⟩ = some (.int .i64 kc) := by rw [← hW]; simp [go_sem]
      have e1 : W.cell? ⟨wr.heap.size, 1, none⟩ = some (.bool kd) := by rw [← hW]; simp [go_sem]
      go_upto_region 4 with fail
      try rw [hW]
      obtain ⟨O, hO⟩ : ∃ O, ordV (xs.getD kc.toNat .null) (ys.getD kc.toNat .null) = O := ⟨_, rfl⟩
      have HO := hide hO
      have hor := ord_range (xs.getD kc.toNat .null) (ys.getD kc.toNat .null)
      rw [hO] at hor
      clear hO
      go_cut [8] (fun s8 wx => s8 = .int .i64 O ∧ Up w wx ∧ wx.cell? ⟨wr.heap.size, 1, none⟩ = some (.bool kd))
      case first =>
        go_region_with (first
          | (go_at_call_of 34 (Value.slice aa xs.length ca); refine (unhide HA kc W.drew hk0 (unhide HU).drew).mono ?_; rintro _ w2 ⟨rfl, hu2⟩; have HU2 := hide ((unhide HU).drew.step hu2); have k0 := clater e0 (below_step (Below.refl _ W).drew hu2.1); have k1 := clater e1 (below_step (Below.refl _ W).drew hu2.1))
          | (go_at_call_of 34 (Value.slice ab ys.length cb); refine (unhide HBt kc _ hk0 (unhide HU2)).mono ?_; rintro _ w3 ⟨rfl, hu3⟩; have HU3 := hide ((unhide HU2).step hu3); have k2 := clater k1 hu3.1)
          | (go_at_call 33; refine (order_up _ _ w3).mono ?_; rintro _ w4 ⟨rfl, hu4⟩; have HU4 := hide ((unhide HU3).step hu4); have k3 := clater k2 hu4.1))
        all_goals (go_wp2; go_meet; exact ⟨by have q := unhide HO; simp only [List.getD_eq_getElem?_getD] at q; rw [q], unhide HU4, k3⟩)
      case rest =>
        obtain ⟨rfl, hUx, kx⟩ := hcut
        rename World => wx
        have HUX := hide hUx
        clear hUx e0 e1 HU hW
        have hkey : keyV (kc, kd) xs ys = if kd then -O else O := by unfold keyV; simp only; rw [unhide HO]
        obtain ⟨q1, q2⟩ := unhide HI
        have HQ : Hid (ordG ks xs ys = if keyV (kc, kd) xs ys = 0 then ordG (ks.drop (j + 1)) xs ys else keyV (kc, kd) xs ys) := by show _ = _; rw [q1, unhide HS]
        clear q1 q2
        have en : IntKind.i64.wrap (-O) = -O := IntWalk.i64_in _ (by omega)
        cases kd
        · rw [if_neg (by decide)] at hkey
          rw [hkey] at HQ
          by_cases ho : O = 0
          · rw [if_pos ho] at HQ
            have ho' : (O != 0) = false := by simpa using ho
            clear ho hkey
            go_wp2
            go_roundw
            case rel => exact ⟨j + 1, by omega, by go_num, unhide HQ, unhide HUX⟩
            case measure => simp [intOf]; omega
          · rw [if_neg ho] at HQ
            have ho' : (O != 0) = true := by simpa using ho
            clear ho hkey
            go_wp2
            go_ret
            exact ⟨by rw [unhide HQ]; rfl, unhide HUX⟩
        · rw [if_pos rfl] at hkey
          rw [hkey] at HQ
          by_cases ho : -O = 0
          · rw [if_pos ho] at HQ
            have ho' : (-O != 0) = false := by simpa using ho
            clear ho hkey
            go_wp2
            go_roundw
            case rel => exact ⟨j + 1, by omega, by go_num, unhide HQ, unhide HUX⟩
            case measure => simp [intOf]; omega
          · rw [if_neg ho] at HQ
            have ho' : (-O != 0) = true := by simpa using ho
            clear ho hkey
            go_wp2
            go_ret
            exact ⟨by rw [unhide HQ]; rfl, unhide HUX⟩
    · have h9 : ¬ (j : Int) < (ks.length : Int) := by omega
      have hje : j = ks.length := by omega
      obtain ⟨q1, q2⟩ := unhide HI
      have HC := hide (unhide HR wr q2)
      have HQ : Hid (ordG ks xs ys = rowsV xs ys) := by show _ = _; rw [q1, hje, List.drop_length]; rfl
      clear q1 hje
      go_wp2_with (first | (go_at_call 35; refine (unhide HC).mono ?_; rintro _ w2 ⟨rfl, hu2⟩))
      go_ret
      exact ⟨by rw [unhide HQ]; rfl, q2.step hu2⟩
end Go.Proofs.YtcbenpodohjbiaaGreat

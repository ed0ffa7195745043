import Derived.Test.YtcpndojkfngioaaGreatPlG
import Derived.Test.YtcpndojkfngioaaGreatKnD
set_option linter.unusedSimpArgs false
set_option linter.unusedVariables false
namespace Go.Proofs.YtcpndojkfngioaaGreat
open Go.RowKit Go.Sort

/-- append of numbers, longer lists. -/
theorem wpList_push_ints {ops : Array Oper} {rest : List Oper} {o : Oper} {a : Act} {Q : Exit → Act → World → Prop} (w : World) (hgd : o.guard = none) (s x : Operand) (ho : o.op = .call { callee := .builtin .append, args := #[s, x], argTypes := #[23, 23] })
    (base base2 : Nat) (v u : Value) (L1 L2 : List Int) (hs : a.eval s = v) (hown : OwnI w base v L1) (hx : a.eval x = u) (hown2 : OwnI w base2 u L2) (hl : L1.length + L2.length ≤ 4000000) (hbase : base ≤ w.heap.size)
    (h : ∀ v' w', OwnI w' base v' (L1 ++ L2) → Below base w w' → wpList Tryz.prog ops Q rest (a.put o.dst v') w') : wpList Tryz.prog ops Q (o :: rest) a w := by
  obtain ⟨i4, hi4, z40, z41, z42⟩ := info_parts info3
  rcases hown2.2 with ⟨rfl, h0⟩ | ⟨g, cap, cur, rfl, _⟩
  · have : L2 = [] := List.eq_nil_of_length_eq_zero h0
    subst this
    exact wpList_append_own_none hgd s x 23 ho base 3 i4 1 Tryz.underlying23 hi4 v L1.length _ hs hown hx (h v w (by rw [List.append_nil]; exact hown) (Below.refl _ _))
  · refine wpList_append_own_at w hgd s x 23 ho base 3 i4 (.int .i64 0) 1 8 Tryz.underlying23 hi4 z40 z41 z42 rfl (by decide) v L1.length (L1.map (.int .i64)) hs hown ⟨g, 0, none⟩ L2.length cap (L2.map (.int .i64)) hx (by simp) (World.ownsRow.cells hown2 rfl) (ints_one L2) (by unfold maxLen; omega) (by omega) hbase ?_
    intro v' w' h1 h2 _ _
    refine h v' w' ?_ (grown_below h2 hbase (own_ge hown))
    unfold OwnI
    rw [List.length_append, List.map_append]
    exact h1
/-- What is answered: numbers of the call's own. -/
def OwnQ (L : List Int) (w : World) (r : Ending) (w' : World) : Prop := ∃ a c, r = .returned (.slice a L.length c) ∧ OwnI w' w.heap.size (.slice a L.length c) L ∧ Below w.heap.size w w'
theorem take_snocI {α β : Type} (f : α → β) {l : List α} {k : Nat} {x : α} (h : l[k]? = some x) : (l.take (k + 1)).map f = (l.take k).map f ++ [f x] := by
  obtain ⟨h1, rfl⟩ := List.getElem?_eq_some_iff.1 h
  rw [List.take_succ_eq_append_getElem h1, List.map_append]; rfl
set_option maxHeartbeats 2000000 in
set_option maxRecDepth 100000 in
/-- tallyref.keyCols (38). -/
theorem keyCols_any (ks : List (Int × Bool)) (a : Option Addr) (c : Nat) (w : World) (hl : ks.length ≤ 1048576) (ha : KeysAt w a ks) :
    Calls Tryz.prog 38 #[.slice a ks.length c] w (OwnQ (ks.map Prod.fst) w) := by
  have HA := hide ha
  clear ha
  go_enter Tryz.func38, Tryz.ntmps38
  go_wp2_with fail
  go_loopw [3, 8] (fun v i wr => ∃ (k : Nat) (a3 : Option Addr) (c3 : Nat), k ≤ ks.length ∧ i = .int .i64 (k : Int) ∧ v = .slice a3 k c3 ∧ Hid (OwnI wr w.heap.size (.slice a3 k c3) ((ks.take k).map Prod.fst)) ∧ Hid (Below w.heap.size w wr)) (fun _ i _ => ks.length - (intOf i).toNat)
  case atStart => exact ⟨0, none, 0, Nat.zero_le _, rfl, rfl, own_nil _ _, Below.refl _ _⟩
  case round =>
    obtain ⟨k, a3, c3, hk, rfl, rfl, HO, HB⟩ := hrel
    by_cases hlt : k < ks.length
    · have h9 : (k : Int) < (ks.length : Int) := by omega
      obtain ⟨x, hx⟩ : ∃ x, ks[k]? = some x := ⟨_, List.getElem?_eq_getElem hlt⟩
      obtain ⟨b, off, rfl, d0, d1⟩ := ((unhide HA).later (unhide HB)).get hx
      have HT := hide (take_snocI Prod.fst hx)
      have hlen : ((ks.take k).map Prod.fst).length = k := by simp; omega
      have HLN := hide hlen
      have hb1 := below_alloc (Below.refl _ wr) (.cells #[.int .i64 x.1, .bool x.2] 102)
      have hb2 := below_alloc hb1 (.cells #[.int .i64 x.1] 3)
      have HO1 := hide ((unhide HO).later hb2)
      have HS := hide (own_single (wr.alloc (.cells #[.int .i64 x.1, .bool x.2] 102)) w.heap.size (by have := (unhide HB).size; simp; omega) x.1)
      have HB2 := hide (below_step (unhide HB) hb2)
      have hsz : (wr.alloc (.cells #[.int .i64 x.1, .bool x.2] 102)).heap.size = wr.heap.size + 1 := by simp [go_sem]
      rw [hsz] at HS
      clear hsz
      obtain ⟨x1, x2⟩ := x
      simp only at d0 d1 HT HO1 HS HB2
      generalize (ks.take k).map Prod.fst = zs at *
      clear hx hb1 hb2 hlen
      go_wp2_with (at_builtin; go_loud (refine wpList_push_ints _ rfl (.tmp 12) (.tmp 15) rfl w.heap.size w.heap.size _ _ zs [x1] rfl (unhide HO1) rfl (unhide HS) (by rw [unhide HLN]; simp; omega) (unhide HB2).size ?_); intro v' w' hO' hB')
      obtain ⟨a', c', rfl⟩ := hO'.slice
      have e : (zs ++ [x1]).length = k + 1 := by rw [List.length_append, unhide HLN]; rfl
      rw [e] at hO' ⊢
      rw [← unhide HT] at hO'
      exact ⟨⟨k + 1, a', c', by omega, by go_num, rfl, hO', (unhide HB2).trans hB'⟩, by simp [intOf]; omega⟩
    · have h9 : ¬ (k : Int) < (ks.length : Int) := by omega
      obtain rfl : k = ks.length := by omega
      rw [List.take_length] at HO
      clear hk hlt
      go_wp2
      go_ret
      refine ⟨a3, c3, by rw [List.length_map]; rfl, ?_, unhide HB⟩
      rw [List.length_map]
      exact unhide HO
end Go.Proofs.YtcpndojkfngioaaGreat
set_option linter.unusedSimpArgs false
set_option linter.unusedVariables false
namespace Go.Proofs.YtcpndojkfngioaaGreat
open Go.RowKit Go.Sort

theorem made_ints {w : World} {base g n : Nat} (h : w.ownsRow base 3 1 (.slice (some ⟨g, 0, none⟩) n n) n (madeCells (Value.cells (.int .i64 0)) (n * 1)).toList) : OwnI w base (.slice (some ⟨g, 0, none⟩) n n) (List.replicate n 0) := by
  have hz : (madeCells (Value.cells (.int .i64 0)) (n * 1)).toList = List.replicate n (Value.int .i64 0) := by rw [Nat.mul_one]; exact toList_madeCells_one _ _
  rw [hz] at h
  unfold OwnI
  rw [List.length_replicate, List.map_replicate]
  exact h
theorem set_zeroP (d : List Int) (n k : Nat) (hd : d.length = k) (hk : k < n) (y : Int) : (d ++ List.replicate (n - k) 0).set k y = (d ++ [y]) ++ List.replicate (n - (k + 1)) 0 := by
  obtain ⟨m, hm⟩ : ∃ m, n - k = m + 1 := ⟨n - k - 1, by omega⟩
  rw [hm, show n - (k + 1) = m by omega, ← hd]
  exact set_zero d m y
theorem at_zeroP (d : List Int) (n k : Nat) (hd : d.length = k) (hk : k < n) : (d ++ List.replicate (n - k) (0 : Int))[k]? = some 0 ∧ n = (d ++ List.replicate (n - k) (0 : Int)).length := by
  refine ⟨?_, by rw [List.length_append, List.length_replicate]; omega⟩
  obtain ⟨m, hm⟩ : ∃ m, n - k = m + 1 := ⟨n - k - 1, by omega⟩
  rw [List.getElem?_append_right (by omega), hd, Nat.sub_self, hm]
  rfl
set_option maxHeartbeats 2000000 in
set_option maxRecDepth 100000 in
/-- columnsOf (84). -/
theorem columnsOf_any (ks : List (Int × Bool)) (a : Option Addr) (c : Nat) (w : World) (hl : ks.length ≤ 1048576) (ha : KeysAt w a ks) :
    Calls Tryz.prog 84 #[.slice a ks.length c] w (OwnQ (ks.map Prod.fst) w) := by
  have HA := hide ha
  obtain ⟨i4, hi4, z40, z41, z42⟩ := info_parts info3K
  clear ha
  go_enter Tryz.func84, Tryz.ntmps84
  go_upto_region 2 with (at_make; refine wpList_make_full _ rfl (.tmp 7) (.tmp 7) 23 rfl w.heap.size 3 i4 (.int .i64 0) 1 Tryz.underlying23 hi4 z40 z41 .i64 .i64 _ _ ks.length rfl rfl rfl rfl (by rw [z42]; omega) (by unfold maxLen; omega) (Nat.le_refl _) ?_; intro w2 hO2 hg2)
  have HB2 := hide (grown_below hg2 (Nat.le_refl _) (fun g hg => by cases hg))
  have HO2 := hide (made_ints hO2)
  clear hO2 hg2 z40 z41 z42 hi4
  go_wp2_with fail
  go_loopw [11] (fun i wr => ∃ (k : Nat), k ≤ ks.length ∧ i = .int .i64 (k : Int) ∧ Hid (OwnI wr w.heap.size (.slice (some ⟨w.heap.size, 0, none⟩) ks.length ks.length) ((ks.take k).map Prod.fst ++ List.replicate (ks.length - k) 0)) ∧ Hid (Below w.heap.size w wr)) (fun i _ => ks.length - (intOf i).toNat)
  case atStart => exact ⟨0, Nat.zero_le _, rfl, unhide HO2, unhide HB2⟩
  case round =>
    clear HO2 HB2
    obtain ⟨k, hk, rfl, HO, HB⟩ := hrel
    by_cases hlt : k < ks.length
    · have h9 : (k : Int) < (ks.length : Int) := by omega
      obtain ⟨x, hx⟩ : ∃ x, ks[k]? = some x := ⟨_, List.getElem?_eq_getElem hlt⟩
      obtain ⟨b, off, rfl, d0, d1⟩ := ((unhide HA).later (unhide HB)).get hx
      have HT := hide (take_snocI Prod.fst hx)
      have hlen : ((ks.take k).map Prod.fst).length = k := by simp; omega
      have hb1 := below_alloc (Below.refl _ wr) (.cells #[.int .i64 x.1, .bool x.2] 102)
      have hO1 := (unhide HO).later hb1
      obtain ⟨y1, y2⟩ := at_zeroP _ ks.length k hlen hlt
      obtain ⟨q0, q1⟩ := hO1.at y2 y1
      have hO3 := hO1.store (k := k) y2 x.1
      rw [set_zeroP _ _ _ hlen hlt, ← unhide HT] at hO3
      have HO3 := hide hO3
      have HB3 := hide ((below_step (unhide HB) hb1).setCell (p := ⟨w.heap.size, k, none⟩) (Nat.le_refl _) (.int .i64 x.1))
      obtain ⟨x1, x2⟩ := x
      simp only at d0 d1 q0 q1 HO3 HB3
      clear hx hb1 hlen hO1 hO3 y1 y2 HO HT
      go_wp2
      exact ⟨⟨k + 1, by omega, by go_num, unhide HO3, unhide HB3⟩, by simp [intOf]; omega⟩
    · have h9 : ¬ (k : Int) < (ks.length : Int) := by omega
      obtain rfl : k = ks.length := by omega
      rw [List.take_length, Nat.sub_self, List.replicate_zero, List.append_nil] at HO
      clear hk hlt
      go_wp2
      go_ret
      refine ⟨_, _, by rw [List.length_map]; rfl, ?_, unhide HB⟩
      rw [List.length_map]
      exact unhide HO
set_option maxHeartbeats 1000000 in
set_option maxRecDepth 100000 in
/-- tallyref.low (50). -/
theorem low_any (xs : List Int) (a : Option Addr) (c : Nat) (w : World) (hl : xs.length ≤ 140737488355328) (ha : IntsAt w a xs) :
    Calls Tryz.prog 50 #[.slice a xs.length c] w fun r w' => r = .returned (.bool (xs.any fun x => decide (x < 0))) ∧ Below w.heap.size w w' := by
  have HA := hide ha
  obtain ⟨R, hR⟩ : ∃ R, R = xs.any fun x => decide (x < 0) := ⟨_, rfl⟩
  rw [← hR]
  have HR := hide hR
  clear ha hR
  go_enter Tryz.func50, Tryz.ntmps50
  go_wp2_with fail
  go_loopw [7] (fun i wr => ∃ (k : Nat), k ≤ xs.length ∧ i = .int .i64 (k : Int) ∧ Hid (∀ x ∈ xs.take k, ¬ x < 0) ∧ wr = w) (fun i _ => xs.length - (intOf i).toNat)
  case atStart => exact ⟨0, Nat.zero_le _, rfl, fun x hx => by simp at hx, rfl⟩
  case round =>
    obtain ⟨k, hk, rfl, HN, rfl⟩ := hrel
    by_cases hlt : k < xs.length
    · have h9 : (k : Int) < (xs.length : Int) := by omega
      obtain ⟨x, hx⟩ : ∃ x, xs[k]? = some x := ⟨_, List.getElem?_eq_getElem hlt⟩
      obtain ⟨b, off, rfl, c0⟩ := (unhide HA).getP hx
      by_cases hx0 : x < 0
      · have HZ : Hid (R = true) := by rw [unhide HR]; exact List.any_eq_true.2 ⟨x, List.mem_of_getElem? hx, by simpa using hx0⟩
        clear hx HN
        go_wp2
        go_ret
        exact ⟨by rw [unhide HZ]; rfl, Below.refl _ _⟩
      · have HN2 : Hid (∀ x ∈ xs.take (k + 1), ¬ x < 0) := fun y hy => by
          obtain ⟨h1, rfl⟩ := List.getElem?_eq_some_iff.1 hx
          rw [List.take_succ_eq_append_getElem h1, List.mem_append] at hy
          rcases hy with hy | hy
          · exact unhide HN y hy
          · simp at hy; subst hy; exact hx0
        clear hx HN
        go_wp2
        exact ⟨⟨k + 1, by omega, by go_num, unhide HN2, trivial⟩, by simp [intOf]; omega⟩
    · have h9 : ¬ (k : Int) < (xs.length : Int) := by omega
      have HZ : Hid (R = false) := by
        have h := unhide HN
        rw [List.take_of_length_le (by omega)] at h
        rw [unhide HR]
        exact List.any_eq_false.2 fun x hx => by simpa using h x hx
      clear HN
      go_wp2
      go_ret
      exact ⟨by rw [unhide HZ]; rfl, Below.refl _ _⟩
end Go.Proofs.YtcpndojkfngioaaGreat
set_option linter.unusedSimpArgs false
set_option linter.unusedVariables false
namespace Go.Proofs.YtcpndojkfngioaaGreat
open Go.RowKit Go.Sort

theorem nodup_take {xs : List Int} {k : Nat} {x : Int} (h : xs[k]? = some x) (hn : (xs.take k).Nodup) : (x ∉ xs.take k → (xs.take (k + 1)).Nodup) ∧ (x ∈ xs.take k → ¬ xs.Nodup) := by
  obtain ⟨g1, g2⟩ := nodup_step h hn
  unfold cntF at g1 g2
  refine ⟨fun hm => g1 ?_, fun hm => g2 ?_⟩
  · rw [List.count_eq_zero.2 hm]; rfl
  · have := List.count_pos_iff.2 hm; omega
set_option maxHeartbeats 2000000 in
set_option maxRecDepth 100000 in
/-- tallyref.unlike (51). -/
theorem unlikeR_any (xs : List Int) (a : Option Addr) (c : Nat) (w : World) (hl : xs.length ≤ 140737488355328) (hc : xs.length ≤ c) (ha : IntsAt w a xs) :
    Calls Tryz.prog 51 #[.slice a xs.length c] w fun r w' => r = .returned (.bool (decide xs.Nodup)) ∧ Below w.heap.size w w' := by
  have HA := hide ha
  obtain ⟨R, hR⟩ : ∃ R, R = decide xs.Nodup := ⟨_, rfl⟩
  rw [← hR]
  have HR := hide hR
  clear ha hR
  go_enter Tryz.func51, Tryz.ntmps51
  go_wp2_with fail
  go_loopw [9] (fun i wr => ∃ (k : Nat), k ≤ xs.length ∧ i = .int .i64 (k : Int) ∧ Hid ((xs.take k).Nodup) ∧ wr = w) (fun i _ => xs.length - (intOf i).toNat)
  case atStart => exact ⟨0, Nat.zero_le _, rfl, by show (xs.take 0).Nodup; simp, rfl⟩
  case round =>
    obtain ⟨k, hk, rfl, HN, rfl⟩ := hrel
    by_cases hlt : k < xs.length
    · have h9 : (k : Int) < (xs.length : Int) := by omega
      obtain ⟨x, hx⟩ : ∃ x, xs[k]? = some x := ⟨_, List.getElem?_eq_getElem hlt⟩
      obtain ⟨b, off, rfl, c0⟩ := (unhide HA).getP hx
      have HNT := hide (nodup_take hx (unhide HN))
      have hkc : (k : Int) ≤ (c : Int) := by omega
      clear hx HN
      go_wp2_with fail
      go_loopw [18] (fun i wx => ∃ (j : Nat), j ≤ k ∧ i = .int .i64 (j : Int) ∧ Hid (∀ y ∈ xs.take j, ¬ x = y) ∧ wx = wr) (fun i _ => k - (intOf i).toNat)
      case atStart => exact ⟨0, Nat.zero_le _, rfl, fun x hx => by simp at hx, rfl⟩
      case round =>
        obtain ⟨j, hj, rfl, HM, rfl⟩ := hrel
        by_cases hjl : j < k
        · have h8 : (j : Int) < (k : Int) := by omega
          obtain ⟨y, hy⟩ : ∃ y, xs[j]? = some y := ⟨_, List.getElem?_eq_getElem (by omega)⟩
          obtain ⟨b', off', e, d0⟩ := (unhide HA).getP hy
          simp only [Option.some.injEq, Addr.mk.injEq, and_true] at e
          obtain ⟨rfl, rfl⟩ := e
          by_cases hxy : x = y
          · subst hxy
            have HZ : Hid (R = false) := by
              have hm : x ∈ xs.take k := List.mem_iff_getElem?.2 ⟨j, by rw [List.getElem?_take, if_pos hjl]; exact hy⟩
              rw [unhide HR]; show _ = _; simpa using (unhide HNT).2 hm
            clear hy HM
            go_wp2
            go_ret
            exact ⟨by rw [unhide HZ]; rfl, Below.refl _ _⟩
          · have hxy' : (x == y) = false := by simpa using hxy
            have HM2 : Hid (∀ y ∈ xs.take (j + 1), ¬ x = y) := fun z hz => by
              obtain ⟨h1, rfl⟩ := List.getElem?_eq_some_iff.1 hy
              rw [List.take_succ_eq_append_getElem h1, List.mem_append] at hz
              rcases hz with hz | hz
              · exact unhide HM z hz
              · simp at hz; subst hz; exact hxy
            clear hy HM hxy
            go_wp2
            exact ⟨⟨j + 1, by omega, by go_num, unhide HM2, trivial⟩, by simp [intOf]; omega⟩
        · have h8 : ¬ (j : Int) < (k : Int) := by omega
          have HN2 : Hid ((xs.take (k + 1)).Nodup) := by
            refine (unhide HNT).1 fun hm => ?_
            obtain rfl : j = k := by omega
            exact unhide HM x hm rfl
          clear HM HNT
          go_wp2
          exact ⟨⟨k + 1, by omega, by go_num, unhide HN2, trivial⟩, by simp [intOf]; omega⟩
    · have h9 : ¬ (k : Int) < (xs.length : Int) := by omega
      have HZ : Hid (R = true) := by
        have h := unhide HN
        rw [List.take_of_length_le (by omega)] at h
        rw [unhide HR]
        exact decide_eq_true h
      clear HN
      go_wp2
      go_ret
      exact ⟨by rw [unhide HZ]; rfl, Below.refl _ _⟩
/-- A loop that looks for the first that fails: what is left. -/
theorem any_snoc {α : Type} {p : α → Bool} {l : List α} {k : Nat} {x : α} (h : l[k]? = some x) (hn : (l.take k).any p = false) (hx : p x = false) : (l.take (k + 1)).any p = false := by
  obtain ⟨h1, rfl⟩ := List.getElem?_eq_some_iff.1 h
  rw [List.take_succ_eq_append_getElem h1, List.any_append, hn]
  simp [hx]
theorem any_mem {α : Type} {p : α → Bool} {l : List α} {k : Nat} {x : α} (h : l[k]? = some x) (hx : p x = true) : l.any p = true := List.any_eq_true.2 ⟨x, List.mem_of_getElem? h, hx⟩
set_option maxHeartbeats 2000000 in
set_option maxRecDepth 100000 in
/-- tallyref.aggs (52). -/
theorem aggs_any (xs : List (Int × Int)) (a : Option Addr) (c : Nat) (w : World) (hl : xs.length ≤ 140737488355328) (ha : AggsAt w a xs) :
    Calls Tryz.prog 52 #[.slice a xs.length c] w fun r w' => r = .returned (.bool (!xs.any noAgg)) ∧ Below w.heap.size w w' := by
  have HA := hide ha
  obtain ⟨R, hR⟩ : ∃ R, R = xs.any noAgg := ⟨_, rfl⟩
  rw [← hR]
  have HR := hide hR
  clear ha hR
  go_enter Tryz.func52, Tryz.ntmps52
  go_wp2_with fail
  go_loopw [7] (fun i wr => ∃ (k : Nat), k ≤ xs.length ∧ i = .int .i64 (k : Int) ∧ Hid ((xs.take k).any noAgg = false) ∧ Hid (Below w.heap.size w wr)) (fun i _ => xs.length - (intOf i).toNat)
  case atStart => exact ⟨0, Nat.zero_le _, rfl, by show (xs.take 0).any noAgg = false; rfl, Below.refl _ _⟩
  case round =>
    obtain ⟨k, hk, rfl, HN, HB⟩ := hrel
    by_cases hlt : k < xs.length
    · have h9 : (k : Int) < (xs.length : Int) := by omega
      obtain ⟨⟨f, q⟩, hx⟩ : ∃ x, xs[k]? = some x := ⟨_, List.getElem?_eq_getElem hlt⟩
      obtain ⟨b, off, rfl, c0, c1⟩ := ((unhide HA).later (unhide HB)).get hx
      simp only at c0 c1
      have HB2 := hide (below_alloc (unhide HB) (.cells #[.int .i64 f, .int .i64 q] 100))
      have HY : Hid (noAgg (f, q) = false → (xs.take (k + 1)).any noAgg = false) := fun h => any_snoc hx (unhide HN) h
      have HX : Hid (noAgg (f, q) = true → R = true) := fun h => by rw [unhide HR]; exact any_mem hx h
      clear hx HN
      by_cases h1 : f < 1
      · have HZ : Hid (R = true) := unhide HX (by unfold noAgg; simp [h1])
        go_wp2
        go_ret
        exact ⟨by rw [unhide HZ]; rfl, unhide HB2⟩
      by_cases h2 : 6 < f
      · have HZ : Hid (R = true) := unhide HX (by unfold noAgg; simp [h2])
        go_wp2
        go_ret
        exact ⟨by rw [unhide HZ]; rfl, unhide HB2⟩
      by_cases h3 : q < 0
      · have HZ : Hid (R = true) := unhide HX (by unfold noAgg; simp [h3])
        go_wp2
        go_ret
        exact ⟨by rw [unhide HZ]; rfl, unhide HB2⟩
      by_cases h4 : f = 1
      · subst h4
        by_cases h5 : q = 0
        · subst h5
          have HN2 := hide (unhide HY (by decide))
          go_wp2
          exact ⟨⟨k + 1, by omega, by go_num, unhide HN2, unhide HB2⟩, by simp [intOf]; omega⟩
        · have h6 : (q != 0) = true := by simpa using h5
          have HZ : Hid (R = true) := unhide HX (by unfold noAgg; simp [h5])
          go_wp2
          go_ret
          exact ⟨by rw [unhide HZ]; rfl, unhide HB2⟩
      · have h5 : (f == 1) = false := by simpa using h4
        have HN2 := hide (unhide HY (by unfold noAgg; rw [h5]; simp [h1, h2, h3]))
        go_wp2
        exact ⟨⟨k + 1, by omega, by go_num, unhide HN2, unhide HB2⟩, by simp [intOf]; omega⟩
    · have h9 : ¬ (k : Int) < (xs.length : Int) := by omega
      have HZ : Hid (R = false) := by
        have h := unhide HN
        rw [List.take_of_length_le (by omega)] at h
        rw [unhide HR]
        exact h
      clear HN
      go_wp2
      go_ret
      exact ⟨by rw [unhide HZ]; rfl, unhide HB⟩
/-- Kinds that may be. -/
def kindsB (ks : List Int) : Bool := decide (1 ≤ ks.length) && decide (ks.length ≤ 32) && !ks.any noKP
set_option maxHeartbeats 2000000 in
set_option maxRecDepth 100000 in
/-- tallyref.kindsOK (25). -/
theorem kindsOK_any (xs : List Int) (a : Option Addr) (c : Nat) (w : World) (hl : xs.length ≤ 140737488355328) (ha : IntsAt w a xs) :
    Calls Tryz.prog 25 #[.slice a xs.length c] w fun r w' => r = .returned (.bool (kindsB xs)) ∧ Below w.heap.size w w' := by
  have HA := hide ha
  obtain ⟨R, hR⟩ : ∃ R, R = kindsB xs := ⟨_, rfl⟩
  rw [← hR]
  unfold kindsB at hR
  have HR := hide hR
  clear ha hR
  by_cases h1 : xs.length < 1
  · have i1 : (xs.length : Int) < 1 := by omega
    have HZ : Hid (R = false) := by rw [unhide HR]; have : decide (1 ≤ xs.length) = false := decide_eq_false (by omega); show _ = _; rw [this]; rfl
    go_enter Tryz.func25, Tryz.ntmps25
    go_wp2
    go_ret
    exact ⟨by rw [unhide HZ]; rfl, Below.refl _ _⟩
  by_cases h2 : 32 < xs.length
  · have i1 : ¬ (xs.length : Int) < 1 := by omega
    have i2 : (32 : Int) < (xs.length : Int) := by omega
    have HZ : Hid (R = false) := by rw [unhide HR]; have : decide (xs.length ≤ 32) = false := decide_eq_false (by omega); show _ = _; rw [this, Bool.and_false]; rfl
    go_enter Tryz.func25, Tryz.ntmps25
    go_wp2
    go_ret
    exact ⟨by rw [unhide HZ]; rfl, Below.refl _ _⟩
  have i1 : ¬ (xs.length : Int) < 1 := by omega
  have i2 : ¬ (32 : Int) < (xs.length : Int) := by omega
  have HR2 : Hid (R = !xs.any noKP) := by
    rw [unhide HR]
    have e1 : decide (1 ≤ xs.length) = true := decide_eq_true (by omega)
    have e2 : decide (xs.length ≤ 32) = true := decide_eq_true (by omega)
    show _ = _
    rw [e1, e2]; rfl
  clear HR
  go_enter Tryz.func25, Tryz.ntmps25
  go_wp2_with fail
  go_loopw [15] (fun i wr => ∃ (k : Nat), k ≤ xs.length ∧ i = .int .i64 (k : Int) ∧ Hid ((xs.take k).any noKP = false) ∧ wr = w) (fun i _ => xs.length - (intOf i).toNat)
  case atStart => exact ⟨0, Nat.zero_le _, rfl, by show (xs.take 0).any noKP = false; rfl, rfl⟩
  case round =>
    obtain ⟨k, hk, rfl, HN, rfl⟩ := hrel
    by_cases hlt : k < xs.length
    · have h9 : (k : Int) < (xs.length : Int) := by omega
      obtain ⟨x, hx⟩ : ∃ x, xs[k]? = some x := ⟨_, List.getElem?_eq_getElem hlt⟩
      obtain ⟨b, off, rfl, c0⟩ := (unhide HA).getP hx
      have HY : Hid (noKP x = false → (xs.take (k + 1)).any noKP = false) := fun h => any_snoc hx (unhide HN) h
      have HX : Hid (noKP x = true → R = false) := fun h => by rw [unhide HR2, any_mem hx h]; rfl
      clear hx HN
      by_cases h3 : x = 1
      · subst h3
        have HN2 := hide (unhide HY (by decide))
        go_wp2
        exact ⟨⟨k + 1, by omega, by go_num, unhide HN2, trivial⟩, by simp [intOf]; omega⟩
      by_cases h4 : x = 2
      · subst h4
        have HN2 := hide (unhide HY (by decide))
        go_wp2
        exact ⟨⟨k + 1, by omega, by go_num, unhide HN2, trivial⟩, by simp [intOf]; omega⟩
      · have g1 : (x != 1) = true := by simpa using h3
        have g2 : (x != 2) = true := by simpa using h4
        have HZ : Hid (R = false) := unhide HX (by unfold noKP; rw [g1, g2]; rfl)
        clear h3 h4
        go_wp2
        go_ret
        exact ⟨by rw [unhide HZ]; rfl, Below.refl _ _⟩
    · have h9 : ¬ (k : Int) < (xs.length : Int) := by omega
      have HZ : Hid (R = true) := by
        have h := unhide HN
        rw [List.take_of_length_le (by omega)] at h
        rw [unhide HR2, h]
        rfl
      clear HN
      go_wp2
      go_ret
      exact ⟨by rw [unhide HZ]; rfl, Below.refl _ _⟩
end Go.Proofs.YtcpndojkfngioaaGreat

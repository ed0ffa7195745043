import Derived.Test.YtcbenpodohjbiaaGreatPlD
import Derived.Test.YtcbenpodohjbiaaGreatKnB
import Derived.Test.YtcbenpodohjbiaaGreatPuB
import Derived.Test.YtcbenpodohjbiaaGreatPlA
import Derived.Test.YtcbenpodohjbiaaGreatExN
import Derived.Test.YtcbenpodohjbiaaGreatPaB
import Derived.Test.YtcbenpodohjbiaaGreatExA
import Derived.Laws.EntriesVeiled
import Derived.Lib.QuietBelow
set_option linter.unusedSimpArgs false
set_option linter.unusedVariables false
namespace Go.Proofs.YtcbenpodohjbiaaGreat
open Go.RowKit Go.Sort

/-- append of numbers, longer lists. -/
theorem wpList_push_ints {ops : Array Oper} {rest : List Oper} {o : Oper} {a : Act} {Q : Exit → Act → World → Prop} (w : World) (hgd : o.guard = none) (s x : Operand) (ho : o.op = .call { callee := .builtin .append, args := #[s, x], argTypes := #[59, 59] })
    (base base2 : Nat) (v u : Value) (L1 L2 : List Int) (hs : a.eval s = v) (hown : OwnI w base v L1) (hx : a.eval x = u) (hown2 : OwnI w base2 u L2) (hl : L1.length + L2.length ≤ 4000000) (hbase : base ≤ w.heap.size)
    (h : ∀ v' w', OwnI w' base v' (L1 ++ L2) → Below base w w' → wpList Tryz.prog ops Q rest (a.put o.dst v') w') : wpList Tryz.prog ops Q (o :: rest) a w := by
  obtain ⟨i4, hi4, z40, z41, z42⟩ := info_parts info3
  rcases hown2.2 with ⟨rfl, h0⟩ | ⟨g, cap, cur, rfl, _⟩
  · have : L2 = [] := List.eq_nil_of_length_eq_zero h0
    subst this
    exact wpList_append_own_none hgd s x 59 ho base 3 i4 1 Tryz.underlying59 hi4 v L1.length _ hs hown hx (h v w (by rw [List.append_nil]; exact hown) (Below.refl _ _))
  · refine wpList_append_own_at w hgd s x 59 ho base 3 i4 (.int .i64 0) 1 8 Tryz.underlying59 hi4 z40 z41 z42 rfl (by decide) v L1.length (L1.map (.int .i64)) hs hown ⟨g, 0, none⟩ L2.length cap (L2.map (.int .i64)) hx (by simp) (World.ownsRow.cells hown2 rfl) (ints_one L2) (by unfold maxLen; omega) (by omega) hbase ?_
    intro v' w' h1 h2 _ _
    refine h v' w' ?_ (grown_below h2 hbase (own_ge hown))
    unfold OwnI
    rw [List.length_append, List.map_append]
    exact h1
/-- What is answered: numbers of the call's own. -/
def OwnQ (L : List Int) (w : World) (r : Ending) (w' : World) : Prop := ∃ a c, r = .returned (.slice a L.length c) ∧ OwnI w' w.heap.size (.slice a L.length c) L ∧ Below w.heap.size w w'
theorem take_snocI {α β : Type} (f : α → β) {l : List α} {k : Nat} {x : α} (h : l[k]? = some x) : (l.take (k + 1)).map f = (l.take k).map f ++ [f x] := by
  obtain ⟨h1, rfl⟩ := List.getElem?_eq_some_iff.1 h
  rw [List.take_succ_eq_append_getElem h1, List.map_append]; rfl
set_option maxHeartbeats 2000000 in
set_option maxRecDepth 100000 in
/-- tallyref.keyCols (38). -/
theorem keyCols_any (ks : List (Int × Bool)) (a : Option Addr) (c : Nat) (w : World) (hl : ks.length ≤ 1048576) (ha : KeysAt w a ks) :
    Calls Tryz.prog 44 #[.slice a ks.length c] w (OwnQ (ks.map Prod.fst) w) := by
  have HA := hide ha
  clear ha
  go_enter Tryz.func44, Tryz.ntmps44
  go_wp2_with fail
  go_loopw [3, 8] (fun v i wr => ∃ (k : Nat) (a3 : Option Addr) (c3 : Nat), k ≤ ks.length ∧ i = .int .i64 (k : Int) ∧ v = .slice a3 k c3 ∧ Hid (OwnI wr w.heap.size (.slice a3 k c3) ((ks.take k).map Prod.fst)) ∧ Hid (Below w.heap.size w wr)) (fun _ i _ => ks.length - (intOf i).toNat)
  case atStart => exact ⟨0, none, 0, Nat.zero_le _, rfl, rfl, own_nil _ _, Below.refl _ _⟩
  case round =>
    obtain ⟨k, a3, c3, hk, rfl, rfl, HO, HB⟩ := hrel
    by_cases hlt : k < ks.length
    · have h9 : (k : Int) < (ks.length : Int) := by omega
      obtain ⟨x, hx⟩ : ∃ x, ks[k]? = some x := ⟨_, List.getElem?_eq_getElem hlt⟩
      obtain ⟨b, off, rfl, d0, d1⟩ := ((unhide HA).later (unhide HB)).get hx
      have HT := hide (take_snocI Prod.fst hx)
      have hlen : ((ks.take k).map Prod.fst).length = k := by simp; omega
      have HLN := hide hlen
      have hb1 := below_alloc (Below.refl _ wr) (.cells #[.int .i64 x.1, .bool x.2] 58)
      have hb2 := below_alloc hb1 (.cells #[.int .i64 x.1] 3)
      have HO1 := hide ((unhide HO).later hb2)
      have HS := hide (own_single (wr.alloc (.cells #[.int .i64 x.1, .bool x.2] 58)) w.heap.size (by have := (unhide HB).size; simp; omega) x.1)
      have HB2 := hide (below_step (unhide HB) hb2)
      have hsz : (wr.alloc (.cells #[.int .i64 x.1, .bool x.2] 58)).heap.size = wr.heap.size + 1 := by simp [go_sem]
      rw [hsz] at HS
      clear hsz
      obtain ⟨x1, x2⟩ := x
      simp only at d0 d1 HT HO1 HS HB2
      generalize (ks.take k).map Prod.fst = zs at *
      clear hx hb1 hb2 hlen
      go_wp2_with (at_builtin; go_loud (refine wpList_push_ints _ rfl (.tmp 12) (.tmp 15) rfl w.heap.size w.heap.size _ _ zs [x1] rfl (unhide HO1) rfl (unhide HS) (by rw [unhide HLN]; simp; omega) (unhide HB2).size ?_); intro v' w' hO' hB')
      obtain ⟨a', c', rfl⟩ := hO'.slice
      have e : (zs ++ [x1]).length = k + 1 := by rw [List.length_append, unhide HLN]; rfl
      rw [e] at hO' ⊢
      rw [← unhide HT] at hO'
      exact ⟨⟨k + 1, a', c', by omega, by go_num, rfl, hO', (unhide HB2).trans hB'⟩, by simp [intOf]; omega⟩
    · have h9 : ¬ (k : Int) < (ks.length : Int) := by omega
      obtain rfl : k = ks.length := by omega
      rw [List.take_length] at HO
      clear hk hlt
      go_wp2
      go_ret
      refine ⟨a3, c3, by rw [List.length_map]; rfl, ?_, unhide HB⟩
      rw [List.length_map]
      exact unhide HO
end Go.Proofs.YtcbenpodohjbiaaGreat
set_option linter.unusedSimpArgs false
set_option linter.unusedVariables false
namespace Go.Proofs.YtcbenpodohjbiaaGreat
open Go.RowKit Go.Sort

set_option maxHeartbeats 1000000 in
set_option maxRecDepth 100000 in
/-- tallyref.low (50). -/
theorem low_any (xs : List Int) (a : Option Addr) (c : Nat) (w : World) (hl : xs.length ≤ 140737488355328) (ha : IntsAt w a xs) :
    Calls Tryz.prog 43 #[.slice a xs.length c] w fun r w' => r = .returned (.bool (xs.any fun x => decide (x < 0))) ∧ Below w.heap.size w w' := by
  have HA := hide ha
  obtain ⟨R, hR⟩ : ∃ R, R = xs.any fun x => decide (x < 0) := ⟨_, rfl⟩
  rw [← hR]
  have HR := hide hR
  clear ha hR
  go_enter Tryz.func43, Tryz.ntmps43
  go_wp2_with fail
  go_loopw [7] (fun i wr => ∃ (k : Nat), k ≤ xs.length ∧ i = .int .i64 (k : Int) ∧ Hid (∀ x ∈ xs.take k, ¬ x < 0) ∧ wr = w) (fun i _ => xs.length - (intOf i).toNat)
  case atStart => exact ⟨0, Nat.zero_le _, rfl, fun x hx => by simp at hx, rfl⟩
  case round =>
    obtain ⟨k, hk, rfl, HN, rfl⟩ := hrel
    by_cases hlt : k < xs.length
    · have h9 : (k : Int) < (xs.length : Int) := by omega
      obtain ⟨x, hx⟩ : ∃ x, xs[k]? = some x := ⟨_, List.getElem?_eq_getElem hlt⟩
      obtain ⟨b, off, rfl, c0⟩ := (unhide HA).getP hx
      by_cases hx0 : x < 0
      · have HZ : Hid (R = true) := by rw [unhide HR]; exact List.any_eq_true.2 ⟨x, List.mem_of_getElem? hx, by simpa using hx0⟩
        clear hx HN
        go_wp2
        go_ret
        exact ⟨by rw [unhide HZ]; rfl, Below.refl _ _⟩
      · have HN2 : Hid (∀ x ∈ xs.take (k + 1), ¬ x < 0) := fun y hy => by
          obtain ⟨h1, rfl⟩ := List.getElem?_eq_some_iff.1 hx
          rw [List.take_succ_eq_append_getElem h1, List.mem_append] at hy
          rcases hy with hy | hy
          · exact unhide HN y hy
          · simp at hy; subst hy; exact hx0
        clear hx HN
        go_wp2
        exact ⟨⟨k + 1, by omega, by go_num, unhide HN2, trivial⟩, by simp [intOf]; omega⟩
    · have h9 : ¬ (k : Int) < (xs.length : Int) := by omega
      have HZ : Hid (R = false) := by
        have h := unhide HN
        rw [List.take_of_length_le (by omega)] at h
        rw [unhide HR]
        exact List.any_eq_false.2 fun x hx => by simpa using h x hx
      clear HN
      go_wp2
      go_ret
      exact ⟨by rw [unhide HZ]; rfl, Below.refl _ _⟩
end Go.Proofs.YtcbenpodohjbiaaGreat
set_option linter.unusedSimpArgs false
set_option linter.unusedVariables false
namespace Go.Proofs.YtcbenpodohjbiaaGreat
open Go.RowKit Go.Sort

theorem nodup_take {xs : List Int} {k : Nat} {x : Int} (h : xs[k]? = some x) (hn : (xs.take k).Nodup) : (x ∉ xs.take k → (xs.take (k + 1)).Nodup) ∧ (x ∈ xs.take k → ¬ xs.Nodup) := by
  obtain ⟨g1, g2⟩ := nodup_step h hn
  unfold cntF at g1 g2
  refine ⟨fun hm => g1 ?_, fun hm => g2 ?_⟩
  · rw [List.count_eq_zero.2 hm]; rfl
  · have := List.count_pos_iff.2 hm; omega
set_option maxHeartbeats 2000000 in
set_option maxRecDepth 100000 in
/-- tallyref.unlike (51). -/
theorem unlikeR_any (xs : List Int) (a : Option Addr) (c : Nat) (w : World) (hl : xs.length ≤ 140737488355328) (hc : xs.length ≤ c) (ha : IntsAt w a xs) :
    Calls Tryz.prog 45 #[.slice a xs.length c] w fun r w' => r = .returned (.bool (decide xs.Nodup)) ∧ Below w.heap.size w w' := by
  have HA := hide ha
  obtain ⟨R, hR⟩ : ∃ R, R = decide xs.Nodup := ⟨_, rfl⟩
  rw [← hR]
  have HR := hide hR
  clear ha hR
  go_enter Tryz.func45, Tryz.ntmps45
  go_wp2_with fail
  go_loopw [9] (fun i wr => ∃ (k : Nat), k ≤ xs.length ∧ i = .int .i64 (k : Int) ∧ Hid ((xs.take k).Nodup) ∧ wr = w) (fun i _ => xs.length - (intOf i).toNat)
  case atStart => exact ⟨0, Nat.zero_le _, rfl, by show (xs.take 0).Nodup; simp, rfl⟩
  case round =>
    obtain ⟨k, hk, rfl, HN, rfl⟩ := hrel
    by_cases hlt : k < xs.length
    · have h9 : (k : Int) < (xs.length : Int) := by omega
      obtain ⟨x, hx⟩ : ∃ x, xs[k]? = some x := ⟨_, List.getElem?_eq_getElem hlt⟩
      obtain ⟨b, off, rfl, c0⟩ := (unhide HA).getP hx
      have HNT := hide (nodup_take hx (unhide HN))
      have hkc : (k : Int) ≤ (c : Int) := by omega
      clear hx HN
      go_wp2_with fail
      go_loopw [18] (fun i wx => ∃ (j : Nat), j ≤ k ∧ i = .int .i64 (j : Int) ∧ Hid (∀ y ∈ xs.take j, ¬ x = y) ∧ wx = wr) (fun i _ => k - (intOf i).toNat)
      case atStart => exact ⟨0, Nat.zero_le _, rfl, fun x hx => by simp at hx, rfl⟩
      case round =>
        obtain ⟨j, hj, rfl, HM, rfl⟩ := hrel
        by_cases hjl : j < k
        · have h8 : (j : Int) < (k : Int) := by omega
          obtain ⟨y, hy⟩ : ∃ y, xs[j]? = some y := ⟨_, List.getElem?_eq_getElem (by omega)⟩
          obtain ⟨b', off', e, d0⟩ := (unhide HA).getP hy
          simp only [Option.some.injEq, Addr.mk.injEq, and_true] at e
          obtain ⟨rfl, rfl⟩ := e
          by_cases hxy : x = y
          · subst hxy
            have HZ : Hid (R = false) := by
              have hm : x ∈ xs.take k := List.mem_iff_getElem?.2 ⟨j, by rw [List.getElem?_take, if_pos hjl]; exact hy⟩
              rw [unhide HR]; show _ = _; simpa using (unhide HNT).2 hm
            clear hy HM
            go_wp2
            go_ret
            exact ⟨by rw [unhide HZ]; rfl, Below.refl _ _⟩
          · have hxy' : (x == y) = false := by simpa using hxy
            have HM2 : Hid (∀ y ∈ xs.take (j + 1), ¬ x = y) := fun z hz => by
              obtain ⟨h1, rfl⟩ := List.getElem?_eq_some_iff.1 hy
              rw [List.take_succ_eq_append_getElem h1, List.mem_append] at hz
              rcases hz with hz | hz
              · exact unhide HM z hz
              · simp at hz; subst hz; exact hxy
            clear hy HM hxy
            go_wp2
            exact ⟨⟨j + 1, by omega, by go_num, unhide HM2, trivial⟩, by simp [intOf]; omega⟩
        · have h8 : ¬ (j : Int) < (k : Int) := by omega
          have HN2 : Hid ((xs.take (k + 1)).Nodup) := by
            refine (unhide HNT).1 fun hm => ?_
            obtain rfl : j = k := by omega
            exact unhide HM x hm rfl
          clear HM HNT
          go_wp2
          exact ⟨⟨k + 1, by omega, by go_num, unhide HN2, trivial⟩, by simp [intOf]; omega⟩
    · have h9 : ¬ (k : Int) < (xs.length : Int) := by omega
      have HZ : Hid (R = true) := by
        have h := unhide HN
        rw [List.take_of_length_le (by omega)] at h
        rw [unhide HR]
        exact decide_eq_true h
      clear HN
      go_wp2
      go_ret
      exact ⟨by rw [unhide HZ]; rfl, Below.refl _ _⟩
end Go.Proofs.YtcbenpodohjbiaaGreat
set_option linter.unusedSimpArgs false
set_option linter.unusedVariables false
namespace Go.Proofs.YtcbenpodohjbiaaGreat
open Go.RowKit Go.Sort

/-- Rows of a table. -/
def RowsT (w : World) (a : Option Addr) (rs : List (List Val)) : Prop := rs = [] ∨ ∃ b off, a = some ⟨b, off, none⟩ ∧ ∀ i r, rs[i]? = some r → ∃ ra rc, w.cell? ⟨b, off + i, none⟩ = some (.slice ra r.length rc) ∧ RowAt w ra r
theorem RowsT.later {w w' : World} {a : Option Addr} {rs : List (List Val)} (h : RowsT w a rs) (hb : Below w.heap.size w w') : RowsT w' a rs := by
  rcases h with h | ⟨b, off, ha, h⟩
  · exact .inl h
  · exact .inr ⟨b, off, ha, fun i r hr => by obtain ⟨ra, rc, h1, h2⟩ := h i r hr; exact ⟨ra, rc, clater h1 hb, h2.later hb⟩⟩
end Go.Proofs.YtcbenpodohjbiaaGreat
set_option linter.unusedSimpArgs false
set_option linter.unusedVariables false
set_option maxRecDepth 100000
namespace Go.Proofs.YtcbenpodohjbiaaGreat
open Go.RowKit Go.Sort

set_option maxHeartbeats 2000000 in
/-- SameRow (20), of two rows that are the same. -/
theorem sameRow_any (aa ab : Option Addr) (ca cb : Nat) (xs : List Val) (w : World) (hla : xs.length ≤ maxLen) (ha : RowAt w aa xs) (hb : RowAt w ab xs) :
    Calls Tryz.prog 51 #[.slice aa xs.length ca, .slice ab xs.length cb] w fun e w' => e = .returned (.bool true) ∧ Below w.heap.size w w' := by
  unfold maxLen at hla
  go_enter Tryz.func51, Tryz.ntmps51
  go_wp2_with fail
  go_loopw [13] (fun i wr => ∃ k : Nat, k ≤ xs.length ∧ i = .int .i64 k ∧ Below w.heap.size w wr) (fun i wx => xs.length - (intOf i).toNat)
  case atStart => exact ⟨0, Nat.zero_le _, rfl, Below.refl _ _⟩
  case round =>
    obtain ⟨k, hk1, rfl, hbel⟩ := hrel
    have ha' := ha.later hbel
    have hb' := hb.later hbel
    by_cases h1 : k < xs.length
    · obtain ⟨x, hx⟩ : ∃ x, xs[k]? = some x := ⟨_, List.getElem?_eq_getElem h1⟩
      rcases ha' with e | ⟨ba, oa, rfl, hca⟩
      · subst e; simp at h1
      rcases hb' with e | ⟨bb, ob, rfl, hcb⟩
      · subst e; simp at h1
      obtain ⟨c0, c1, c2⟩ := hca k x hx
      obtain ⟨d0, d1, d2⟩ := hcb k x hx
      have i1 : (k : Int) < (xs.length : Int) := by omega
      clear hca hcb hx
      go_wp2_with fail
      go_quiet (fail)
      go_wp2
      go_roundw
      case rel => exact ⟨k + 1, by omega, by go_num, below_drewN hbel _⟩
      case measure => simp [intOf]; omega
    · have i1 : ¬ (k : Int) < (xs.length : Int) := by omega
      go_wp2
      go_ret
      exact ⟨rfl, hbel⟩

set_option maxHeartbeats 2000000 in
/-- SameRows (8), of rows that are the same. -/
theorem sameRows_any (aa ab : Option Addr) (ca cb : Nat) (rs : List (List Val)) (w : World) (hla : rs.length ≤ 1099511627776) (hr : ∀ r ∈ rs, r.length ≤ maxLen) (ha : RowsT w aa rs) (hb : RowsT w ab rs) :
    Calls Tryz.prog 29 #[.slice aa rs.length ca, .slice ab rs.length cb] w fun e w' => e = .returned (.bool true) ∧ Below w.heap.size w w' := by
  go_enter Tryz.func29, Tryz.ntmps29
  go_wp2_with fail
  go_loopw [13] (fun i wr => ∃ k : Nat, k ≤ rs.length ∧ i = .int .i64 k ∧ Below w.heap.size w wr) (fun i wx => rs.length - (intOf i).toNat)
  case atStart => exact ⟨0, Nat.zero_le _, rfl, Below.refl _ _⟩
  case round =>
    obtain ⟨k, hk1, rfl, hbel⟩ := hrel
    have ha' := ha.later hbel
    have hb' := hb.later hbel
    by_cases h1 : k < rs.length
    · obtain ⟨x, hx⟩ : ∃ x, rs[k]? = some x := ⟨_, List.getElem?_eq_getElem h1⟩
      rcases ha' with e | ⟨ba, oa, rfl, hca⟩
      · subst e; simp at h1
      rcases hb' with e | ⟨bb, ob, rfl, hcb⟩
      · subst e; simp at h1
      obtain ⟨pa, pc, c0, hra⟩ := hca k x hx
      obtain ⟨qa, qc, d0, hrb⟩ := hcb k x hx
      have HS := hide (fun (w2 : World) (hw2 : Below wr.heap.size wr w2) => sameRow_any pa qa pc qc x w2 (hr x (List.mem_of_getElem? hx)) (hra.later hw2) (hrb.later hw2))
      have i1 : (k : Int) < (rs.length : Int) := by omega
      clear hca hcb hx hra hrb hr
      have k0 := cell_regrown c0
      have k1 := cell_regrown d0
      go_wp2_with fail
      refine wp_region_quiet_below (by kernel_rfl) (by kernel_rfl) ?_
      repeat (go_big_quiet_step ((go_at_call 51; exact Calls.regrown_of ((unhide HS) _ (below_regrown _ _ _)))))
      refine wpQuiet_nil ?_
      intro w' hw'
      have hB : Below wr.heap.size wr w' := by obtain ⟨p, rfl⟩ := hw'; exact below_regrown _ _ _
      clear hw'
      have hbel' := below_step hbel hB
      go_wp2
      go_roundw
      case rel => exact ⟨k + 1, by omega, by go_num, hbel'⟩
      case measure => simp [intOf]; omega
    · have i1 : ¬ (k : Int) < (rs.length : Int) := by omega
      go_wp2
      go_ret
      exact ⟨rfl, hbel⟩

end Go.Proofs.YtcbenpodohjbiaaGreat
set_option linter.unusedSimpArgs false
set_option linter.unusedVariables false
namespace Go.Proofs.YtcbenpodohjbiaaGreat
open Go.RowKit Go.Sort

theorem RowsT.get {w : World} {a : Option Addr} {rs : List (List Val)} {i : Nat} {r : List Val} (h : RowsT w a rs) (hr : rs[i]? = some r) : ∃ b off ra rc, a = some ⟨b, off, none⟩ ∧ w.cell? ⟨b, off + i, none⟩ = some (.slice ra r.length rc) ∧ RowAt w ra r := by
  rcases h with h | ⟨b, off, ha, h⟩
  · rw [h] at hr; simp at hr
  · obtain ⟨ra, rc, h1, h2⟩ := h i r hr; exact ⟨b, off, ra, rc, ha, h1, h2⟩
end Go.Proofs.YtcbenpodohjbiaaGreat

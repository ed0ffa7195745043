import Derived.Test.YtifohbapfciniabVecQ
set_option linter.unusedSimpArgs false
set_option linter.unusedVariables false
namespace Go.Proofs.Ytifohbapfciniab
open Go.RowKit Go.Sort

/-- A slice of rows, as it lies in memory. -/
def RowsAt (w : World) (a : Option Addr) (rs : List (List Val)) : Prop :=
  rs = [] ∨ ∃ b off, a = some ⟨b, off, none⟩ ∧ ∀ i r, rs[i]? = some r → ∃ ra rc, w.cell? ⟨b, off + i, none⟩ = some (.slice ra r.length rc) ∧ RowAt w ra r
theorem RowsAt.later {w w' : World} {a : Option Addr} {rs : List (List Val)} (h : RowsAt w a rs) (hb : Below w.heap.size w w') : RowsAt w' a rs := by
  rcases h with h | ⟨b, off, ha, h⟩
  · exact .inl h
  · exact .inr ⟨b, off, ha, fun i r hr => by obtain ⟨ra, rc, h1, h2⟩ := h i r hr; exact ⟨ra, rc, cell_later hb h1, h2.later hb⟩⟩

set_option maxHeartbeats 4000000 in
set_option maxRecDepth 100000 in
theorem samerows_same (aa ab : Option Addr) (ca cb : Nat) (rs : List (List Val)) (w : World) (hla : rs.length ≤ maxLen) (hlr : ∀ r ∈ rs, r.length ≤ maxLen) (ha : RowsAt w aa rs) (hb : RowsAt w ab rs) :
    Calls Try.prog 27 #[.slice aa rs.length ca, .slice ab rs.length cb] w fun e w' => e = .returned (.bool true) ∧ Below w.heap.size w w' := by
  unfold maxLen at hla
  have HLR := hide hlr
  clear hlr
  go_enter Try.func27, Try.ntmps27
  go_wp2_with fail
  go_loopw [13] (fun i wr => ∃ k : Nat, k ≤ rs.length ∧ i = .int .i64 k ∧ Below w.heap.size w wr) (fun i wx => rs.length - (intOf i).toNat)
  case atStart => exact ⟨0, Nat.zero_le _, rfl, Below.refl _ _⟩
  case round =>
    obtain ⟨k, hk1, rfl, hbel⟩ := hrel
    have ha' := ha.later hbel
    have hb' := hb.later hbel
    by_cases h1 : k < rs.length
    · obtain ⟨r, hr⟩ : ∃ r, rs[k]? = some r := ⟨_, List.getElem?_eq_getElem h1⟩
      rcases ha' with e | ⟨ba, oa, rfl, hca⟩
      · subst e; simp at h1
      rcases hb' with e | ⟨bb, ob, rfl, hcb⟩
      · subst e; simp at h1
      obtain ⟨r1, c1, e1, d1⟩ := hca k r hr
      obtain ⟨r2, c2, e2, d2⟩ := hcb k r hr
      have i1 : (k : Int) < (rs.length : Int) := by omega
      have HM := hide (unhide HLR r (List.mem_of_getElem? hr))
      have HD1 := hide d1
      have HD2 := hide d2
      have k1 := cell_regrown e1
      have k2 := cell_regrown e2
      have HC : Hid (∀ d os, Calls Try.prog 16 #[.slice r1 r.length c1, .slice r2 r.length c2] (grow (redrawn wr d) os) fun e w' => e = .returned (.bool true) ∧ Below (grow (redrawn wr d) os).heap.size (grow (redrawn wr d) os) w') := fun d os => samerow_same r1 r2 c1 c2 r _ (unhide HM) ((unhide HD1).later (below_regrown _ _ _)) ((unhide HD2).later (below_regrown _ _ _))
      clear hca hcb hr d1 d2
      go_wp2_with fail
      refine wp_region_quiet_below (by kernel_rfl) (by kernel_rfl) ?_
      repeat (go_big_quiet_step ((go_at_call 16; exact Calls.regrown_of (unhide HC _ _))))
      refine wpQuiet_nil ?_
      intro w' hw'
      have hB : Below wr.heap.size wr w' := by obtain ⟨p, rfl⟩ := hw'; exact below_regrown _ _ _
      clear hw'
      have hbel' := below_step hbel hB
      go_wp2
      go_roundw
      case rel => exact ⟨k + 1, by omega, by go_num, hbel'⟩
      case measure => simp [intOf]; omega
    · have i1 : ¬ (k : Int) < (rs.length : Int) := by omega
      go_wp2
      go_ret
      exact ⟨rfl, hbel⟩
end Go.Proofs.Ytifohbapfciniab

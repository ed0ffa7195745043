import Derived.Test.YtdinkopfdnjpmaaLongC
import Derived.Test.YtdinkopfdnjpmaaCellF
set_option linter.unusedSimpArgs false
set_option linter.unusedVariables false
namespace Go.Proofs.Ytdinkopfdnjpmaa
open Go.RowKit Go.Sort
theorem Try.info76 : (Try.prog.info? 76).map (fun i => (i.zero, i.size, i.bytes)) = some (some (.int .u32 0), 1, 4) := by kernel_rfl

/-- The slice of digits v, a row of the call's own. -/
def OwnD (w : World) (base : Nat) (v : Value) (zs : List Int) : Prop := w.ownsRow base 76 1 v zs.length (zs.map (Value.int .u32))
theorem ownD_app {w : World} {base : Nat} {v : Value} {ys : List Int} {x : Int} (h : w.ownsRow base 76 1 v (ys.length + 1) (ys.map (Value.int .u32) ++ [Value.int .u32 x])) : OwnD w base v (ys ++ [x]) := by
  unfold OwnD
  rw [List.length_append, List.map_append]
  exact h
theorem ownD_lt {w : World} {base : Nat} {v : Value} {xs : List Int} (h : OwnD w base v xs) {g : Nat} (hg : v.ownBlock = some g) : base ≤ g ∧ g < w.heap.size := World.ownsRow.lt h g hg
theorem ownD_dig {w : World} {base : Nat} {v : Value} {zs : List Int} (h : OwnD w base v zs) : ∃ a cap, v = .slice a zs.length cap ∧ zs.length ≤ cap ∧ DigAt w a zs := by
  rcases h.2 with ⟨rfl, h0⟩ | ⟨g, cap, cur, rfl, hh⟩
  · have : zs = [] := List.eq_nil_of_length_eq_zero h0
    subst this
    exact ⟨none, 0, rfl, Nat.le_refl _, .inl rfl⟩
  · refine ⟨_, cap, rfl, ?_, .inr ⟨g, 0, rfl, fun i x hx => ?_⟩⟩
    · exact hh.2.2.1
    · have hc := World.ownsRow.cells h rfl
      have e0 := hc i (.int .u32 x) (by rw [List.getElem?_map, hx]; rfl)
      have ea : ∀ n : Nat, (⟨g, 0, none⟩ : Addr).add n = ⟨g, 0 + n, none⟩ := by
        intro n
        by_cases h : n = 0 <;> simp [Addr.add, h]
      rw [ea] at e0
      exact e0
theorem ownD_none {w : World} {base : Nat} {a : Option Addr} {n cap : Nat} {zs : List Int} (h : OwnD w base (.slice a n cap) zs) : a = none → cap = 0 := by
  intro e
  subst e
  rcases h.2 with ⟨e, _⟩ | ⟨g, cap', cur, e, _⟩
  · cases e; rfl
  · cases e
theorem ownD_at {w : World} {base : Nat} {a : Option Addr} {n cap : Nat} {zs : List Int} (h : OwnD w base (.slice a n cap) zs) : DigAt w a zs := by
  obtain ⟨a2, c2, e, _, h2⟩ := ownD_dig h
  cases e
  exact h2
/-- A store to a box below the row. -/
theorem OwnD.put {w : World} {base : Nat} {v : Value} {zs : List Int} (h : OwnD w base v zs) {p : Addr} (hp : p.block < base) (u : Value) : OwnD (w.setCell p u) base v zs := by
  have hg : w.grownBy (w.setCell p u) (some p.block) := by
    have := (Below.refl p.block w).setCell (p := p) (Nat.le_refl _) u
    exact ⟨this.os, this.tape, this.output, this.size, fun k _ hne => Below.heap_setCell w _ u k (fun e => hne (by rw [e]))⟩
  refine World.ownsRow.kept h hg ?_
  cases hv : v.ownBlock with
  | none => exact .inl rfl
  | some g => exact .inr (by have := (ownD_lt h hv).1; intro e; cases e; omega)

theorem valD_snoc (ds : List Int) (x : Int) : valD (ds ++ [x]) = valD ds + 65536 ^ ds.length * x := by
  induction ds with
  | nil => simp [valD]
  | cons d ds ih =>
    rw [List.cons_append, valD, valD, ih, List.length_cons, Int.pow_succ, Int.mul_add, ← Int.mul_assoc, Int.mul_comm 65536 (65536 ^ ds.length)]
    omega
theorem Digs.snoc {ds : List Int} (h : Digs ds) {x : Int} (h0 : 0 ≤ x) (h1 : x < 65536) : Digs (ds ++ [x]) := by
  intro y hy
  rw [List.mem_append] at hy
  rcases hy with hy | hy
  · exact h y hy
  · simp at hy; subst hy; exact ⟨h0, h1⟩

/-- A long in memory, of the integer z: no zeros at the end. -/
def LongV (w : World) (v : Value) (z : Int) : Prop :=
  ∃ a cap ds, v = .agg #[.bool (decide (z < 0)), .slice a ds.length cap] ∧ ds.length ≤ cap ∧ (a = none → cap = 0) ∧ DigAt w a ds ∧ Digs ds ∧ trimN ds ds.length = ds.length ∧ (valD ds = z ∨ valD ds = -z)

theorem trim_snoc (ds : List Int) (x : Int) (h : ¬ x = 0) : trimN (ds ++ [x]) (ds ++ [x]).length = (ds ++ [x]).length := by
  rw [List.length_append, List.length_singleton, trimN, if_neg]
  simpa [dig] using h
theorem long_step (ds : List Int) (U z : Int) (h : valD ds + 65536 ^ ds.length * U = z) : valD (ds ++ [U % 65536]) + 65536 ^ (ds ++ [U % 65536]).length * (U / 65536) = z := by
  rw [valD_snoc, List.length_append, List.length_singleton, Int.pow_succ, Int.mul_assoc, Int.add_assoc, ← Int.mul_add, Int.emod_add_mul_ediv]
  exact h
theorem pow_step (ds : List Int) (U : Int) (h4 : ds.length < 4) (h : U < 65536 ^ (4 - ds.length)) : U / 65536 < 65536 ^ (4 - (ds ++ [U % 65536]).length) := by
  rw [List.length_append, List.length_singleton]
  rcases (show ds.length = 0 ∨ ds.length = 1 ∨ ds.length = 2 ∨ ds.length = 3 by omega) with e | e | e | e <;> rw [e] at h ⊢ <;> simp at h ⊢ <;> omega
theorem and_dig (U : Int) (h0 : 0 ≤ U) (h1 : U < 18446744073709551616) : bits BinOp.and IntKind.u64 U 65535 = U % 65536 := by
  obtain ⟨a, rfl⟩ := Int.eq_ofNat_of_zero_le h0
  have h := bits_and_u64_nat a 65535 (by omega) (by omega)
  rw [show (65535 : Int) = ((65535 : Nat) : Int) from rfl, h, show (65535 : Nat) = 2 ^ 16 - 1 from rfl, Nat.and_two_pow_sub_one_eq_mod]
  omega

set_option maxHeartbeats 400000 in
theorem longOf_any (n : Int) (w : World) (hn : In64 n) :
    Calls Try.prog 52 #[.int .i64 n] w fun e w' => ∃ v, e = .returned v ∧ LongV w' v n ∧ Below w.heap.size w w' := by
  obtain ⟨i0, hi, hz0, hz1, hz2⟩ := info_parts Try.info76
  rcases Bool.eq_false_or_eq_true (decide (n < 0)) with hm | hm
  · have hn' : n < 0 := by simpa using hm
    have eU : IntKind.u64.wrap (-IntKind.u64.wrap n) = -n := by rw [IntKind.wrap_u64, IntKind.wrap_u64]; unfold In64 at hn; omega
    have HU := hide eU
    clear eU
    go_enter Try.func52, Try.ntmps52
    go_wp2_with fail
    go_loopw [3] (fun u wx => ∃ (U : Int) (ds : List Int) (v : Value), u = .int .u64 U ∧ 0 ≤ U ∧ U < 65536 ^ (4 - ds.length) ∧ ds.length ≤ 4 ∧ OwnD wx (w.heap.size + 1 + 1) v ds ∧ Digs ds ∧ Hid (valD ds + 65536 ^ ds.length * U = -n) ∧ Hid (U = 0 → trimN ds ds.length = ds.length) ∧
      wx.cell? ⟨w.heap.size + 1, 0, none⟩ = some (.bool true) ∧ wx.cell? ⟨w.heap.size + 1, 1, none⟩ = some v ∧ wx.frozen? ⟨w.heap.size + 1, 1, none⟩ = false ∧
      wx.cell? ⟨w.heap.size, 0, none⟩ = some (.bool false) ∧ wx.cell? ⟨w.heap.size, 1, none⟩ = some (.slice none 0 0) ∧ wx.frozen? ⟨w.heap.size, 0, none⟩ = false ∧ wx.frozen? ⟨w.heap.size, 1, none⟩ = false ∧
      w.heap.size + 1 + 1 ≤ wx.heap.size ∧ Below w.heap.size w wx) (fun u wx => (intOf u).toNat)
    case atStart =>
      refine ⟨-n, [], .slice none 0 0, by rw [unhide HU], by omega, by unfold In64 at hn; simp; omega, by simp, World.ownsRow_nil _ _ _ _, by intro x hx; simp at hx, by show _ = _; simp [valD], fun _ => rfl, by simp [go_sem], by simp [go_sem], by simp [go_sem], by simp [go_sem], by simp [go_sem], by simp [go_sem], by simp [go_sem], by simp, ?_⟩
      exact below_alloc (below_alloc (Below.refl _ _) _) _
    case round =>
      obtain ⟨U, ds, v, rfl, hU0, hU1, hl, ho, hd, HV, HT, c0, c1, f1, z0, z1, g0, g1, hsz, hbel⟩ := hrel
      by_cases hu : 0 < U
      · have hl4 : ds.length < 4 := by
          rcases Nat.lt_or_eq_of_le hl with h | h
          · exact h
          · rw [h] at hU1; simp at hU1; omega
        have hU64 : U < 18446744073709551616 := by
          rcases (show ds.length = 0 ∨ ds.length = 1 ∨ ds.length = 2 ∨ ds.length = 3 by omega) with e | e | e | e <;> rw [e] at hU1 <;> simp at hU1 <;> omega
        have ea := and_dig U hU0 hU64
        have hd0 : 0 ≤ U % 65536 := Int.emod_nonneg _ (by omega)
        have hd1 : U % 65536 < 65536 := Int.emod_lt_of_pos _ (by omega)
        have HU1 := hide hU1
        have HL := hide hl4
        have HD := hide hd
        have HS := hide hsz
        have HA := hide ea
        clear hU1 hl hd hl4 HU hn hn' hm hU64 ea
        go_wp2_with (at_builtin; refine wpList_append_own_at _ rfl (.tmp 19) (.tmp 23) 56 rfl (w.heap.size + 1 + 1) 76 i0 (.int .u32 0) 1 4 Try.underlying56 hi hz0 hz1 hz2 rfl (by decide) _ _ _ rfl (World.ownsRow.alloc ho _) ⟨wr.heap.size, 0, none⟩ 1 1 [_] rfl rfl (cell_one_new _ _ _) (by intro u hu; simp at hu; subst hu; rfl) (by have := unhide HL; unfold maxLen; omega) (by have := unhide HL; omega) (by have := unhide HS; simp; omega) ?_; intro v' w1 hown' hgrow _ hat; have hg2 := Grew.app (Grew.refl wr v) hgrow hat; have hB : Below (w.heap.size + 1 + 1) wr w1 := hg2.below (unhide HS) (fun g hh => (ownD_lt ho hh).1); have ho2 := ownD_app hown'; clear hown' hgrow hat; have hx2 := ownD_dig ho2; obtain ⟨a', q', rfl, hq', hD'⟩ := hx2; have C0 := (hB.cell (p := ⟨w.heap.size + 1, 0, none⟩) (by simp)).trans c0; have C1 := (hB.cell (p := ⟨w.heap.size + 1, 1, none⟩) (by simp)).trans c1; have F1 := (hB.frozen (p := ⟨w.heap.size + 1, 1, none⟩) (by simp)).trans f1; have Z0 := (hB.cell (p := ⟨w.heap.size, 0, none⟩) (by simp; omega)).trans z0; have Z1 := (hB.cell (p := ⟨w.heap.size, 1, none⟩) (by simp; omega)).trans z1; have G0 := (hB.frozen (p := ⟨w.heap.size, 0, none⟩) (by simp; omega)).trans g0; have G1 := (hB.frozen (p := ⟨w.heap.size, 1, none⟩) (by simp; omega)).trans g1)
        rw [unhide HA, show U % 65536 % 4294967296 = U % 65536 by omega] at ho2
        rw [List.length_append, List.length_singleton] at ho2
        refine ⟨⟨U / 65536, ds ++ [U % 65536], .slice a' (ds.length + 1) q', rfl, by omega, pow_step ds U (unhide HL) (unhide HU1), by have := unhide HL; simp; omega, ho2.put (by simp) _, (unhide HD).snoc hd0 hd1, long_step ds U (-n) (unhide HV), fun h => trim_snoc ds _ (by omega), by simp [go_sem, *], by simp [go_sem, *], by simp [go_sem, *], by simp [go_sem, *], by simp [go_sem, *], by simp [go_sem, *], by simp [go_sem, *], by have := hB.size; have := unhide HS; simp; omega, (hbel.trans (hB.mono (by omega))).setCell (by simp) _⟩, by simp only [intOf]; omega⟩
      · have hu0 : U = 0 := by omega
        subst hu0
        have hx2 := ownD_dig ho
        obtain ⟨a', q', rfl, hq', hD'⟩ := hx2
        have ht := unhide HT rfl
        have hv := unhide HV
        have HT2 := hide ht
        have HV2 := hide hv
        have HD := hide hd
        clear hU1 hU0 HT HV ht hv HU hd hl
        have hm2 : Hid (decide (n < 0) = true) := hm
        clear hm hn hn'
        go_wp2
        refine bodyPost_ret (v := .agg #[.bool true, .slice a' ds.length q']) (by simp [results, Try.results52, go_sem, *]) rfl ⟨_, rfl, ⟨a', q', ds, by rw [unhide hm2], hq', ownD_none ho, ?_, unhide HD, unhide HT2, .inr (by have := unhide HV2; omega)⟩, ?_⟩
        · exact ownD_at ((ho.put (by simp; omega) _).put (by simp; omega) _)
        · exact (hbel.setCell (by simp) _).setCell (by simp) _
  · have hn' : 0 ≤ n := by simpa using hm
    have eU : IntKind.u64.wrap n = n := by rw [IntKind.wrap_u64]; unfold In64 at hn; omega
    have HU := hide eU
    clear eU
    go_enter Try.func52, Try.ntmps52
    go_wp2_with fail
    go_loopw [3] (fun u wx => ∃ (U : Int) (ds : List Int) (v : Value), u = .int .u64 U ∧ 0 ≤ U ∧ U < 65536 ^ (4 - ds.length) ∧ ds.length ≤ 4 ∧ OwnD wx (w.heap.size + 1 + 1) v ds ∧ Digs ds ∧ Hid (valD ds + 65536 ^ ds.length * U = n) ∧ Hid (U = 0 → trimN ds ds.length = ds.length) ∧
      wx.cell? ⟨w.heap.size + 1, 0, none⟩ = some (.bool false) ∧ wx.cell? ⟨w.heap.size + 1, 1, none⟩ = some v ∧ wx.frozen? ⟨w.heap.size + 1, 1, none⟩ = false ∧
      wx.cell? ⟨w.heap.size, 0, none⟩ = some (.bool false) ∧ wx.cell? ⟨w.heap.size, 1, none⟩ = some (.slice none 0 0) ∧ wx.frozen? ⟨w.heap.size, 0, none⟩ = false ∧ wx.frozen? ⟨w.heap.size, 1, none⟩ = false ∧
      w.heap.size + 1 + 1 ≤ wx.heap.size ∧ Below w.heap.size w wx) (fun u wx => (intOf u).toNat)
    case atStart =>
      refine ⟨n, [], .slice none 0 0, by rw [unhide HU], by omega, by unfold In64 at hn; simp; omega, by simp, World.ownsRow_nil _ _ _ _, by intro x hx; simp at hx, by show _ = _; simp [valD], fun _ => rfl, by simp [go_sem], by simp [go_sem], by simp [go_sem], by simp [go_sem], by simp [go_sem], by simp [go_sem], by simp [go_sem], by simp, ?_⟩
      exact below_alloc (below_alloc (Below.refl _ _) _) _
    case round =>
      obtain ⟨U, ds, v, rfl, hU0, hU1, hl, ho, hd, HV, HT, c0, c1, f1, z0, z1, g0, g1, hsz, hbel⟩ := hrel
      by_cases hu : 0 < U
      · have hl4 : ds.length < 4 := by
          rcases Nat.lt_or_eq_of_le hl with h | h
          · exact h
          · rw [h] at hU1; simp at hU1; omega
        have hU64 : U < 18446744073709551616 := by
          rcases (show ds.length = 0 ∨ ds.length = 1 ∨ ds.length = 2 ∨ ds.length = 3 by omega) with e | e | e | e <;> rw [e] at hU1 <;> simp at hU1 <;> omega
        have ea := and_dig U hU0 hU64
        have hd0 : 0 ≤ U % 65536 := Int.emod_nonneg _ (by omega)
        have hd1 : U % 65536 < 65536 := Int.emod_lt_of_pos _ (by omega)
        have HU1 := hide hU1
        have HL := hide hl4
        have HD := hide hd
        have HS := hide hsz
        have HA := hide ea
        clear hU1 hl hd hl4 HU hn hn' hm hU64 ea
        go_wp2_with (at_builtin; refine wpList_append_own_at _ rfl (.tmp 19) (.tmp 23) 56 rfl (w.heap.size + 1 + 1) 76 i0 (.int .u32 0) 1 4 Try.underlying56 hi hz0 hz1 hz2 rfl (by decide) _ _ _ rfl (World.ownsRow.alloc ho _) ⟨wr.heap.size, 0, none⟩ 1 1 [_] rfl rfl (cell_one_new _ _ _) (by intro u hu; simp at hu; subst hu; rfl) (by have := unhide HL; unfold maxLen; omega) (by have := unhide HL; omega) (by have := unhide HS; simp; omega) ?_; intro v' w1 hown' hgrow _ hat; have hg2 := Grew.app (Grew.refl wr v) hgrow hat; have hB : Below (w.heap.size + 1 + 1) wr w1 := hg2.below (unhide HS) (fun g hh => (ownD_lt ho hh).1); have ho2 := ownD_app hown'; clear hown' hgrow hat; have hx2 := ownD_dig ho2; obtain ⟨a', q', rfl, hq', hD'⟩ := hx2; have C0 := (hB.cell (p := ⟨w.heap.size + 1, 0, none⟩) (by simp)).trans c0; have C1 := (hB.cell (p := ⟨w.heap.size + 1, 1, none⟩) (by simp)).trans c1; have F1 := (hB.frozen (p := ⟨w.heap.size + 1, 1, none⟩) (by simp)).trans f1; have Z0 := (hB.cell (p := ⟨w.heap.size, 0, none⟩) (by simp; omega)).trans z0; have Z1 := (hB.cell (p := ⟨w.heap.size, 1, none⟩) (by simp; omega)).trans z1; have G0 := (hB.frozen (p := ⟨w.heap.size, 0, none⟩) (by simp; omega)).trans g0; have G1 := (hB.frozen (p := ⟨w.heap.size, 1, none⟩) (by simp; omega)).trans g1)
        rw [unhide HA, show U % 65536 % 4294967296 = U % 65536 by omega] at ho2
        rw [List.length_append, List.length_singleton] at ho2
        refine ⟨⟨U / 65536, ds ++ [U % 65536], .slice a' (ds.length + 1) q', rfl, by omega, pow_step ds U (unhide HL) (unhide HU1), by have := unhide HL; simp; omega, ho2.put (by simp) _, (unhide HD).snoc hd0 hd1, long_step ds U n (unhide HV), fun h => trim_snoc ds _ (by omega), by simp [go_sem, *], by simp [go_sem, *], by simp [go_sem, *], by simp [go_sem, *], by simp [go_sem, *], by simp [go_sem, *], by simp [go_sem, *], by have := hB.size; have := unhide HS; simp; omega, (hbel.trans (hB.mono (by omega))).setCell (by simp) _⟩, by simp only [intOf]; omega⟩
      · have hu0 : U = 0 := by omega
        subst hu0
        have hx2 := ownD_dig ho
        obtain ⟨a', q', rfl, hq', hD'⟩ := hx2
        have ht := unhide HT rfl
        have hv := unhide HV
        have HT2 := hide ht
        have HV2 := hide hv
        have HD := hide hd
        clear hU1 hU0 HT HV ht hv HU hd hl
        have hm2 : Hid (decide (n < 0) = false) := hm
        clear hm hn hn'
        go_wp2
        refine bodyPost_ret (v := .agg #[.bool false, .slice a' ds.length q']) (by simp [results, Try.results52, go_sem, *]) rfl ⟨_, rfl, ⟨a', q', ds, by rw [unhide hm2], hq', ownD_none ho, ?_, unhide HD, unhide HT2, .inl (by have := unhide HV2; omega)⟩, ?_⟩
        · exact ownD_at ((ho.put (by simp; omega) _).put (by simp; omega) _)
        · exact (hbel.setCell (by simp) _).setCell (by simp) _
end Go.Proofs.Ytdinkopfdnjpmaa

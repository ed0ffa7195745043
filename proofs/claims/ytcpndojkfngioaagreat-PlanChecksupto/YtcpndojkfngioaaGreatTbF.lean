import Derived.Test.YtcpndojkfngioaaGreatTbC
import Derived.Test.YtcpndojkfngioaaGreatPlN
import Derived.Test.YtcpndojkfngioaaGreatTbB
import Derived.Test.YtcpndojkfngioaaGreatRows
import Derived.Test.YtcpndojkfngioaaGreatEsOpen
set_option linter.unusedSimpArgs false
set_option linter.unusedVariables false
namespace Go.Proofs.YtcpndojkfngioaaGreat
open Go.RowKit Go.Sort

set_option maxRecDepth 100000 in
/-- The row's test (40). -/
theorem wrong_one (t : Tb) (r : List Val) (m : Tm) (b : Nat) (ra : Option Addr) (rc : Nat) (w : World) (hr : r.length ≤ 1048576) (hk : t.cols.length ≤ 1048576) (h3 : Tri w b 0 t m) (hC : ColsT w m.aC t.cols) (hR : RowAt w ra r) :
    Calls Tryz.prog 40 #[.slice ra r.length rc, .pointer (some ⟨b, 0, none⟩)] w fun e w' => e = .returned (.bool (!rowB r (t.cols.map Prod.snd))) ∧ Below w.heap.size w w' := by
  have HF := hide (fits_any t.cols r m.aC m.cC ra rc w hr hk hC hR)
  have c1 := h3.c1
  simp only [Nat.zero_add] at c1
  generalize rowB r (t.cols.map Prod.snd) = rb at *
  clear h3 hC hR
  go_enter Tryz.func40, Tryz.ntmps40
  go_wp2_with (go_at_call 41; refine (unhide HF).mono ?_; rintro e w1 ⟨rfl, hb1⟩)
  go_ret
  exact ⟨rfl, hb1⟩
/-- Some row of the table is wrong. -/
def wrongB (t : Tb) : Bool := t.rows.any fun r => !rowB r (t.cols.map Prod.snd)
theorem rowVals {w : World} {a : Option Addr} {l : List (List Val)} (h : RowsT w a l) : ∃ vs : List Value, vs.length = l.length ∧ LstR w a vs ∧ ∀ (i : Nat) x v, l[i]? = some x → vs[i]? = some v → ∃ ra rc, v = .slice ra x.length rc ∧ RowAt w ra x := by
  rcases h with h0 | ⟨b, off, ha, h⟩
  · subst h0
    exact ⟨[], rfl, .inl rfl, fun i x v hx => by simp at hx⟩
  obtain ⟨vs, hl, hp⟩ := pick_lt (n := l.length) (p := fun i (v : Value) => ∃ x ra rc, l[i]? = some x ∧ v = .slice ra x.length rc ∧ RowAt w ra x ∧ ∀ W, Below w.heap.size w W → (Instr.loadAt 46 (.pointer (some ⟨b, off + i, none⟩))).run Tryz.prog W = .ok v W) fun i hi => by
    obtain ⟨x, hx⟩ : ∃ x, l[i]? = some x := ⟨_, List.getElem?_eq_getElem hi⟩
    obtain ⟨ra, rc, hc, hr⟩ := h i x hx
    refine ⟨.slice ra x.length rc, x, ra, rc, hx, rfl, hr, fun W hW => ?_⟩
    replace hc := clater hc hW
    go_simp
  refine ⟨vs, hl, .inr ⟨b, off, ha, fun i v hv W hW => ?_⟩, fun i x v hx hv => ?_⟩
  · obtain ⟨x, ra, rc, _, _, _, hld⟩ := hp i v hv
    exact hld W hW
  · obtain ⟨y, ra, rc, hy, e, hal, _⟩ := hp i v hv
    rw [hx] at hy
    injection hy with hy
    subst hy
    exact ⟨ra, rc, e, hal⟩
theorem tabVals {w : World} {a : Option Addr} {l : List Tb} (h : Tbs w a l) : ∃ vs : List Value, vs.length = l.length ∧ LstT w a vs ∧ ∀ (i : Nat) x v, l[i]? = some x → vs[i]? = some v → ∃ m, v = x.val m ∧ TbM w x m := by
  rcases h with h0 | ⟨b, off, ha, h⟩
  · subst h0
    exact ⟨[], rfl, .inl rfl, fun i x v hx => by simp at hx⟩
  obtain ⟨vs, hl, hp⟩ := pick_lt (n := l.length) (p := fun i (v : Value) => ∃ x m, l[i]? = some x ∧ v = x.val m ∧ TbM w x m ∧ ∀ W, Below w.heap.size w W → (Instr.loadAt 45 (.pointer (some ⟨b, off + i * 3, none⟩))).run Tryz.prog W = .ok v W) fun i hi => by
    obtain ⟨x, hx⟩ : ∃ x, l[i]? = some x := ⟨_, List.getElem?_eq_getElem hi⟩
    obtain ⟨m, h3, hm⟩ := h i x hx
    exact ⟨x.val m, x, m, hx, rfl, hm, fun W hW => (h3.later hW).load⟩
  refine ⟨vs, hl, .inr ⟨b, off, ha, fun i v hv W hW => ?_⟩, fun i x v hx hv => ?_⟩
  · obtain ⟨x, m, _, _, _, hld⟩ := hp i v hv
    exact hld W hW
  · obtain ⟨y, m, hy, e, hal, _⟩ := hp i v hv
    rw [hx] at hy
    injection hy with hy
    subst hy
    exact ⟨m, e, hal⟩
set_option maxRecDepth 100000 in
/-- hasWrongRow (19). -/
theorem wrongRow_any (t : Tb) (hf : t.fin) (m : Tm) (w : World) (hm : TbM w t m) : Calls Tryz.prog 19 #[t.val m] w fun e w' => e = .returned (.bool (wrongB t)) ∧ Below w.heap.size w w' := by
  have hb0 := below_alloc (Below.refl _ w) (t.box m)
  have h3 := Tri.new w t m
  have hm0 := hm.later hb0
  obtain ⟨vs, hvl, hls, hv⟩ := rowVals hm0.r
  have hc := containsR vs (t.rows.map fun r => !rowB r (t.cols.map Prod.snd)) (by rw [List.length_map, hvl]) m.aR m.cR (.func (.func 40) #[] #[.pointer (some ⟨w.heap.size, 0, none⟩)]) _ (by have := hf.r; omega) hls ⟨40, _, rfl, fun args w => by kernel_rfl, fun i v bb W gv gb hW => by
    rw [List.getElem?_map] at gb
    obtain ⟨x, hx, rfl⟩ := Option.map_eq_some_iff.1 gb
    obtain ⟨ra, rc, rfl, hal⟩ := hv i x v hx gv
    exact wrong_one t x m w.heap.size ra rc W (hf.rr x (List.mem_of_getElem? hx)) hf.c (h3.later hW) (hm0.c.later hW) (hal.later hW)⟩
  rw [hvl, List.any_map] at hc
  have HC := hide hc
  have HB := hide hb0
  change Hid (Calls Tryz.prog 39 _ _ fun e w' => e = .returned (.bool (wrongB t)) ∧ _) at HC
  generalize wrongB t = wb at *
  unfold Tb.box at HC HB
  rw [Tb.val_open]
  clear hb0 h3 hm0 hls hv hc hm hf hvl
  go_enter Tryz.func19, Tryz.ntmps19
  go_wp2_with (go_at_call 39; refine (unhide HC).mono ?_; rintro e w1 ⟨rfl, hb1⟩)
  go_ret
  exact ⟨rfl, below_step (unhide HB) hb1⟩
/-- ContainsFunc of tables by hasWrongRow (18). -/
theorem containsT_wrong (l : List Tb) (hf : ∀ t ∈ l, t.fin) (hl : l.length ≤ 1048576) (a : Option Addr) (c : Nat) (w : World) (ha : Tbs w a l) : Calls Tryz.prog 18 #[.slice a l.length c, .func (.func 19) #[] #[]] w fun e w' => e = .returned (.bool (l.any wrongB)) ∧ Below w.heap.size w w' := by
  obtain ⟨vs, hvl, hls, hv⟩ := tabVals ha
  have h := containsT vs (l.map wrongB) (by rw [List.length_map, hvl]) a c (.func (.func 19) #[] #[]) w (by omega) hls ⟨19, #[], rfl, fun args w => by kernel_rfl, fun i v bb W gv gb hW => by
    rw [List.getElem?_map] at gb
    obtain ⟨x, hx, rfl⟩ := Option.map_eq_some_iff.1 gb
    obtain ⟨m, rfl, hal⟩ := hv i x v hx gv
    exact wrongRow_any x (hf x (List.mem_of_getElem? hx)) m W (hal.later hW)⟩
  rw [hvl, List.any_map] at h
  exact h
end Go.Proofs.YtcpndojkfngioaaGreat
set_option linter.unusedSimpArgs false
set_option linter.unusedVariables false
namespace Go.Proofs.YtcpndojkfngioaaGreat
open Go.RowKit Go.Sort

theorem info9K : (Tryz.prog.info? 9).map (fun i => (i.zero, i.size, i.bytes)) = some (some (.string ⟨#[]⟩), 1, 16) := by kernel_rfl
theorem made_strs {w : World} {base g n : Nat} (h : w.ownsRow base 9 1 (.slice (some ⟨g, 0, none⟩) n n) n (madeCells (Value.cells (.string ⟨#[]⟩)) (n * 1)).toList) : OwnS w base (.slice (some ⟨g, 0, none⟩) n n) (List.replicate n ⟨#[]⟩) := by
  have hz : (madeCells (Value.cells (.string ⟨#[]⟩)) (n * 1)).toList = List.replicate n (Value.string ⟨#[]⟩) := by rw [Nat.mul_one]; exact toList_madeCells_one _ _
  rw [hz] at h
  unfold OwnS
  rw [List.length_replicate, List.map_replicate]
  exact h
theorem set_zeroS (d : List ByteArray) (n k : Nat) (hd : d.length = k) (hk : k < n) (y : ByteArray) : (d ++ List.replicate (n - k) (⟨#[]⟩ : ByteArray)).set k y = (d ++ [y]) ++ List.replicate (n - (k + 1)) (⟨#[]⟩ : ByteArray) := by
  obtain ⟨m, hm⟩ : ∃ m, n - k = m + 1 := ⟨n - k - 1, by omega⟩
  rw [hm, show n - (k + 1) = m by omega, ← hd]
  rw [List.replicate_succ, List.set_append_right _ _ (Nat.le_refl _), Nat.sub_self, List.set_cons_zero, List.append_assoc]
  rfl
theorem at_zeroS (d : List ByteArray) (n k : Nat) (hd : d.length = k) (hk : k < n) : (d ++ List.replicate (n - k) (⟨#[]⟩ : ByteArray))[k]? = some ⟨#[]⟩ ∧ n = (d ++ List.replicate (n - k) (⟨#[]⟩ : ByteArray)).length := by
  refine ⟨?_, by rw [List.length_append, List.length_replicate]; omega⟩
  obtain ⟨m, hm⟩ : ∃ m, n - k = m + 1 := ⟨n - k - 1, by omega⟩
  rw [List.getElem?_append_right (by omega), hd, Nat.sub_self, hm]
  rfl
theorem OwnS.store {w : World} {base g N cap k : Nat} {L : List ByteArray} (h : OwnS w base (.slice (some ⟨g, 0, none⟩) N cap) L) (hN : N = L.length) (y : ByteArray) : OwnS (w.setCell ⟨g, k, none⟩ (.string y)) base (.slice (some ⟨g, 0, none⟩) N cap) (L.set k y) := by
  subst hN
  have h1 := (World.ownsRow.stored h k (.string y)).1
  unfold OwnS
  rw [List.length_set, List.map_set]
  exact h1
theorem OwnS.at {w : World} {base g N cap k : Nat} {L : List ByteArray} {x : ByteArray} (h : OwnS w base (.slice (some ⟨g, 0, none⟩) N cap) L) (hN : N = L.length) (hx : L[k]? = some x) : w.cell? ⟨g, k, none⟩ = some (.string x) ∧ w.frozen? ⟨g, k, none⟩ = false := by
  subst hN
  have hk := (List.getElem?_eq_some_iff.1 hx).1
  refine ⟨?_, World.ownsRow.frozenAt h k⟩
  rw [World.ownsRow.cellAt h k (by omega), List.getElem?_map, hx]
  rfl
theorem OwnS.strs {w : World} {base : Nat} {a : Option Addr} {n cap : Nat} {L : List ByteArray} (h : OwnS w base (.slice a n cap) L) : StrsAt w a L := by
  rcases h.2 with ⟨e, h0⟩ | ⟨g, cap', cur, e, _⟩
  · have : L = [] := List.eq_nil_of_length_eq_zero h0
    exact .inl this
  · injection e with e1 e2 e3
    subst e1
    refine .inr ⟨g, 0, rfl, fun i x hx => ?_⟩
    subst e3
    have hc := World.ownsRow.cells h rfl i (.string x) (by rw [List.getElem?_map, hx]; rfl)
    have ea : (⟨g, 0, none⟩ : Addr).add i = ⟨g, 0 + i, none⟩ := by
      by_cases h : i = 0 <;> simp [Addr.add, h]
    rw [ea] at hc
    exact hc
/-- The columns are good. -/
def colsGood (t : Tb) : Bool := kindsB (t.cols.map Prod.snd) && namesB (t.cols.map Prod.fst)
set_option maxHeartbeats 4000000 in
set_option maxRecDepth 100000 in
/-- hasGoodColumns (27). -/
theorem goodCols_any (t : Tb) (hf : t.fin) (m : Tm) (w : World) (hm : TbM w t m) : Calls Tryz.prog 27 #[t.val m] w fun e w' => e = .returned (.bool (colsGood t)) ∧ Below w.heap.size w w' := by
  obtain ⟨R, hR⟩ : ∃ R, R = colsGood t := ⟨_, rfl⟩
  rw [← hR]
  unfold colsGood kindsB at hR
  rw [List.length_map, List.any_map] at hR
  have HFN := hide hf.cn
  have hfc := hf.c
  have hb0 := below_alloc (Below.refl _ w) (t.box m)
  have HT3 := hide (Tri.new w t m)
  have HA := hide (hm.later hb0).c
  have HB0 := hide hb0
  unfold Tb.box at HA HT3 HB0
  rw [Tb.val_open]
  obtain ⟨wa, hwa⟩ : ∃ wa, wa = w.alloc (.cells #[.string t.name, .slice m.aC t.cols.length m.cC, .slice m.aR t.rows.length m.cR] 45) := ⟨_, rfl⟩
  rw [← hwa] at HT3 HB0 HA
  have HWA := hide hwa
  have HR := hide hR
  have c1 := (unhide HT3).c1
  simp only [Nat.zero_add] at c1
  clear hf hm hb0 hwa hR
  by_cases hl1 : t.cols.length < 1
  · have g1 : (t.cols.length : Int) < 1 := by omega
    obtain rfl : R = false := by rw [unhide HR, decide_eq_false (by omega : ¬ 1 ≤ t.cols.length)]; rfl
    clear hl1
    go_enter Tryz.func27, Tryz.ntmps27
    go_upto_region 1 with fail
    rw [← unhide HWA]
    go_wp2
    go_ret
    exact ⟨rfl, unhide HB0⟩
  have g1 : ¬ (t.cols.length : Int) < 1 := by omega
  by_cases hl2 : 32 < t.cols.length
  · have g2 : (32 : Int) < (t.cols.length : Int) := by omega
    obtain rfl : R = false := by rw [unhide HR, decide_eq_false (by omega : ¬ t.cols.length ≤ 32), Bool.and_false]; rfl
    clear hl1 hl2
    go_enter Tryz.func27, Tryz.ntmps27
    go_upto_region 1 with fail
    rw [← unhide HWA]
    go_wp2
    go_ret
    exact ⟨rfl, unhide HB0⟩
  have g2 : ¬ (32 : Int) < (t.cols.length : Int) := by omega
  have HR2 : Hid (R = (!(t.cols.any (noKP ∘ Prod.snd)) && namesB (t.cols.map Prod.fst))) := by show _ = _; rw [unhide HR, decide_eq_true (by omega : 1 ≤ t.cols.length), decide_eq_true (by omega : t.cols.length ≤ 32)]; rfl
  clear HR
  obtain ⟨i4, hi4, z40, z41, z42⟩ := info_parts info9K
  go_enter Tryz.func27, Tryz.ntmps27
  go_upto_region 1 with fail
  rw [← unhide HWA]
  clear HWA
  go_upto_region 4 with (at_make; refine wpList_make_full _ rfl (.tmp 18) (.tmp 18) 67 rfl wa.heap.size 9 i4 (.string ⟨#[]⟩) 1 Tryz.underlying67 hi4 z40 z41 .i64 .i64 _ _ t.cols.length rfl rfl rfl rfl (by rw [z42]; omega) (by unfold maxLen; omega) (Nat.le_refl _) ?_; intro w2 hO2 hg2)
  have HB2 := hide (grown_below hg2 (Nat.le_refl _) (fun g hg => by cases hg))
  have HO2 := hide (made_strs hO2)
  have e1 := ((unhide HT3).later (unhide HB2)).c1
  simp only [Nat.zero_add] at e1
  clear hO2 hg2 z40 z41 z42 hi4 c1
  go_wp2_with fail
  go_loopw [23] (fun i wr => ∃ (k : Nat), k ≤ t.cols.length ∧ i = .int .i64 (k : Int) ∧ Hid (OwnS wr wa.heap.size (.slice (some ⟨wa.heap.size, 0, none⟩) t.cols.length t.cols.length) ((t.cols.take k).map Prod.fst ++ List.replicate (t.cols.length - k) ⟨#[]⟩)) ∧ Hid ((t.cols.take k).any (noKP ∘ Prod.snd) = false) ∧ Hid (Below wa.heap.size wa wr)) (fun i _ => t.cols.length - (intOf i).toNat)
  case atStart => exact ⟨0, Nat.zero_le _, rfl, unhide HO2, by show _ = _; rfl, unhide HB2⟩
  case round =>
    clear HO2 HB2 e1
    obtain ⟨k, hk, rfl, HO, HM, HB⟩ := hrel
    by_cases hlt : k < t.cols.length
    · have h9 : (k : Int) < (t.cols.length : Int) := by omega
      obtain ⟨x, hx⟩ : ∃ x, t.cols[k]? = some x := ⟨_, List.getElem?_eq_getElem hlt⟩
      obtain ⟨b, off, ea, d0, d1⟩ := ((unhide HA).later (unhide HB)).get hx
      have hba := below_alloc (Below.refl _ wr) (.cells #[.string x.1, .int .i64 x.2] 63)
      have HN := hide (noKindP_any x.2 (wr.alloc (.cells #[.string x.1, .int .i64 x.2] 63)))
      have HBA := hide hba
      have HX0 : Hid ((wr.alloc (.cells #[.string x.1, .int .i64 x.2] 63)).cell? ⟨wr.heap.size, 0, none⟩ = some (.string x.1)) := by show _ = _; simp [go_sem]
      rw [ea]
      cases hv : noKP x.2
      · have HT := hide (take_snocI Prod.fst hx)
        have HM2 : Hid ((t.cols.take (k + 1)).any (noKP ∘ Prod.snd) = false) := any_snoc hx (unhide HM) hv
        have hlen : ((t.cols.take k).map Prod.fst).length = k := by simp; omega
        have HLN := hide hlen
        have HLT := hide hlt
        rw [hv] at HN
        obtain ⟨x1, x2⟩ := x
        simp only at d0 d1 HN HBA HX0 HT
        clear hx hv HM hlen hba
        go_wp2_with (go_at_call 57; refine (unhide HN).mono ?_; rintro e w3 ⟨rfl, hb3⟩; have hB3 := below_step (unhide HBA) hb3; have hO3 := (unhide HO).later hB3; have hya := at_zeroS _ t.cols.length k (unhide HLN) (unhide HLT); have hqq := hO3.at hya.2 hya.1; have q0 := hqq.1; have q1 := hqq.2; have x0 := clater (unhide HX0) hb3; have HS3 := hide (hO3.store (k := k) hya.2 x1); have HB3 := hide hB3; clear hB3 hO3 hya hqq)
        have hO4 := unhide HS3
        rw [set_zeroS _ _ _ (unhide HLN) (unhide HLT), ← unhide HT] at hO4
        exact ⟨⟨k + 1, by omega, by go_num, hO4, unhide HM2, (below_step (unhide HB) (unhide HB3)).setCell (p := ⟨wa.heap.size, k, none⟩) (Nat.le_refl _) _⟩, by simp [intOf]; omega⟩
      · have HZ : Hid (R = false) := by show _ = _; rw [unhide HR2, any_mem (p := noKP ∘ Prod.snd) hx hv]; rfl
        rw [hv] at HN
        obtain ⟨x1, x2⟩ := x
        simp only at d0 d1 HN HBA
        clear hx hv HM hba HX0 HO
        go_wp2_with (go_at_call 57; refine (unhide HN).mono ?_; rintro e w3 ⟨rfl, hb3⟩)
        go_ret
        exact ⟨by rw [unhide HZ]; rfl, below_step (unhide HB0) (below_step (unhide HB) (below_step (unhide HBA) hb3))⟩
    · have h9 : ¬ (k : Int) < (t.cols.length : Int) := by omega
      obtain rfl : k = t.cols.length := by omega
      rw [List.take_length, Nat.sub_self, List.replicate_zero, List.append_nil] at HO
      rw [List.take_length] at HM
      have HZ : Hid (R = namesB (t.cols.map Prod.fst)) := by show _ = _; rw [unhide HR2, unhide HM]; rfl
      have HNM := hide (areNames_any (t.cols.map Prod.fst) (some ⟨wa.heap.size, 0, none⟩) t.cols.length wr (by rw [List.length_map]; omega) (fun y hy => by obtain ⟨z, hz, rfl⟩ := List.mem_map.1 hy; have := unhide HFN z hz; omega) (unhide HO).strs)
      rw [List.length_map] at HNM
      have HBE := hide (below_step (unhide HB0) (unhide HB))
      clear hk hlt HM HR2 HO
      generalize namesB (t.cols.map Prod.fst) = nb at *
      go_wp2_with (go_at_call 28; refine (unhide HNM).mono ?_; rintro e w3 ⟨rfl, hb3⟩)
      go_ret
      exact ⟨by rw [unhide HZ]; rfl, below_step (unhide HBE) hb3⟩
end Go.Proofs.YtcpndojkfngioaaGreat
set_option linter.unusedSimpArgs false
set_option linter.unusedVariables false
namespace Go.Proofs.YtcpndojkfngioaaGreat
open Go.RowKit Go.Sort

/-- Tables whose names and columns are good. -/
def wellB (ts : List Tb) : Bool := !(ts.any fun t => !colsGood t) && namesB (ts.map Tb.name)
set_option maxHeartbeats 4000000 in
set_option maxRecDepth 100000 in
/-- areWellMade (15). -/
theorem wellMade_any (ts : List Tb) (hf : ∀ t ∈ ts, t.fin) (hl : ts.length ≤ 1048576) (a : Option Addr) (c : Nat) (w : World) (ha : Tbs w a ts) : Calls Tryz.prog 15 #[.slice a ts.length c] w fun e w' => e = .returned (.bool (wellB ts)) ∧ Below w.heap.size w w' := by
  obtain ⟨R, hR⟩ : ∃ R, R = wellB ts := ⟨_, rfl⟩
  rw [← hR]
  unfold wellB at hR
  have HF := hide hf
  have HA := hide ha
  have HR := hide hR
  clear hf ha hR
  obtain ⟨i4, hi4, z40, z41, z42⟩ := info_parts info9K
  go_enter Tryz.func15, Tryz.ntmps15
  go_upto_region 2 with (at_make; refine wpList_make_full _ rfl (.tmp 7) (.tmp 7) 67 rfl w.heap.size 9 i4 (.string ⟨#[]⟩) 1 Tryz.underlying67 hi4 z40 z41 .i64 .i64 _ _ ts.length rfl rfl rfl rfl (by rw [z42]; omega) (by unfold maxLen; omega) (Nat.le_refl _) ?_; intro w2 hO2 hg2)
  have HB2 := hide (grown_below hg2 (Nat.le_refl _) (fun g hg => by cases hg))
  have HO2 := hide (made_strs hO2)
  clear hO2 hg2 z40 z41 z42 hi4
  go_wp2_with fail
  go_loopw [11] (fun i wr => ∃ (k : Nat), k ≤ ts.length ∧ i = .int .i64 (k : Int) ∧ Hid (OwnS wr w.heap.size (.slice (some ⟨w.heap.size, 0, none⟩) ts.length ts.length) ((ts.take k).map Tb.name ++ List.replicate (ts.length - k) ⟨#[]⟩)) ∧ Hid ((ts.take k).any (fun t => !colsGood t) = false) ∧ Hid (Below w.heap.size w wr)) (fun i _ => ts.length - (intOf i).toNat)
  case atStart => exact ⟨0, Nat.zero_le _, rfl, unhide HO2, by show _ = _; rfl, unhide HB2⟩
  case round =>
    clear HO2 HB2
    obtain ⟨k, hk, rfl, HO, HM, HB⟩ := hrel
    by_cases hlt : k < ts.length
    · have h9 : (k : Int) < (ts.length : Int) := by omega
      obtain ⟨x, hx⟩ : ∃ x, ts[k]? = some x := ⟨_, List.getElem?_eq_getElem hlt⟩
      obtain ⟨b, off, mx, ea, h3, hmx⟩ := ((unhide HA).later (unhide HB)).get hx
      have hba := below_alloc (Below.refl _ wr) (x.box mx)
      have HLD := hide h3.load
      have HN := hide (goodCols_any x (unhide HF x (List.mem_of_getElem? hx)) mx (wr.alloc (x.box mx)) (hmx.later hba))
      have HL2 := hide (Tri.new wr x mx).load
      have HT3 := hide (Tri.new wr x mx)
      have HBA := hide hba
      rw [Tb.val_open] at HLD HL2 HN
      unfold Tb.box at HN HL2 HT3 HBA
      rw [ea]
      cases hv : colsGood x
      · have HZ : Hid (R = false) := by show _ = _; rw [unhide HR, any_mem (p := fun t => !colsGood t) hx (by simp [hv])]; rfl
        rw [hv] at HN
        clear hx hv HM hba HO h3 hmx HT3
        go_wp2_with (first
          | (refine wpList_load_w ?_ 45 (.tmp 14) rfl _ (by simp [Act.eval]) _ (unhide HLD) ?_; · simp [Region.wanted, yielded])
          | (refine wpList_load_w ?_ 45 (.tmp 5) rfl _ (by simp [Act.eval]) _ (unhide HL2) ?_; · simp [Region.wanted, yielded])
          | (go_at_call 27; refine (unhide HN).mono ?_; rintro e w3 ⟨rfl, hb3⟩))
        go_ret
        exact ⟨by rw [unhide HZ]; rfl, below_step (unhide HB) (below_step (unhide HBA) hb3)⟩
      · have HT := hide (take_snocI Tb.name hx)
        have HM2 : Hid ((ts.take (k + 1)).any (fun t => !colsGood t) = false) := any_snoc hx (unhide HM) (by simp [hv])
        have hlen : ((ts.take k).map Tb.name).length = k := by simp; omega
        have HLN := hide hlen
        have HLT := hide hlt
        rw [hv] at HN
        clear hx hv HM hlen hba h3 hmx
        go_wp2_with (first
          | (refine wpList_load_w ?_ 45 (.tmp 14) rfl _ (by simp [Act.eval]) _ (unhide HLD) ?_; · simp [Region.wanted, yielded])
          | (refine wpList_load_w ?_ 45 (.tmp 5) rfl _ (by simp [Act.eval]) _ (unhide HL2) ?_; · simp [Region.wanted, yielded])
          | (go_at_call 27; refine (unhide HN).mono ?_; rintro e w3 ⟨rfl, hb3⟩; have hB3 := below_step (unhide HBA) hb3; have hO3 := (unhide HO).later hB3; have hya := at_zeroS _ ts.length k (unhide HLN) (unhide HLT); have hqq := hO3.at hya.2 hya.1; have q0 := hqq.1; have q1 := hqq.2; have x0 := ((unhide HT3).later hb3).c0; have HS3 := hide (hO3.store (k := k) hya.2 x.name); have HB3 := hide hB3; clear hB3 hO3 hya hqq))
        have hO4 := unhide HS3
        rw [set_zeroS _ _ _ (unhide HLN) (unhide HLT), ← unhide HT] at hO4
        exact ⟨⟨k + 1, by omega, by go_num, hO4, unhide HM2, (below_step (unhide HB) (unhide HB3)).setCell (p := ⟨w.heap.size, k, none⟩) (Nat.le_refl _) _⟩, by simp [intOf]; omega⟩
    · have h9 : ¬ (k : Int) < (ts.length : Int) := by omega
      obtain rfl : k = ts.length := by omega
      rw [List.take_length, Nat.sub_self, List.replicate_zero, List.append_nil] at HO
      rw [List.take_length] at HM
      have HZ : Hid (R = namesB (ts.map Tb.name)) := by show _ = _; rw [unhide HR, unhide HM]; rfl
      have HNM := hide (areNames_any (ts.map Tb.name) (some ⟨w.heap.size, 0, none⟩) ts.length wr (by rw [List.length_map]; omega) (fun y hy => by obtain ⟨z, hz, rfl⟩ := List.mem_map.1 hy; have := (unhide HF z hz).n; omega) (unhide HO).strs)
      rw [List.length_map] at HNM
      clear hk hlt HM HR HO
      generalize namesB (ts.map Tb.name) = nb at *
      go_wp2_with (go_at_call 28; refine (unhide HNM).mono ?_; rintro e w3 ⟨rfl, hb3⟩)
      go_ret
      exact ⟨by rw [unhide HZ]; rfl, below_step (unhide HB) hb3⟩
/-- Tables may be asked. -/
def goodB (ts : List Tb) : Bool := wellB ts && !ts.any wrongB
set_option maxRecDepth 100000 in
/-- Good (8). -/
theorem good_any (ts : List Tb) (hf : ∀ t ∈ ts, t.fin) (hl : ts.length ≤ 1048576) (a : Option Addr) (c : Nat) (w : World) (ha : Tbs w a ts) : Calls Tryz.prog 8 #[.slice a ts.length c] w fun e w' => e = .returned (.int .i64 (if goodB ts then 0 else 1)) ∧ Below w.heap.size w w' := by
  have HW := hide (wellMade_any ts hf hl a c w ha)
  have HC := hide (fun (W : World) (hW : Below w.heap.size w W) => containsT_wrong ts hf hl a c W (ha.later hW))
  obtain ⟨R, hR⟩ : ∃ R, R = goodB ts := ⟨_, rfl⟩
  rw [← hR]
  unfold goodB at hR
  cases hw : wellB ts
  · rw [hw] at HW hR
    obtain rfl : R = false := hR
    clear hw HC ha hf
    go_enter Tryz.func8, Tryz.ntmps8
    go_wp2_with (go_at_call 15; refine (unhide HW).mono ?_; rintro e w1 ⟨rfl, hb1⟩)
    go_ret
    exact ⟨rfl, hb1⟩
  · rw [hw] at HW hR
    cases hc : ts.any wrongB
    · rw [hc] at HC hR
      obtain rfl : R = true := hR
      clear hw hc ha hf
      go_enter Tryz.func8, Tryz.ntmps8
      go_wp2_with (first
        | (go_at_call 15; refine (unhide HW).mono ?_; rintro e w1 ⟨rfl, hb1⟩)
        | (go_at_call 18; refine (unhide HC _ hb1).mono ?_; rintro e w2 ⟨rfl, hb2⟩))
      go_ret
      exact ⟨rfl, below_step hb1 hb2⟩
    · rw [hc] at HC hR
      obtain rfl : R = false := hR
      clear hw hc ha hf
      go_enter Tryz.func8, Tryz.ntmps8
      go_wp2_with (first
        | (go_at_call 15; refine (unhide HW).mono ?_; rintro e w1 ⟨rfl, hb1⟩)
        | (go_at_call 18; refine (unhide HC _ hb1).mono ?_; rintro e w2 ⟨rfl, hb2⟩))
      go_ret
      exact ⟨rfl, below_step hb1 hb2⟩
end Go.Proofs.YtcpndojkfngioaaGreat
set_option linter.unusedSimpArgs false
set_option linter.unusedVariables false
namespace Go.Proofs.YtcpndojkfngioaaGreat
open Go.ChangeShapes Go.WideShapes Go.ChangeAt Go.RowKit Go.Joins Go.Deep

theorem trod_struct11 {H : Type} {enc : TypeId × Value → H} {P : Program} {w : World} {base : Nat} {spare : Nat → Bool} {held : Bool} {t : TypeId} {f0 f1 f2 f3 f4 f5 f6 f7 f8 f9 f10 : Field} {fuel : Nat} {cs : List Value} {x : DataW H × List MemPlace} (ht : P.underlying t = some (.struct #[f0, f1, f2, f3, f4, f5, f6, f7, f8, f9, f10])) (h : DataW.trod enc P w base spare held fuel t cs = some x) :
    ∃ y0 y1 y2 y3 y4 y5 y6 y7 y8 y9 y10 n, x.1 = .agg [y0.1, y1.1, y2.1, y3.1, y4.1, y5.1, y6.1, y7.1, y8.1, y9.1, y10.1] ∧ cs.length = P.cellsOf t ∧ DataW.trod enc P w base spare held n f0.type ((cs.drop f0.offset).take (P.cellsOf f0.type)) = some y0 ∧ DataW.trod enc P w base spare held n f1.type ((cs.drop f1.offset).take (P.cellsOf f1.type)) = some y1 ∧ DataW.trod enc P w base spare held n f2.type ((cs.drop f2.offset).take (P.cellsOf f2.type)) = some y2 ∧ DataW.trod enc P w base spare held n f3.type ((cs.drop f3.offset).take (P.cellsOf f3.type)) = some y3 ∧ DataW.trod enc P w base spare held n f4.type ((cs.drop f4.offset).take (P.cellsOf f4.type)) = some y4 ∧ DataW.trod enc P w base spare held n f5.type ((cs.drop f5.offset).take (P.cellsOf f5.type)) = some y5 ∧ DataW.trod enc P w base spare held n f6.type ((cs.drop f6.offset).take (P.cellsOf f6.type)) = some y6 ∧ DataW.trod enc P w base spare held n f7.type ((cs.drop f7.offset).take (P.cellsOf f7.type)) = some y7 ∧ DataW.trod enc P w base spare held n f8.type ((cs.drop f8.offset).take (P.cellsOf f8.type)) = some y8 ∧ DataW.trod enc P w base spare held n f9.type ((cs.drop f9.offset).take (P.cellsOf f9.type)) = some y9 ∧ DataW.trod enc P w base spare held n f10.type ((cs.drop f10.offset).take (P.cellsOf f10.type)) = some y10 := by
  obtain ⟨xs, n, _, rfl, hl, hlen, hf⟩ := DataW.trod_struct ht h
  match xs, hlen with
  | [y0, y1, y2, y3, y4, y5, y6, y7, y8, y9, y10], _ => exact ⟨y0, y1, y2, y3, y4, y5, y6, y7, y8, y9, y10, n, by simp, hl, by simpa using hf 0 f0 rfl, by simpa using hf 1 f1 rfl, by simpa using hf 2 f2 rfl, by simpa using hf 3 f3 rfl, by simpa using hf 4 f4 rfl, by simpa using hf 5 f5 rfl, by simpa using hf 6 f6 rfl, by simpa using hf 7 f7 rfl, by simpa using hf 8 f8 rfl, by simpa using hf 9 f9 rfl, by simpa using hf 10 f10 rfl⟩
theorem cells28 : Tryz.prog.cellsOf 28 = 11 := by kernel_rfl
theorem cellsI23 : Tryz.prog.cellsOf 23 = 1 := by kernel_rfl
theorem cellsK24 : Tryz.prog.cellsOf 24 = 1 := by kernel_rfl
theorem cellsA25 : Tryz.prog.cellsOf 25 = 1 := by kernel_rfl
theorem cellsP26 : Tryz.prog.cellsOf 26 = 1 := by kernel_rfl
theorem cellsT45 : Tryz.prog.cellsOf 45 = 3 := by kernel_rfl
theorem cellsC42 : Tryz.prog.cellsOf 42 = 1 := by kernel_rfl
theorem cellsR43 : Tryz.prog.cellsOf 43 = 1 := by kernel_rfl
theorem cellsR46 : Tryz.prog.cellsOf 46 = 1 := by kernel_rfl
theorem cellsC63 : Tryz.prog.cellsOf 63 = 2 := by kernel_rfl
theorem cellsK102 : Tryz.prog.cellsOf 102 = 2 := by kernel_rfl
theorem cellsA100 : Tryz.prog.cellsOf 100 = 2 := by kernel_rfl
theorem cellsB4 : Tryz.prog.cellsOf 4 = 1 := by kernel_rfl
theorem one_leB {H : Type} (d : DataW H) : 1 ≤ Rows.uptoBulk d := by
  cases d with
  | lit l => cases l <;> simp [Rows.uptoBulk]
  | nil => simp [Rows.uptoBulk]
  | ptr d => simp [Rows.uptoBulk]
  | slice elems spare => simp [Rows.uptoBulk]
  | agg parts => simp [Rows.uptoBulk]
  | iface t d => simp [Rows.uptoBulk]
  | map entries => simp [Rows.uptoBulk]
  | held h => simp [Rows.uptoBulk]
theorem length_leB {H : Type} : ∀ l : List (DataW H), l.length ≤ Rows.uptoBulkAll l
  | [] => Nat.zero_le _
  | d :: l => by
    have := length_leB l
    have := one_leB d
    rw [Rows.uptoBulkAll, List.length_cons]
    omega
theorem part_leB {H : Type} : ∀ {l : List (DataW H)} {d : DataW H}, d ∈ l → Rows.uptoBulk d ≤ Rows.uptoBulkAll l
  | x :: l, d, h => by
    rw [Rows.uptoBulkAll]
    rcases List.mem_cons.1 h with rfl | h
    · omega
    · have := part_leB h
      omega
theorem agg_leB {H : Type} {l : List (DataW H)} {d : DataW H} (h : d ∈ l) : Rows.uptoBulk d ≤ Rows.uptoBulk (.agg l) ∧ SizeOf.sizeOf d < SizeOf.sizeOf (DataW.agg l) := by
  refine ⟨?_, ?_⟩
  · have := part_leB h
    simp only [Rows.uptoBulk]
    omega
  · have := List.sizeOf_lt_of_mem h
    simp only [DataW.agg.sizeOf_spec]
    omega
theorem str_leB {H : Type} {s : ByteArray} {n : Nat} (h : Rows.uptoBulk (.lit (.string s.data.toList) : DataW H) ≤ n) : s.size ≤ n := by
  simp only [Rows.uptoBulk] at h
  have e : s.data.toList.length = s.size := by rw [Array.length_toList]; rfl
  omega
section
variable {H : Type} {enc : TypeId × Value → H} {w : World} {base : Nat} {spare : Nat → Bool} {held : Bool}
/-- A list's elements lie side by side. -/
def LiesAt {α : Type} (w : World) (N : Nat) (cells : α → List Value) (a : Option Addr) (xs : List α) : Prop := xs = [] ∨ ∃ b off, a = some ⟨b, off, none⟩ ∧ ∀ (i : Nat) q, xs[i]? = some q → ∀ (j : Nat) v, (cells q)[j]? = some v → w.cell? ⟨b, off + i * N + j, none⟩ = some v
set_option maxRecDepth 100000 in
/-- A list that came in, laid open. -/
theorem open_list {α : Type} [Inhabited α] {t e fuel : Nat} {cv : Value} {y : DataW H × List MemPlace} (N : Nat) (hN : 0 < N) (cells : α → List Value) (Pr : α → Prop) (ht : Tryz.prog.underlying t = some (.slice e)) (hc : Tryz.prog.cellsOf e = N) (hcl : ∀ q, (cells q).length = N)
    (hE : ∀ n cs (y' : DataW H × List MemPlace), DataW.trod enc Tryz.prog w base spare held n e cs = some y' → SizeOf.sizeOf y'.1 < SizeOf.sizeOf y.1 → Rows.uptoBulk y'.1 ≤ Rows.uptoBulk y.1 → ∃ q, cs = cells q ∧ Pr q)
    (h : DataW.trod enc Tryz.prog w base spare held fuel t [cv] = some y) :
    ∃ (a : Option Addr) (cap : Nat) (xs : List α), cv = .slice a xs.length cap ∧ xs.length ≤ cap ∧ LiesAt w N cells a xs ∧ (∀ q ∈ xs, Pr q) ∧ xs.length ≤ Rows.uptoBulk y.1 := by
  rcases open_slice ht h with ⟨hcs, hx⟩ | ⟨a, len, cap, m, n, D, Pl, hcs, hb, hl, hm, hmm, hx, hel⟩
  · simp only [List.cons.injEq, and_true] at hcs
    subst hcs
    exact ⟨none, 0, [], rfl, Nat.le_refl _, .inl rfl, (fun q hq => by cases hq), Nat.zero_le _⟩
  · simp only [List.cons.injEq, and_true] at hcs
    subst hcs
    have hx1 : y.1 = .slice ((List.range len).map D) ((List.range (m - len)).map fun j => D (len + j)) := by rw [hx]
    have hlm : len ≤ m := by rw [hmm]; split <;> omega
    have hb3 : Rows.uptoBulk y.1 = Rows.uptoBulkAll ((List.range len).map D) + Rows.uptoBulkAll ((List.range (m - len)).map fun j => D (len + j)) + 1 := by rw [hx1, Rows.uptoBulk]
    have hel2 : ∀ i, i < len → ∃ q : α, w.cells? base (a.add (i * N)) N = some (cells q) ∧ Pr q := by
      intro i hi
      obtain ⟨cs', g1, g2⟩ := hel i (by omega)
      rw [hc] at g1
      have hmem : D i ∈ (List.range len).map D := List.mem_map.2 ⟨i, List.mem_range.2 hi, rfl⟩
      obtain ⟨q, rfl, hq⟩ := hE n cs' (D i, Pl i) g2 (by
        have s1 := List.sizeOf_lt_of_mem hmem
        rw [hx1]
        simp only [DataW.slice.sizeOf_spec]
        show SizeOf.sizeOf (D i) < _
        omega) (by
        have := part_leB hmem
        show Rows.uptoBulk (D i) ≤ _
        omega)
      exact ⟨q, g1, hq⟩
    obtain ⟨f, hfx⟩ := choose_lt (α := α) (n := len) hel2
    have hlen : ((List.range len).map f).length = len := by simp
    refine ⟨some a, cap, (List.range len).map f, by rw [hlen], by rw [hlen]; exact hl, ?_, ?_, ?_⟩
    · by_cases h0 : len = 0
      · left; subst h0; rfl
      · right
        obtain ⟨b, off, spot⟩ := a
        have hc0 := (World.cells?_some (hfx 0 (by omega)).1).2.2 0 hN
        obtain ⟨v0, hv0⟩ : ∃ v, (cells (f 0))[0]? = some v := ⟨_, List.getElem?_eq_getElem (by rw [hcl]; exact hN)⟩
        rw [hv0] at hc0
        have hspot : spot = none := by simpa [Addr.add] using World.cell?_spot hc0
        subst hspot
        refine ⟨b, off, rfl, fun i q hq j v hv => ?_⟩
        obtain ⟨hi, rfl⟩ := List.getElem?_eq_some_iff.1 hq
        have hi' : i < len := by simpa using hi
        simp only [List.getElem_map, List.getElem_range] at hv
        have hj : j < N := by have := (List.getElem?_eq_some_iff.1 hv).1; rw [hcl] at this; exact this
        have hcj := (World.cells?_some (hfx i hi').1).2.2 j hj
        rw [addr_lit, addr_lit, hv] at hcj
        exact hcj
    · intro q hq
      obtain ⟨i, hi, rfl⟩ := List.mem_map.1 hq
      exact (hfx i (by simpa using hi)).2
    · rw [hlen]
      have := length_leB ((List.range len).map D)
      rw [List.length_map, List.length_range] at this
      omega
/-- An expression's cells. -/
def exCells (q : Ex × Option Addr × Nat) : List Value := [.int .i64 q.1.op, .int .i64 q.1.n, .int .i64 q.1.v.k, .int .i64 q.1.v.n, .string q.1.v.s, .slice q.2.1 q.1.args.length q.2.2]
theorem ex_lies {a : Option Addr} {xs : List (Ex × Option Addr × Nat)} (h : LiesAt w 6 exCells a xs) (hp : ∀ q ∈ xs, Ex.all w q.2.1 q.1.args) : Ex.all w a (xs.map Prod.fst) := by
  rcases h with rfl | ⟨b, off, rfl, h⟩
  · show Ex.all w a []
    rw [Ex.all]; trivial
  · refine Ex.all_of _ off fun i e he => ?_
    rw [List.getElem?_map] at he
    obtain ⟨q, hq, rfl⟩ := Option.map_eq_some_iff.1 he
    have hc := h i q hq
    exact Ex.at_mk ⟨hc 0 _ rfl, hc 1 _ rfl, hc 2 _ rfl, hc 3 _ rfl, hc 4 _ rfl, hc 5 _ rfl⟩ (hp q (List.mem_of_getElem? hq))
set_option maxRecDepth 100000 in
theorem open_exB : ∀ (k : Nat) (d : DataW H), SizeOf.sizeOf d ≤ k → Rows.uptoBulk d ≤ 1048576 → ∀ {n : Nat} {cs : List Value} {ps : List MemPlace}, DataW.trod enc Tryz.prog w base spare held n 74 cs = some (d, ps) →
    ∃ q : Ex × Option Addr × Nat, cs = exCells q ∧ Ex.all w q.2.1 q.1.args ∧ q.1.fin
  | 0, d, hs, _, _, _, _, _ => by cases d <;> simp at hs
  | k + 1, d, hs, hw, n, cs, ps, h => by
    obtain ⟨y0, y1, y2, y3, n', hx, hl, h0, h1, h2, h3⟩ := trod_struct4 Tryz.underlying74 h
    simp only [Prod.mk.injEq] at hx
    obtain ⟨rfl, _⟩ := hx
    rw [cells26] at hl
    match cs, hl with
    | [c0, c1, c2, c3, c4, c5], _ =>
      simp only [cells3, cells23, cells24, List.drop_zero, List.take_succ_cons, List.take_zero, List.drop_succ_cons] at h0 h1 h2 h3
      obtain ⟨op, e0, q0, w0⟩ := DataW.trod_int Tryz.underlying3 h0
      obtain ⟨m, e1, q1, w1⟩ := DataW.trod_int Tryz.underlying3 h1
      obtain ⟨z0, z1, z2, n2, hz, hzl, g0, g1, g2⟩ := trod_struct3 Tryz.underlying65 h2
      simp only [cells3, cells2, cells9, List.drop_zero, List.take_succ_cons, List.take_zero, List.drop_succ_cons] at g0 g1 g2
      obtain ⟨vk, e2, r0, wk⟩ := DataW.trod_int Tryz.underlying3 g0
      obtain ⟨vn, e3, r1, wn⟩ := DataW.trod_int Tryz.underlying2 g1
      obtain ⟨vs, e4, r2, ws⟩ := DataW.trod_string Tryz.underlying9 g2
      simp only [List.cons.injEq, and_true] at e0 e1 e2 e3 e4
      subst e0 e1 e2 e3 e4
      have b2 := (agg_leB (show y2.1 ∈ [y0.1, y1.1, y2.1, y3.1] by simp)).1
      have b3 := agg_leB (show y3.1 ∈ [y0.1, y1.1, y2.1, y3.1] by simp)
      have hz2 : y2.1 = .agg [z0.1, z1.1, z2.1] := by rw [hz]
      have b4 := (agg_leB (show z2.1 ∈ [z0.1, z1.1, z2.1] by simp)).1
      rw [← hz2] at b4
      have hvs : vs.size ≤ 1048576 := str_leB (H := H) (by have e : z2.1 = .lit (.string vs.data.toList) := (by rw [r2]); rw [← e]; omega)
      have inst : Inhabited (Ex × Option Addr × Nat) := ⟨(.mk 0 0 .null [], none, 0)⟩
      obtain ⟨a, cap, xs, rfl, hcap, hat, hpr, hbl⟩ := open_list 6 (by decide) exCells (fun q => Ex.all w q.2.1 q.1.args ∧ q.1.fin) Tryz.underlying22 cells26 (fun q => rfl) (fun n cs' y' g s1 s2 => open_exB k y'.1 (by omega) (by omega) (ps := y'.2) g) h3
      have hlen : (xs.map Prod.fst).length = xs.length := by simp
      refine ⟨(.mk op m ⟨vk, vn, vs⟩ (xs.map Prod.fst), a, cap), ?_, ex_lies hat (fun q hq => (hpr q hq).1), ?_⟩
      · show _ = [_, _, _, _, _, Value.slice a (xs.map Prod.fst).length cap]
        rw [hlen]; rfl
      · show Ex.fin (.mk op m ⟨vk, vn, vs⟩ (xs.map Prod.fst))
        rw [Ex.fin]
        refine ⟨⟨by rw [hlen]; omega, by show vs.size ≤ _; omega, in64_of wn, in64_of w1⟩, Ex.fins_of _ fun x hx => ?_⟩
        obtain ⟨q, hq, rfl⟩ := List.mem_map.1 hx
        exact (hpr q hq).2
theorem Pl.all_of {w : World} {b : Nat} : ∀ (l : List Pl) (off : Nat), (∀ (i : Nat) e, l[i]? = some e → Pl.at w b (off + i * 11) e) → Pl.all w (some ⟨b, off, none⟩) l
  | [], off, _ => by rw [Pl.all]; trivial
  | e :: l, off, h => by
    rw [Pl.all]
    refine ⟨b, off, rfl, by simpa using h 0 e rfl, Pl.all_of l (off + 11) fun i x hx => ?_⟩
    have := h (i + 1) x (by simpa using hx)
    rw [show off + 11 + i * 11 = off + (i + 1) * 11 by omega]
    exact this
theorem Pl.at_mk {w : World} {b off : Nat} {e : Pl} {m : Pm} (h : Elv w b off e m) (ho : Own4 w e m) (ha : Pl.all w m.aP e.args) : e.at w b off := by
  cases e with
  | mk op tab ex cols keys aggs fn col n o l => rw [Pl.at]; exact ⟨m, h, ho, ha⟩
theorem Pl.fins_of : ∀ (l : List Pl), (∀ x ∈ l, x.fin) → Pl.fins l
  | [], _ => by rw [Pl.fins]; trivial
  | e :: l, h => by rw [Pl.fins]; exact ⟨h e (by simp), Pl.fins_of l fun x hx => h x (by simp [hx])⟩
/-- A plan's cells. -/
def plCells (q : Pl × Pm) : List Value := [.int .i64 q.1.op, .string q.1.tab, .slice q.2.aE q.1.ex.length q.2.cE, .slice q.2.aC q.1.cols.length q.2.cC, .slice q.2.aK q.1.keys.length q.2.cK, .slice q.2.aA q.1.aggs.length q.2.cA, .int .i64 q.1.fn, .int .i64 q.1.col, .int .i64 q.1.n, .int .i64 q.1.off, .slice q.2.aP q.1.args.length q.2.cP]
theorem pl_lies {a : Option Addr} {xs : List (Pl × Pm)} (h : LiesAt w 11 plCells a xs) (hp : ∀ q ∈ xs, PlM w q.1 q.2) : Pl.all w a (xs.map Prod.fst) := by
  rcases h with rfl | ⟨b, off, rfl, h⟩
  · show Pl.all w a []
    rw [Pl.all]; trivial
  · refine Pl.all_of _ off fun i e he => ?_
    rw [List.getElem?_map] at he
    obtain ⟨q, hq, rfl⟩ := Option.map_eq_some_iff.1 he
    have hc := h i q hq
    have hm := hp q (List.mem_of_getElem? hq)
    exact Pl.at_mk (m := q.2) ⟨hc 0 _ rfl, hc 1 _ rfl, hc 2 _ rfl, hc 3 _ rfl, hc 4 _ rfl, hc 5 _ rfl, hc 6 _ rfl, hc 7 _ rfl, hc 8 _ rfl, hc 9 _ rfl, hc 10 _ rfl⟩ hm.o hm.p
theorem open_intsB {fuel : Nat} {cv : Value} {y : DataW H × List MemPlace} (h : DataW.trod enc Tryz.prog w base spare held fuel 23 [cv] = some y) : ∃ (a : Option Addr) (cap : Nat) (xs : List Int), cv = .slice a xs.length cap ∧ xs.length ≤ cap ∧ IntsAt w a xs ∧ (∀ x ∈ xs, In64 x) ∧ xs.length ≤ Rows.uptoBulk y.1 := by
  obtain ⟨a, cap, xs, h1, h2, h3, h4, h5⟩ := open_list (α := Int) 1 (by decide) (fun x => [.int .i64 x]) In64 Tryz.underlying23 cells3 (fun _ => rfl) (fun n cs y' g _ _ => by
    obtain ⟨x, e, _, wx⟩ := DataW.trod_int Tryz.underlying3 g
    exact ⟨x, e, in64_of wx⟩) h
  refine ⟨a, cap, xs, h1, h2, ?_, h4, h5⟩
  rcases h3 with h3 | ⟨b, off, ha, h3⟩
  · exact .inl h3
  · exact .inr ⟨b, off, ha, fun i x hx => by have := h3 i x hx 0 _ rfl; simpa using this⟩
set_option maxRecDepth 100000 in
theorem open_keysB {fuel : Nat} {cv : Value} {y : DataW H × List MemPlace} (h : DataW.trod enc Tryz.prog w base spare held fuel 24 [cv] = some y) : ∃ (a : Option Addr) (cap : Nat) (xs : List (Int × Bool)), cv = .slice a xs.length cap ∧ xs.length ≤ cap ∧ KeysAt w a xs ∧ (∀ x ∈ xs, In64 x.1) ∧ xs.length ≤ Rows.uptoBulk y.1 := by
  obtain ⟨a, cap, xs, h1, h2, h3, h4, h5⟩ := open_list (α := Int × Bool) 2 (by decide) (fun x => [.int .i64 x.1, .bool x.2]) (fun x => In64 x.1) Tryz.underlying24 cellsK102 (fun _ => rfl) (fun n cs y' g _ _ => by
    obtain ⟨z0, z1, n', _, hl, g0, g1⟩ := trod_struct2 Tryz.underlying102 g
    rw [cellsK102] at hl
    match cs, hl with
    | [c0, c1], _ =>
      simp only [cells3, cellsB4, List.drop_zero, List.take_succ_cons, List.take_zero, List.drop_succ_cons] at g0 g1
      obtain ⟨x, e0, _, wx⟩ := DataW.trod_int Tryz.underlying3 g0
      obtain ⟨b, e1, _⟩ := DataW.trod_bool Tryz.underlying4 g1
      simp only [List.cons.injEq, and_true] at e0 e1
      subst e0 e1
      exact ⟨(x, b), rfl, in64_of wx⟩) h
  refine ⟨a, cap, xs, h1, h2, ?_, h4, h5⟩
  rcases h3 with h3 | ⟨b, off, ha, h3⟩
  · exact .inl h3
  · exact .inr ⟨b, off, ha, fun i x hx => ⟨h3 i x hx 0 _ rfl, h3 i x hx 1 _ rfl⟩⟩
set_option maxRecDepth 100000 in
theorem open_aggsB {fuel : Nat} {cv : Value} {y : DataW H × List MemPlace} (h : DataW.trod enc Tryz.prog w base spare held fuel 25 [cv] = some y) : ∃ (a : Option Addr) (cap : Nat) (xs : List (Int × Int)), cv = .slice a xs.length cap ∧ xs.length ≤ cap ∧ AggsAt w a xs ∧ (∀ x ∈ xs, In64 x.2) ∧ xs.length ≤ Rows.uptoBulk y.1 := by
  obtain ⟨a, cap, xs, h1, h2, h3, h4, h5⟩ := open_list (α := Int × Int) 2 (by decide) (fun x => [.int .i64 x.1, .int .i64 x.2]) (fun x => In64 x.2) Tryz.underlying25 cellsA100 (fun _ => rfl) (fun n cs y' g _ _ => by
    obtain ⟨z0, z1, n', _, hl, g0, g1⟩ := trod_struct2 Tryz.underlying100 g
    rw [cellsA100] at hl
    match cs, hl with
    | [c0, c1], _ =>
      simp only [cells3, List.drop_zero, List.take_succ_cons, List.take_zero, List.drop_succ_cons] at g0 g1
      obtain ⟨x, e0, _, wx⟩ := DataW.trod_int Tryz.underlying3 g0
      obtain ⟨z, e1, _, wz⟩ := DataW.trod_int Tryz.underlying3 g1
      simp only [List.cons.injEq, and_true] at e0 e1
      subst e0 e1
      exact ⟨(x, z), rfl, in64_of wz⟩) h
  refine ⟨a, cap, xs, h1, h2, ?_, h4, h5⟩
  rcases h3 with h3 | ⟨b, off, ha, h3⟩
  · exact .inl h3
  · exact .inr ⟨b, off, ha, fun i x hx => ⟨h3 i x hx 0 _ rfl, h3 i x hx 1 _ rfl⟩⟩
set_option maxHeartbeats 1000000 in
set_option maxRecDepth 100000 in
theorem open_plB : ∀ (k : Nat) (d : DataW H), SizeOf.sizeOf d ≤ k → Rows.uptoBulk d ≤ 1048576 → ∀ {n : Nat} {cs : List Value} {ps : List MemPlace}, DataW.trod enc Tryz.prog w base spare held n 28 cs = some (d, ps) →
    ∃ q : Pl × Pm, cs = plCells q ∧ PlM w q.1 q.2 ∧ q.1.fin
  | 0, d, hs, _, _, _, _, _ => by cases d <;> simp at hs
  | k + 1, d, hs, hw, n, cs, ps, h => by
    obtain ⟨y0, y1, y2, y3, y4, y5, y6, y7, y8, y9, y10, n', hx, hl, h0, h1, h2, h3, h4, h5, h6, h7, h8, h9, h10⟩ := trod_struct11 Tryz.underlying28 h
    change d = _ at hx
    subst hx
    rw [cells28] at hl
    match cs, hl with
    | [c0, c1, c2, c3, c4, c5, c6, c7, c8, c9, c10], _ =>
      simp only [cells3, cells9, cells24, cellsI23, cellsK24, cellsA25, cellsP26, List.drop_zero, List.take_succ_cons, List.take_zero, List.drop_succ_cons] at h0 h1 h2 h3 h4 h5 h6 h7 h8 h9 h10
      obtain ⟨op, e0, q0, w0⟩ := DataW.trod_int Tryz.underlying3 h0
      obtain ⟨tab, e1, q1, w1⟩ := DataW.trod_string Tryz.underlying9 h1
      obtain ⟨fn, e6, _, _⟩ := DataW.trod_int Tryz.underlying3 h6
      obtain ⟨col, e7, _, _⟩ := DataW.trod_int Tryz.underlying3 h7
      obtain ⟨nn, e8, _, w8⟩ := DataW.trod_int Tryz.underlying3 h8
      obtain ⟨off, e9, _, _⟩ := DataW.trod_int Tryz.underlying3 h9
      simp only [List.cons.injEq, and_true] at e0 e1 e6 e7 e8 e9
      subst e0 e1 e6 e7 e8 e9
      have b1 := (agg_leB (show y1.1 ∈ [y0.1, y1.1, y2.1, y3.1, y4.1, y5.1, y6.1, y7.1, y8.1, y9.1, y10.1] by simp)).1
      have b2 := agg_leB (show y2.1 ∈ [y0.1, y1.1, y2.1, y3.1, y4.1, y5.1, y6.1, y7.1, y8.1, y9.1, y10.1] by simp)
      have b3 := (agg_leB (show y3.1 ∈ [y0.1, y1.1, y2.1, y3.1, y4.1, y5.1, y6.1, y7.1, y8.1, y9.1, y10.1] by simp)).1
      have b4 := (agg_leB (show y4.1 ∈ [y0.1, y1.1, y2.1, y3.1, y4.1, y5.1, y6.1, y7.1, y8.1, y9.1, y10.1] by simp)).1
      have b5 := (agg_leB (show y5.1 ∈ [y0.1, y1.1, y2.1, y3.1, y4.1, y5.1, y6.1, y7.1, y8.1, y9.1, y10.1] by simp)).1
      have b10 := agg_leB (show y10.1 ∈ [y0.1, y1.1, y2.1, y3.1, y4.1, y5.1, y6.1, y7.1, y8.1, y9.1, y10.1] by simp)
      have htab : tab.size ≤ 1048576 := str_leB (H := H) (by have e : y1.1 = .lit (.string tab.data.toList) := (by rw [q1]); rw [← e]; omega)
      have inst : Inhabited (Ex × Option Addr × Nat) := ⟨(.mk 0 0 .null [], none, 0)⟩
      have inst2 : Inhabited (Pl × Pm) := ⟨(.mk 0 ⟨#[]⟩ [] [] [] [] 0 0 0 0 [], ⟨none, 0, none, 0, none, 0, none, 0, none, 0⟩)⟩
      obtain ⟨aE, cE, xs, rfl, _, hatE, hprE, hblE⟩ := open_list 6 (by decide) exCells (fun q => Ex.all w q.2.1 q.1.args ∧ q.1.fin) Tryz.underlying22 cells26 (fun q => rfl) (fun n cs' y' g s1 s2 => open_exB (SizeOf.sizeOf y'.1) y'.1 (Nat.le_refl _) (by omega) (ps := y'.2) g) h2
      obtain ⟨aC, cC, cols, rfl, hcC, hatC, hprC, hblC⟩ := open_intsB h3
      obtain ⟨aK, cK, keys, rfl, _, hatK, hprK, hblK⟩ := open_keysB h4
      obtain ⟨aA, cA, aggs, rfl, _, hatA, hprA, hblA⟩ := open_aggsB h5
      obtain ⟨aP, cP, ps', rfl, _, hatP, hprP, hblP⟩ := open_list 11 (by decide) plCells (fun q => PlM w q.1 q.2 ∧ q.1.fin) Tryz.underlying26 cells28 (fun q => rfl) (fun n cs' y' g s1 s2 => open_plB k y'.1 (by omega) (by omega) (ps := y'.2) g) h10
      have hlE : (xs.map Prod.fst).length = xs.length := by simp
      have hlP : (ps'.map Prod.fst).length = ps'.length := by simp
      refine ⟨(.mk op tab (xs.map Prod.fst) cols keys aggs fn col nn off (ps'.map Prod.fst), ⟨aE, cE, aC, cC, aK, cK, aA, cA, aP, cP⟩), ?_, ⟨⟨ex_lies hatE (fun q hq => (hprE q hq).1), hatC, hatK, hatA, hcC⟩, pl_lies hatP (fun q hq => (hprP q hq).1)⟩, ?_⟩
      · show _ = [_, _, Value.slice aE (xs.map Prod.fst).length cE, _, _, _, _, _, _, _, Value.slice aP (ps'.map Prod.fst).length cP]
        rw [hlE, hlP]; rfl
      · show Pl.fin (.mk op tab (xs.map Prod.fst) cols keys aggs fn col nn off (ps'.map Prod.fst))
        rw [Pl.fin]
        refine ⟨⟨htab, by rw [hlE]; omega, by omega, by omega, by omega, by rw [hlP]; omega, in64_of w8, hprC, hprK, hprA⟩, Ex.fins_of _ fun x hx => ?_, Pl.fins_of _ fun x hx => ?_⟩
        · obtain ⟨q, hq, rfl⟩ := List.mem_map.1 hx
          exact (hprE q hq).2
        · obtain ⟨q, hq, rfl⟩ := List.mem_map.1 hx
          exact (hprP q hq).2
set_option maxRecDepth 100000 in
theorem open_colsB {fuel : Nat} {cv : Value} {y : DataW H × List MemPlace} (hw : Rows.uptoBulk y.1 ≤ 1048576) (h : DataW.trod enc Tryz.prog w base spare held fuel 42 [cv] = some y) : ∃ (a : Option Addr) (cap : Nat) (xs : List (ByteArray × Int)), cv = .slice a xs.length cap ∧ ColsT w a xs ∧ (∀ x ∈ xs, x.1.size ≤ 1048576) ∧ xs.length ≤ 1048576 := by
  obtain ⟨a, cap, xs, h1, h2, h3, h4, h5⟩ := open_list (α := ByteArray × Int) 2 (by decide) (fun x => [.string x.1, .int .i64 x.2]) (fun x => x.1.size ≤ 1048576) Tryz.underlying42 cellsC63 (fun _ => rfl) (fun n cs y' g _ s2 => by
    obtain ⟨z0, z1, n', hz, hl, g0, g1⟩ := trod_struct2 Tryz.underlying63 g
    rw [cellsC63] at hl
    match cs, hl with
    | [c0, c1], _ =>
      simp only [cells3, cells9, List.drop_zero, List.take_succ_cons, List.take_zero, List.drop_succ_cons] at g0 g1
      obtain ⟨x, e0, r0, wx⟩ := DataW.trod_string Tryz.underlying9 g0
      obtain ⟨z, e1, _, wz⟩ := DataW.trod_int Tryz.underlying3 g1
      simp only [List.cons.injEq, and_true] at e0 e1
      subst e0 e1
      have hz2 : y'.1 = .agg [z0.1, z1.1] := by rw [hz]
      have b0 := (agg_leB (show z0.1 ∈ [z0.1, z1.1] by simp)).1
      rw [← hz2] at b0
      exact ⟨(x, z), rfl, str_leB (H := H) (by have e : z0.1 = .lit (.string x.data.toList) := (by rw [r0]); rw [← e]; omega)⟩) h
  refine ⟨a, cap, xs, h1, ?_, h4, by omega⟩
  rcases h3 with h3 | ⟨b, off, ha, h3⟩
  · exact .inl h3
  · exact .inr ⟨b, off, ha, fun i x hx => ⟨h3 i x hx 0 _ rfl, h3 i x hx 1 _ rfl⟩⟩
set_option maxRecDepth 100000 in
theorem open_rowB {fuel : Nat} {cv : Value} {y : DataW H × List MemPlace} (h : DataW.trod enc Tryz.prog w base spare held fuel 46 [cv] = some y) : ∃ (a : Option Addr) (cap : Nat) (xs : List Val), cv = .slice a xs.length cap ∧ RowAt w a xs ∧ xs.length ≤ Rows.uptoBulk y.1 := by
  have inst : Inhabited Val := ⟨Val.null⟩
  obtain ⟨a, cap, xs, h1, h2, h3, h4, h5⟩ := open_list (α := Val) 3 (by decide) (fun x => [.int .i64 x.k, .int .i64 x.n, .string x.s]) (fun _ => True) Tryz.underlying46 cells23 (fun _ => rfl) (fun n cs y' g _ s2 => by
    obtain ⟨z0, z1, z2, n', hz, hl, g0, g1, g2⟩ := trod_struct3 Tryz.underlying65 g
    rw [cells23] at hl
    match cs, hl with
    | [c0, c1, c2], _ =>
      simp only [cells3, cells2, cells9, List.drop_zero, List.take_succ_cons, List.take_zero, List.drop_succ_cons] at g0 g1 g2
      obtain ⟨vk, e0, _, _⟩ := DataW.trod_int Tryz.underlying3 g0
      obtain ⟨vn, e1, _, _⟩ := DataW.trod_int Tryz.underlying2 g1
      obtain ⟨vs, e2, _, _⟩ := DataW.trod_string Tryz.underlying9 g2
      simp only [List.cons.injEq, and_true] at e0 e1 e2
      subst e0 e1 e2
      exact ⟨⟨vk, vn, vs⟩, rfl, trivial⟩) h
  refine ⟨a, cap, xs, h1, ?_, h5⟩
  rcases h3 with h3 | ⟨b, off, ha, h3⟩
  · exact .inl h3
  · exact .inr ⟨b, off, ha, fun i x hx => ⟨h3 i x hx 0 _ rfl, h3 i x hx 1 _ rfl, h3 i x hx 2 _ rfl⟩⟩
set_option maxRecDepth 100000 in
theorem open_rowsB {fuel : Nat} {cv : Value} {y : DataW H × List MemPlace} (hw : Rows.uptoBulk y.1 ≤ 1048576) (h : DataW.trod enc Tryz.prog w base spare held fuel 43 [cv] = some y) : ∃ (a : Option Addr) (cap : Nat) (rs : List (List Val)), cv = .slice a rs.length cap ∧ RowsT w a rs ∧ (∀ r ∈ rs, r.length ≤ 1048576) ∧ rs.length ≤ 1048576 := by
  have inst : Inhabited (List Val × Option Addr × Nat) := ⟨([], none, 0)⟩
  obtain ⟨a, cap, xs, h1, h2, h3, h4, h5⟩ := open_list (α := List Val × Option Addr × Nat) 1 (by decide) (fun q => [.slice q.2.1 q.1.length q.2.2]) (fun q => RowAt w q.2.1 q.1 ∧ q.1.length ≤ 1048576) Tryz.underlying43 cellsR46 (fun _ => rfl) (fun n cs y' g _ s2 => by
    have hl : cs.length = 1 := by
      rcases open_slice Tryz.underlying46 g with ⟨hcs, _⟩ | ⟨_, _, _, _, _, _, _, hcs, _⟩ <;> rw [hcs] <;> rfl
    match cs, hl with
    | [c0], _ =>
      obtain ⟨ra, rc, r, rfl, q1, q2⟩ := open_rowB g
      exact ⟨(r, ra, rc), rfl, q1, by show r.length ≤ _; omega⟩) h
  refine ⟨a, cap, xs.map Prod.fst, by rw [h1]; simp, ?_, ?_, by simp; omega⟩
  · rcases h3 with rfl | ⟨b, off, ha, h3⟩
    · exact .inl rfl
    · refine .inr ⟨b, off, ha, fun i r hr => ?_⟩
      rw [List.getElem?_map] at hr
      obtain ⟨q, hq, rfl⟩ := Option.map_eq_some_iff.1 hr
      exact ⟨q.2.1, q.2.2, by have := h3 i q hq 0 _ rfl; simpa using this, (h4 q (List.mem_of_getElem? hq)).1⟩
  · intro r hr
    obtain ⟨q, hq, rfl⟩ := List.mem_map.1 hr
    exact (h4 q hq).2
set_option maxHeartbeats 1000000 in
set_option maxRecDepth 100000 in
/-- Tables that came in, laid open. -/
theorem open_tablesB {fuel : Nat} {cv : Value} {y : DataW H × List MemPlace} (hw : Rows.uptoBulk y.1 ≤ 1048576) (h : DataW.trod enc Tryz.prog w base spare held fuel 29 [cv] = some y) : ∃ (a : Option Addr) (cap : Nat) (ts : List Tb), cv = .slice a ts.length cap ∧ Tbs w a ts ∧ (∀ t ∈ ts, t.fin) ∧ ts.length ≤ 1048576 := by
  have inst : Inhabited (Tb × Tm) := ⟨(⟨⟨#[]⟩, [], []⟩, ⟨none, 0, none, 0⟩)⟩
  obtain ⟨a, cap, xs, h1, h2, h3, h4, h5⟩ := open_list (α := Tb × Tm) 3 (by decide) (fun q => [.string q.1.name, .slice q.2.aC q.1.cols.length q.2.cC, .slice q.2.aR q.1.rows.length q.2.cR]) (fun q => TbM w q.1 q.2 ∧ q.1.fin) Tryz.underlying29 cellsT45 (fun _ => rfl) (fun n cs y' g _ s2 => by
    obtain ⟨z0, z1, z2, n', hz, hl, g0, g1, g2⟩ := trod_struct3 Tryz.underlying45 g
    rw [cellsT45] at hl
    match cs, hl with
    | [c0, c1, c2], _ =>
      simp only [cells9, cellsC42, cellsR43, List.drop_zero, List.take_succ_cons, List.take_zero, List.drop_succ_cons] at g0 g1 g2
      obtain ⟨nm, e0, r0, _⟩ := DataW.trod_string Tryz.underlying9 g0
      simp only [List.cons.injEq, and_true] at e0
      subst e0
      have hz2 : y'.1 = .agg [z0.1, z1.1, z2.1] := by rw [hz]
      have b0 := (agg_leB (show z0.1 ∈ [z0.1, z1.1, z2.1] by simp)).1
      have b1 := (agg_leB (show z1.1 ∈ [z0.1, z1.1, z2.1] by simp)).1
      have b2 := (agg_leB (show z2.1 ∈ [z0.1, z1.1, z2.1] by simp)).1
      rw [← hz2] at b0 b1 b2
      obtain ⟨aC, cC, cols, rfl, q1, q2, q3⟩ := open_colsB (by omega) g1
      obtain ⟨aR, cR, rows, rfl, p1, p2, p3⟩ := open_rowsB (by omega) g2
      exact ⟨(⟨nm, cols, rows⟩, ⟨aC, cC, aR, cR⟩), rfl, ⟨q1, p1⟩, ⟨str_leB (H := H) (by have e : z0.1 = .lit (.string nm.data.toList) := (by rw [r0]); rw [← e]; omega), q3, q2, p3, p2⟩⟩) h
  refine ⟨a, cap, xs.map Prod.fst, by rw [h1]; simp, ?_, ?_, by simp; omega⟩
  · rcases h3 with rfl | ⟨b, off, ha, h3⟩
    · exact .inl rfl
    · refine .inr ⟨b, off, ha, fun i t ht => ?_⟩
      rw [List.getElem?_map] at ht
      obtain ⟨q, hq, rfl⟩ := Option.map_eq_some_iff.1 ht
      exact ⟨q.2, ⟨h3 i q hq 0 _ rfl, h3 i q hq 1 _ rfl, h3 i q hq 2 _ rfl⟩, (h4 q (List.mem_of_getElem? hq)).1⟩
  · intro t ht
    obtain ⟨q, hq, rfl⟩ := List.mem_map.1 ht
    exact (h4 q hq).2
end
end Go.Proofs.YtcpndojkfngioaaGreat

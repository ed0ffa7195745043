import Derived.Test.YtcbenpodohjbiaaGreatSqZ
import Derived.Test.YtcbenpodohjbiaaGreatSqY
import Derived.Test.YtcbenpodohjbiaaGreatSqN
import Derived.Test.YtcbenpodohjbiaaGreatSqQ
import Derived.Test.YtcbenpodohjbiaaGreatSrF
import Derived.Test.YtcbenpodohjbiaaGreatSqE
import Derived.Test.YtcbenpodohjbiaaGreatSpZ
set_option linter.unusedSimpArgs false
set_option linter.unusedVariables false
set_option maxRecDepth 100000
namespace Go.Proofs.YtcbenpodohjbiaaGreat
open Go.RowKit Go.Sort

set_option maxHeartbeats 2000000 in
/-- slices.Clone (19) of keys. -/
theorem kclone_any (ks : List (Int × Bool)) (a : Option Addr) (c : Nat) (w : World) (hl : ks.length ≤ 1048576) (ha : KeysAt w a ks) :
    Calls Tryz.prog 19 #[.slice a ks.length c] w fun e w' => ∃ v, e = .returned v ∧ OwnK w' w.heap.size v ks ∧ Below w.heap.size w w' := by
  have q : ∀ W : World, (binOp .eql 23 (.slice a ks.length c) (.slice none 0 0)).run Tryz.prog W = .ok (.bool a.isNone) W := fun W => Lib.run_eql_slice_nil W _ _ a _ c 0 0 Tryz.underlying23
  cases a with
  | none =>
    have hx : ks = [] := by
      rcases ha with h | ⟨b, off, e, _⟩
      · exact h
      · cases e
    subst hx
    simp only [Option.isNone_none, List.length_nil] at q ⊢
    clear ha hl
    go_enter Tryz.func19, Tryz.ntmps19
    go_wp2
    go_ret
    exact ⟨_, rfl, World.ownsRow_nil _ _ _ _, Below.refl _ _⟩
  | some ad =>
    have HB := hide (below_alloc (Below.refl _ w) (.cells #[] 58))
    have HX := hide (ha.later (unhide HB))
    simp only [Option.isNone_some] at q
    clear ha
    go_enter Tryz.func19, Tryz.ntmps19
    go_wp2_with (at_builtin; refine wpList_push_keys _ rfl (.tmp 5) (.tmp 6) rfl w.heap.size _ [] ks ad c rfl (ownK_empty w w.heap.size (Nat.le_refl _)) rfl (unhide HX) (by simp; omega) (unhide HB).size ?_; intro v4 w4 hO4 hB4; rw [List.nil_append] at hO4)
    go_ret
    exact ⟨v4, rfl, hO4, (unhide HB).trans hB4⟩
end Go.Proofs.YtcbenpodohjbiaaGreat
set_option linter.unusedSimpArgs false
set_option linter.unusedVariables false
set_option maxRecDepth 100000
namespace Go.Proofs.YtcbenpodohjbiaaGreat
open Go.RowKit Go.Sort

/-- What Sort answers. -/
def STopP (n0 : Nat) (w : World) (b : Nat) (ks : List (Int × Bool)) (bu : Int) (k : Nat) (rs : List (List Val)) (Y0 : Yv) (e : Ending) (w' : World) : Prop :=
  ∃ (c : Int) (Y' : Yv) (F' : Nat → Prop), e = .returned (.int .i64 c) ∧ Py w' b Y' none F' ∧ Below n0 w w' ∧
    ((okB ks bu = false ∧ c = 1 ∧ Y' = Y0) ∨ (okB ks bu = true ∧ (∀ t ∈ Y'.there, t = false) ∧ Y'.there.length ≤ 1000000 ∧ Y'.most ≤ bu ∧ Y'.rf = Y0.rf ∧ ((c = 0 ∧ SrtOk ks k rs Y0 Y') ∨ (c = Y0.cd ∧ Y0.cd ≠ 0 ∧ SrtNo ks rs Y0 Y'))))
theorem Gth.start (rs : List (List Val)) (ks : List (Int × Bool)) (BU : Nat) (rf cd : Int) (hb : 4 ≤ BU) : Gth rs 0 [] ks BU (Yv.new rf cd) (Yv.new rf cd) [] :=
  ⟨rfl, rfl, rfl, rfl, rfl, by show (0 : Int) ≤ _; omega, Int.le_refl _, by simp; omega, fun r hr => by simp [Yv.new] at hr, rfl, rfl, by simp [Yv.new], rfl⟩
theorem Lvd.ok {ks : List (Int × Bool)} {k : Nat} {rs : List (List Val)} {Y0 Y Y' : Yv} {ids : List Nat} (h : Lvd ids Y Y') (hs : SrtOk ks k rs Y0 Y) : SrtOk ks k rs Y0 Y' := by
  refine ⟨h.rd.trans hs.rd, h.held.trans hs.held, ?_, by rw [h.puts]; exact hs.puts⟩
  rw [h.out]; exact hs.out
theorem Lvd.no {ks : List (Int × Bool)} {rs : List (List Val)} {Y0 Y Y' : Yv} {ids : List Nat} (h : Lvd ids Y Y') (hs : SrtNo ks rs Y0 Y) : SrtNo ks rs Y0 Y' := by
  refine ⟨h.rd.trans hs.rd, by rw [h.calls, h.rf]; exact hs.calls, ?_⟩
  rw [h.out]; exact hs.out

set_option maxHeartbeats 8000000 in
/-- Sort (7). -/
theorem Sort_any {w0 : Bs} {n0 : Nat} {w : World} {b s : Nat} {ks : List (Int × Bool)} {bu : Int} {k : Nat} {aR aK : Option Addr} {cR cK : Nat} {rs : List (List Val)} {rf cd : Int} (hP : Py w b (Yv.new rf cd) none (fun j => j = b)) (hSt : Stm w0 w s b aR cR rs 0) (hI : w0.Rows aR rs) (hb0 : w0.No b) (hbn : n0 ≤ b) (hs0 : w0.No s) (hsn : n0 ≤ s) (hw0 : n0 ≤ w.heap.size) (hn : rs.length ≤ 1048571) (hrl : ∀ r ∈ rs, r.length ≤ 1048576) (hK : KeysAt w aK ks) (hkl : ks.length ≤ 1048576) (hkx : ∀ x ∈ ks.map Prod.fst, In64 x)
    (hsafe : cd ≠ 0 ∨ (rf = 0 ∧ rs.length < 4)) (hk : okB ks bu = true → rs.length ≤ (bu.toNat - 1) ^ (k + 1)) (hk2 : k ≤ 20) :
    Calls Tryz.prog 7 #[.iface 66 (.pointer (some ⟨s, 0, none⟩)), .slice aK ks.length cK, .int .i64 bu, .iface 24 (.pointer (some ⟨b, 0, none⟩)), .iface 24 (.pointer (some ⟨b, 0, none⟩))] w fun e w' => STopP n0 w b ks bu k rs (Yv.new rf cd) e w' := by
  have hq1 : ∀ W : World, (binOp .eql 30 (.iface 66 (.pointer (some ⟨s, 0, none⟩))) .nilIface).run Tryz.prog W = .ok (.bool false) W := fun _ => by kernel_rfl
  have hC15 := fun W => work_any bu (some ⟨b, 0, none⟩) W
  have hC16 := areKeys_any ks aK cK w hkl hkx hK
  by_cases hbu : (decide (4 ≤ bu) && decide (bu ≤ 65536)) = true
  · rw [hbu] at hC15
    by_cases hkb : keysB ks = true
    · rw [hkb] at hC16
      have hok : okB ks bu = true := by unfold okB; rw [hkb, hbu]; rfl
      have hkk := hk hok
      obtain ⟨BU, rfl⟩ : ∃ BU : Nat, bu = (BU : Int) := ⟨bu.toNat, by simp at hbu; omega⟩
      rw [Int.toNat_natCast] at hkk
      have hb4 : 4 ≤ BU := by simp at hbu; omega
      have hb6 : BU ≤ 65536 := by simp at hbu; omega
      have hbl : b < w.heap.size := by obtain ⟨_, _, _, _, _, hB, _⟩ := hP; exact hB.tg.lt
      have hsl : s < w.heap.size := hSt.tg.lt
      have hsb : s ≠ b := fun e => by subst e; obtain ⟨_, _, _, _, _, hB, _⟩ := hP; exact hSt.tg.ne hB.tg (by decide) rfl
      have HC15 := hide hC15
      have HC16 := hide hC16
      have HP := hide hP
      have HST := hide hSt
      have HI := hide hI
      have HK := hide hK
      have HOK := hide hok
      have HKK := hide hkk
      have HRL := hide hrl
      have HSF := hide hsafe
      have HNN := hide (keysB_nn hkb)
      have HKL := hide hkl
      have hC17 := fun W => yardOf_any b W
      have hC18 := fun a n c W => inOrder_any a n c W
      have HC17 := hide hC17
      have HC18 := hide hC18
      have HC19 : Hid (∀ W, Below w.heap.size w W → Calls Tryz.prog 19 #[.slice aK ks.length cK] W fun e w' => ∃ v, e = .returned v ∧ OwnK w' W.heap.size v ks ∧ Below W.heap.size W w') := fun W hW => kclone_any ks aK cK W hkl (hK.later hW)
      clear hC15 hC16 hC17 hC18 hP hSt hI hK hok hkk hk hrl hsafe hkl hkx hbu hkb
      go_enter Tryz.func7, Tryz.ntmps7
      go_upto_region 5 with (first
        | (go_at_call 15; refine (unhide HC15 _).mono ?_; rintro _ w9 ⟨rfl, hw9⟩; rw [hw9]; clear hw9)
        | (go_at_call 16; refine (unhide HC16).mono ?_; rintro _ w1 ⟨rfl, hb1⟩; have HB1 := hide hb1; clear hb1)
        | (go_at_call 17; refine (unhide HC17 _).mono ?_; rintro _ w2 ⟨rfl, hy2, hb2, hs2⟩; have HY2 := hide hy2; have HB2 := hide hb2; have HS2 := hide hs2; have HC19' := hide (unhide HC19 w2 (below_step (unhide HB1) hb2)); clear hy2 hb2 hs2)
        | (go_at_call 19; refine (unhide HC19').mono ?_; rintro _ w3 ⟨v3, rfl, hO3, hb3⟩; obtain ⟨a3, c3, e3, hk3, ht3⟩ := OwnK.keys hO3; subst e3; have HK3 := hide hk3; have HT3 := hide ht3; have HB3 := hide hb3; clear hk3 ht3 hb3 hO3)
        | (go_at_call 18; refine (unhide HC18 _ _ _ _).mono ?_; rintro _ w4 ⟨rfl, hc4, ht4, hb4', hs4⟩; have HC4 := hide hc4; have HT4 := hide ht4; have HB4 := hide hb4'; have HS4 := hide hs4; clear hc4 ht4 hb4' hs4))
      obtain ⟨w5, hw5⟩ : ∃ w5, w4.alloc (.cells #[.pointer (some ⟨w1.heap.size + 1, 0, none⟩), .func (.func 32) #[] #[.pointer (some ⟨w3.heap.size, 0, none⟩)], .bool false, .int .i64 (BU : Int), .slice none 0 0] 61) = w5 := ⟨_, rfl⟩
      have hb5 : Below w4.heap.size w4 w5 := by rw [← hw5]; exact below_alloc (Below.refl _ _) _
      have hs5 : w5.heap.size = w4.heap.size + 1 := by rw [← hw5]; simp
      have hs2 := unhide HS2
      have hs4 := unhide HS4
      have z1 := (unhide HB1).size
      have z3 := (unhide HB3).size
      have hb25 : Below w2.heap.size w2 w5 := below_step (below_step (unhide HB3) (unhide HB4)) hb5
      have hbw2 : Below w.heap.size w w2 := below_step (unhide HB1) (unhide HB2)
      have hbw5 : Below w.heap.size w w5 := below_step hbw2 hb25
      have hQx : Qx w5 w4.heap.size (w1.heap.size + 1) w3.heap.size ((BU : Int), false) (.slice none 0 0) := by
        rw [← hw5]
        refine ⟨⟨_, _, heap_alloc_new _ _⟩, fun i => by simp [go_sem], ?_, ?_, ?_, ?_, ?_⟩ <;> simp [go_sem]
      have hOrd : OrdF w5 w3.heap.size ks := by
        have k45 : Ky (fun _ => False) w4 w5 := Ky.of_below hb5
        have k34 : Ky (fun _ => False) w3 w4 := Ky.of_below (unhide HB4)
        refine ⟨a3, c3, k45.cell (unhide HC4) id, k45.tg (unhide HT4) id, ((unhide HK3).later (unhide HB4)).later hb5, fun b' off e hne => k45.tg (k34.tg (unhide HT3 b' off e hne) id) id, unhide HNN, unhide HKL⟩
      have hYw5 : Yw w5 b (w1.heap.size + 1) w1.heap.size (Yv.new rf cd) none (fun j => j = b ∨ j = w1.heap.size) := by
        refine ⟨?_, .inr rfl, fun j => j = b, [], fun j e => .inl e, by omega, (unhide HP).later hbw5, (unhide HY2).ky (G := fun _ => False) (Ky.of_below hb25) id id, List.nodup_nil, fun i => by simp [Yv.new]⟩
        rintro (e | e) <;> omega
      obtain ⟨F5, hF5⟩ : ∃ F5 : Nat → Prop, F5 = fun j => (j = b ∨ j = w1.heap.size) ∨ j = w4.heap.size := ⟨_, rfl⟩
      have hF5l : ∀ j, F5 j → n0 ≤ j ∧ j < w5.heap.size := by
        rw [hF5]
        rintro j ((e | e) | e) <;> omega
      have hF5o : ∀ j, F5 j → w0.No j := by
        rw [hF5]
        rintro j ((e | e) | e)
        · subst e; exact hb0
        · exact Bs.new (unhide HST).bl (by omega)
        · exact Bs.new (unhide HST).bl (by omega)
      have hF5s : ¬ F5 s := by
        rw [hF5]
        rintro ((e | e) | e)
        · exact hsb e
        · omega
        · omega
      have hF5y : ¬ F5 (w1.heap.size + 1) := by
        rw [hF5]
        rintro ((e | e) | e) <;> omega
      have hSw5 : Sw w5 b (w1.heap.size + 1) w1.heap.size w4.heap.size w3.heap.size ks ((BU : Int), false) (Yv.new rf cd) none [] F5 := by
        refine ⟨hF5y, by rw [hF5]; exact .inr rfl, fun j => j = b ∨ j = w1.heap.size, .slice none 0 0, fun j e => by rw [hF5]; exact .inl e, by rintro (e | e) <;> omega, fun g e => (by cases e), hYw5, hQx, World.ownsRow_nil _ _ _ _, hOrd⟩
      have hsafe5 : Safe (Yv.new rf cd) (rs.length - 0 + 1 + rs.length) := by
        rcases unhide HSF with r | r
        · exact .inl r
        · exact .inr ⟨r.1, Int.le_refl _, by show (0 : Int) + _ < _; omega⟩
      have hGI : GI w0 w5 w5 b (w1.heap.size + 1) w1.heap.size w4.heap.size w3.heap.size s ks BU aR cR rs (Yv.new rf cd) F5 0 (.slice none 0 0) [] (Yv.new rf cd) [] F5 :=
        ⟨Nat.zero_le _, Nw.refl _ _, fun _ e => e, hSw5, Ky.refl _ _, Lst.nil _, fun g e => (by cases e), (unhide HST).later hbw5, Gth.start rs ks BU rf cd hb4, hsafe5, fun j e => (hF5l j e).2⟩
      have HSO := hide (sort_any (k := k) hb4 hb6 hn (unhide HRL) (unhide HI) hF5o (fun j e => (hF5l j e).1) hF5s hs0 hsn (by omega) (by omega) (by rcases unhide HSF with r | r; exact .inl r; exact .inr (by omega)) hGI rfl (unhide HKK) hk2)
      have HBW5 := hide hbw5
      rw [hw5]
      clear hGI hsafe5 hSw5 hF5y hF5s hF5l hF5o hF5 hYw5 hOrd hQx hbw5 hbw2 hb25 hs2 hs4 z1 z3 hw5 hb5
      go_wp2_with (first
        | (go_at_call 21; refine (unhide HSO).mono ?_; rintro _ w6 ⟨c6, Y6, F6, rfl, hq6⟩; have HQ6 := hide hq6; have HLV := hide (leave_any c6 hq6.yw hq6.rl); clear hq6)
        | (go_at_call 20; refine (unhide HLV).mono ?_; rintro _ w7 ⟨Y7, rfl, hY7, ht7, ids7, hl7⟩; have HY7 := hide hY7; have HT7 := hide ht7; have HL7 := hide hl7; clear hY7 ht7 hl7))
      go_ret
      obtain ⟨F7, n7, m7, y7, k7⟩ := unhide HY7
      have q6 := unhide HQ6
      have l7 := unhide HL7
      have hbel7 : Below n0 w6 w7 := k7.below q6.lim (by have := q6.bel.size; have := (unhide HBW5).size; omega)
      have hb05 : Below n0 w w5 := (unhide HBW5).mono hw0
      have hlen6 := q6.yw.len
      have hrl6 := q6.rl
      obtain ⟨_, _, F70, _, _, _, hPy7, _⟩ := y7
      refine ⟨c6, Y7, F70, rfl, hPy7, (hb05.trans q6.bel).trans hbel7, .inr ⟨unhide HOK, unhide HT7, by rw [l7.len]; omega, by rw [l7.most]; exact q6.most, l7.rf.trans q6.rf, ?_⟩⟩
      rcases q6.is with ⟨r1, r2⟩ | ⟨r1, r2, r3⟩
      · exact .inl ⟨r1, l7.ok r2⟩
      · exact .inr ⟨r1, r2, l7.no r3⟩
    · have hkf : keysB ks = false := by simpa using hkb
      rw [hkf] at hC16
      have HC15 := hide hC15
      have HC16 := hide hC16
      have HP := hide hP
      have hok : okB ks bu = false := by unfold okB; rw [hkf]; rfl
      have HOK := hide hok
      clear hC15 hC16 hP hSt hI hK hk hrl hsafe hkl hkx hbu hkb hkf hok
      go_enter Tryz.func7, Tryz.ntmps7
      go_wp2_with (first
        | (go_at_call 15; refine (unhide HC15 _).mono ?_; rintro _ w9 ⟨rfl, hw9⟩; rw [hw9]; clear hw9)
        | (go_at_call 16; refine (unhide HC16).mono ?_; rintro _ w1 ⟨rfl, hb1⟩; have HB1 := hide hb1; clear hb1))
      go_ret
      exact ⟨1, _, _, rfl, (unhide HP).later (unhide HB1), (unhide HB1).mono hw0, .inl ⟨unhide HOK, rfl, rfl⟩⟩
  · have hbf : (decide (4 ≤ bu) && decide (bu ≤ 65536)) = false := by simpa using hbu
    rw [hbf] at hC15
    have HC15 := hide hC15
    have HP := hide hP
    have hok : okB ks bu = false := by unfold okB; rw [hbf]; simp
    have HOK := hide hok
    clear hC15 hC16 hP hSt hI hK hk hrl hsafe hkl hkx hbu hbf hok
    go_enter Tryz.func7, Tryz.ntmps7
    go_wp2_with (first
      | (go_at_call 15; refine (unhide HC15 _).mono ?_; rintro _ w9 ⟨rfl, hw9⟩; rw [hw9]; clear hw9))
    go_ret
    exact ⟨1, _, _, rfl, unhide HP, Below.refl _ _, .inl ⟨unhide HOK, rfl, rfl⟩⟩
end Go.Proofs.YtcbenpodohjbiaaGreat
set_option linter.unusedSimpArgs false
set_option linter.unusedVariables false
set_option maxRecDepth 100000
namespace Go.Proofs.YtcbenpodohjbiaaGreat
open Go.RowKit Go.Sort

theorem RowsT.take {w : World} {a : Option Addr} {rs : List (List Val)} (h : RowsT w a rs) (k : Nat) : RowsT w a (rs.take k) := by
  rcases h with h | ⟨b, off, e, h⟩
  · exact .inl (by rw [h]; simp)
  · exact .inr ⟨b, off, e, fun i r hr => h i r (by
      rw [List.getElem?_take] at hr
      split at hr
      · exact hr
      · cases hr)⟩
theorem slice_to22 (a : Option Addr) (n c k : Nat) (W : World) (hk : k ≤ c) (ha : a = none ∧ c = 0 ∨ ∃ g, a = some ⟨g, 0, none⟩) : (Instr.slice 22 (.slice a n c) none (some (.int .i64 (k : Int))) none).run Tryz.prog W = .ok (.slice a k c) W := by
  obtain ⟨i, hi, _, hz, _⟩ := info_parts info52
  have h1 : ¬ (c : Int) < (k : Int) := by omega
  have h2 : (k : Int) ≤ (c : Int) := by omega
  rcases ha with ⟨rfl, rfl⟩ | ⟨g, rfl⟩
  · have : k = 0 := by omega
    subst this
    simp [Instr.slice, run_underlying Tryz.underlying22, Instr.sliceBounds, Instr.sliceBound, asIntOf, sizeOf, typeInfo, hi, hz]
  · simp [Instr.slice, run_underlying Tryz.underlying22, Instr.sliceBounds, Instr.sliceBound, asIntOf, sizeOf, typeInfo, hi, hz, h1, h2, Addr.add]
    try (intro h; omega)
theorem Lst.formN {w : World} {v : Value} {rs : List (List Val)} (h : Lst w v rs) : ∃ a c, v = .slice a rs.length c ∧ rs.length ≤ c ∧ (a = none ∧ c = 0 ∨ ∃ g, a = some ⟨g, 0, none⟩) := by
  obtain ⟨us, _, h2, _⟩ := h
  rcases h2.2 with ⟨rfl, h0⟩ | ⟨g, cap, cur, rfl, _, _, h3, _⟩
  · exact ⟨none, 0, by rw [h0], by omega, .inl ⟨rfl, rfl⟩⟩
  · exact ⟨_, _, rfl, h3, .inr ⟨g, rfl⟩⟩
theorem Lst.lens {w : World} {v : Value} {rs : List (List Val)} (h : Lst w v rs) : ∀ r ∈ rs, r.length ≤ 1048576 := fun r hr => by
  obtain ⟨i, hi⟩ := List.getElem?_of_mem hr
  obtain ⟨_, _, _, _, _, _, _, _, h3⟩ := h.get hi
  exact h3
set_option maxHeartbeats 4000000 in
/-- ended (10), where the arguments are wrong. -/
theorem ended_bad {F : Nat → Prop} {b : Nat} {Y : Yv} {w : World} (h : Py w b Y none F) (hc : Y.calls = 0) (v : Value) (bu pu re wy : Int) :
    Calls Tryz.prog 10 #[.pointer (some ⟨b, 0, none⟩), .int .i64 1, v, .int .i64 1, .int .i64 bu, .int .i64 pu, .int .i64 re, .int .i64 wy] w fun e w' => e = .returned (.bool true) ∧ Below w.heap.size w w' := by
  obtain ⟨_, vO, vR, vT, us, hB, hl⟩ := h
  have c4 := hB.c4
  rw [hc] at c4
  have HN := hide (fun (W : World) => num_any 1 W)
  clear hB hl hc
  go_enter Tryz.func10, Tryz.ntmps10
  go_wp2_with (first | (go_at_call 26; refine (unhide HN _).mono ?_; rintro _ w2 ⟨rfl, hb2⟩; have d4 := clater c4 hb2; have HB2 := hide hb2; clear hb2))
  go_ret
  exact ⟨rfl, unhide HB2⟩
set_option maxHeartbeats 4000000 in
/-- ended (10), where all came out. -/
theorem ended_ok {F : Nat → Prop} {b : Nat} {Y : Yv} {w : World} {v : Value} (h : Py w b Y none F) (hL : Lst w v Y.out) (hn : Y.out.length ≤ 1048576) (hrd : Y.rd = false) (ht : ∀ t ∈ Y.there, t = false) (htl : Y.there.length ≤ 1000000) (bu pu re wy : Int) (hm : Y.most ≤ bu) (hh : Y.held = 0) (hp : Y.puts ≤ pu) (hp0 : 0 ≤ pu) :
    Calls Tryz.prog 10 #[.pointer (some ⟨b, 0, none⟩), .int .i64 0, v, .int .i64 0, .int .i64 bu, .int .i64 pu, .int .i64 re, .int .i64 wy] w fun e w' => e = .returned (.bool true) ∧ Below w.heap.size w w' := by
  have HLe := hide (left_any h (by omega) ht)
  have HRf := hide (refused_any h)
  rw [hrd] at HRf
  obtain ⟨_, vO, vR, vT, us, hB, hl⟩ := h
  obtain ⟨aO, cO, eO⟩ := hl.o.form
  obtain ⟨aW, cW, eW⟩ := hL.form
  subst eO eW
  have c0 := hB.c0
  have c1 := hB.c1
  have c2 := hB.c2
  have c3 := hB.c3
  have c5 := hB.c5
  rw [hh] at c0
  have HSR := hide (sameRows_any aO aW cO cW Y.out w (by omega) (fun r hr => by have := hl.o.lens r hr; unfold maxLen; omega) hl.o.rows hL.rows)
  have i1 : ¬ Y.most > bu := by omega
  have i2 : ¬ pu < 0 := by omega
  clear hB hl hL hrd ht hh
  go_enter Tryz.func10, Tryz.ntmps10
  go_wp2_with (first
    | (go_at_call 27; refine (unhide HLe).mono ?_; rintro _ w9 ⟨rfl, hw9⟩; rw [hw9]; clear hw9)
    | (go_at_call 28; refine (unhide HRf).mono ?_; rintro _ w9 ⟨rfl, hw9⟩; rw [hw9]; clear hw9)
    | (go_at_call 29; refine (unhide HSR).mono ?_; rintro _ w2 ⟨rfl, hb2⟩; have d0 := clater c0 hb2; have d2 := clater c2 hb2; have HB2 := hide hb2; clear hb2))
  go_ret
  exact ⟨rfl, unhide HB2⟩
set_option maxHeartbeats 4000000 in
/-- ended (10), where a call was refused. -/
theorem ended_no {F : Nat → Prop} {b : Nat} {Y : Yv} {w : World} {v : Value} {W : List (List Val)} (h : Py w b Y none F) (hL : Lst w v W) (hn : Y.out.length ≤ W.length) (hpre : Y.out = W.take Y.out.length) (hWn : W.length ≤ 1048576) (hrd : Y.rd = true) (ht : ∀ t ∈ Y.there, t = false) (htl : Y.there.length ≤ 1000000) (bu pu wy : Int) (hm : Y.most ≤ bu) (hc : Y.calls = Y.rf) (hwy : -9223372036854775808 ≤ wy ∧ wy ≤ 9223372036854775807) :
    Calls Tryz.prog 10 #[.pointer (some ⟨b, 0, none⟩), .int .i64 (codeV wy), v, .int .i64 0, .int .i64 bu, .int .i64 pu, .int .i64 Y.rf, .int .i64 wy] w fun e w' => e = .returned (.bool true) ∧ Below w.heap.size w w' := by
  have HLe := hide (left_any h (by omega) ht)
  have HRf := hide (refused_any h)
  rw [hrd] at HRf
  obtain ⟨_, vO, vR, vT, us, hB, hl⟩ := h
  obtain ⟨aO, cO, eO⟩ := hl.o.form
  obtain ⟨aW, cW, eW, hcW, haW⟩ := hL.formN
  subst eO eW
  obtain ⟨M, hM⟩ : ∃ M, Y.out.length = M := ⟨_, rfl⟩
  obtain ⟨NW, hNW⟩ : ∃ NW, W.length = NW := ⟨_, rfl⟩
  have c1 := hB.c1
  have c3 := hB.c3
  have c4 := hB.c4
  have c5 := hB.c5
  rw [hc] at c4
  rw [hM] at c3 hn
  rw [hNW] at hn hcW hWn
  have HSR : Hid (∀ W', Below w.heap.size w W' → Calls Tryz.prog 29 #[.slice aO M cO, .slice aW M cW] W' fun e w' => e = .returned (.bool true) ∧ Below W'.heap.size W' w') := fun W' hb => by
    have hr2 := (hL.rows.take Y.out.length).later hb
    rw [← hpre] at hr2
    have := sameRows_any aO aW cO cW Y.out W' (by omega) (fun r hr => by have := hl.o.lens r hr; unfold maxLen; omega) (hl.o.rows.later hb) hr2
    rw [hM] at this
    exact this
  have HCo : Hid (∀ W' : World, Calls Tryz.prog 6 #[.int .i64 wy] W' fun e w' => e = .returned (.int .i64 (codeV wy)) ∧ Below W'.heap.size W' w') := fun W' => by
    refine (code_any wy W' hwy).mono ?_
    rintro _ w' ⟨rfl, rfl⟩
    exact ⟨rfl, Below.refl _ _⟩
  have hsl := fun W' => slice_to22 aW NW cW M W' (by omega) haW
  have i1 : ¬ Y.most > bu := by omega
  have i2 : (M : Int) ≤ (NW : Int) := by omega
  have i2n : M ≤ NW := by omega
  have i3 : (M : Int) ≤ (cW : Int) := by omega
  have i3n : M ≤ cW := by omega
  have k3 := cell_regrown c3
  have k4 := cell_regrown c4
  rw [hNW]
  clear hB hl hL hrd ht hpre hM hNW
  go_enter Tryz.func10, Tryz.ntmps10
  go_upto_region 6 with (first
    | (go_at_call 27; refine (unhide HLe).mono ?_; rintro _ w9 ⟨rfl, hw9⟩; rw [hw9]; clear hw9)
    | (go_at_call 28; refine (unhide HRf).mono ?_; rintro _ w9 ⟨rfl, hw9⟩; rw [hw9]; clear hw9))
  refine wp_region_quiet_below (by kernel_rfl) (by kernel_rfl) ?_
  repeat (go_big_quiet_step (first
    | (go_at_call 6; exact Calls.regrown_of (unhide HCo _))
    | (go_at_call 29; exact Calls.regrown_of (unhide HSR _ (below_regrown _ _ _)))))
  refine wpQuiet_nil ?_
  intro w' hw'
  have hB : Below w.heap.size w w' := by obtain ⟨p, rfl⟩ := hw'; exact below_regrown _ _ _
  clear hw' k3 k4
  go_wp2
  go_ret
  exact ⟨rfl, hB⟩
end Go.Proofs.YtcbenpodohjbiaaGreat
set_option linter.unusedSimpArgs false
set_option linter.unusedVariables false
set_option maxRecDepth 100000
namespace Go.Proofs.YtcbenpodohjbiaaGreat
open Go.RowKit Go.Sort

/-! slices.CompactFunc (94) of rows in order. -/
theorem slice_from22 (g n c k : Nat) (W : World) (hk : k ≤ n) (hn : n ≤ c) (hc : k < c) : (Instr.slice 22 (.slice (some ⟨g, 0, none⟩) n c) (some (.int .i64 (k : Int))) none none).run Tryz.prog W = .ok (.slice (some ⟨g, k, none⟩) (n - k) (c - k)) W := by
  obtain ⟨i, hi, _, hz, _⟩ := info_parts info52
  have h1 : ¬ (n : Int) < (k : Int) := by omega
  have h2 : (k : Int) ≤ (n : Int) := by omega
  have h3 : ¬ c = k := by omega
  have h4 : (n : Int) ≤ (c : Int) := by omega
  have h5 : ¬ (c : Int) < (n : Int) := by omega
  have h6 : ¬ c - k = 0 := by omega
  simp [Instr.slice, run_underlying Tryz.underlying22, Instr.sliceBounds, Instr.sliceBound, asIntOf, sizeOf, typeInfo, hi, hz, h1, h2, h3, h4, h5, h6, Addr.add]
  rw [if_pos hk]
  by_cases e : k = 0
  · subst e; simp
  · simp [e]
/-- clear(rows[k:]). -/
theorem clear_from {w : World} {g n c k : Nat} {rs : List (List Val)} (h : Lst w (.slice (some ⟨g, 0, none⟩) n c) rs) (hn : n = rs.length) (hk : k < n) :
    ∃ w', (∀ ty : TypeId, (Builtin.clear_ #[22] ty #[.slice (some ⟨g, k, none⟩) (n - k) (c - k)]).run Tryz.prog w = .ok (.tuple #[]) w') ∧ Lst w' (.slice (some ⟨g, 0, none⟩) k c) (rs.take k) ∧ Ky (fun j => j = g) w w' := by
  obtain ⟨us, hul, hown, hrw⟩ := h
  subst hn
  have tg : Tg 70 w g := own_tg hown rfl
  have hown' := hown
  rcases hown.2 with ⟨e, _⟩ | ⟨g', cap', cur, e, hb, hh, hnc, hcm, hcs, htake⟩
  · cases e
  injection e with e1 e2 e3
  injection e1 with e1
  injection e1 with e1
  subst e1 e3
  rw [Nat.mul_one] at hcs htake
  have hz : (Builtin.zeroCells #[Value.slice none 0 0] (rs.length - k)).size = rs.length - k := by simp [Builtin.zeroCells]
  have hzl : (Builtin.zeroCells #[Value.slice none 0 0] (rs.length - k)).toList.length = rs.length - k := by rw [Array.length_toList]; exact hz
  have hst := run_storeCells_at (P := Tryz.prog) g k 70 (Builtin.zeroCells #[.slice none 0 0] (rs.length - k)).toList 0 cur w hh (by rw [hzl, hcs]; omega) (by
    intro v hv
    simp only [Builtin.zeroCells, Array.toList_map, List.mem_map] at hv
    obtain ⟨q, _, rfl⟩ := hv
    have : q % 1 = 0 := Nat.mod_one q
    simp [this]; rfl)
  have hK : Ky (fun j => j = g) w (w.setRow g (cur.toList.take (k + 0) ++ (Builtin.zeroCells #[.slice none 0 0] (rs.length - k)).toList ++ cur.toList.drop (k + 0 + (Builtin.zeroCells #[.slice none 0 0] (rs.length - k)).toList.length)).toArray) := Ky.of_grown (r := some g) ⟨rfl, rfl, rfl, by simp, fun k hk hne => setRow_other w g k _ (fun e => hne (by rw [e]))⟩ (fun q e => by injection e with e; exact e.symm) (fun q t e hc k => by injection e with e; subst e; exact tg.ne k (by rintro rfl; revert hc; decide) rfl)
  have hlt : (rs.take k).length = k := by rw [List.length_take]; omega
  refine ⟨_, ?_, ⟨us.take k, by rw [List.length_take, List.length_take, hul], ?_, fun i u r hu hr => ?_⟩, hK⟩
  · intro ty
    obtain ⟨q, hq⟩ : ∃ q, rs.length - k = q + 1 := ⟨rs.length - k - 1, by omega⟩
    rw [hq] at hst ⊢
    have hv : ∀ w, (zeroValue 70).run Tryz.prog w = .ok (.slice none 0 0) w := fun w => by kernel_rfl
    simp only [Nat.add_zero] at hst
    simp [Builtin.clear_, run_underlying Tryz.underlying22, hv, hst, Value.cells]
  · rw [hlt]
    refine ⟨by rw [List.length_take]; omega, .inr ⟨g, c, _, rfl, Nat.zero_le _, setRow_heap w g cur _ 70 _ hh, by omega, hcm, ?_, ?_⟩⟩
    · simp only [List.size_toArray, List.length_append, List.length_take, List.length_drop, Array.length_toList, hcs, hz]
      omega
    · rw [Nat.mul_one, Nat.add_zero, List.append_assoc, List.take_append_of_le_length (by rw [List.length_take, Array.length_toList, hcs]; omega), List.take_take, Nat.min_self]
      rw [← htake, List.take_take, Nat.min_eq_left (by omega)]
  · rw [List.getElem?_take] at hu hr
    split at hu
    · rename_i hi
      rw [if_pos hi] at hr
      exact (hrw i u r hu hr).ky hK
    · cases hu
/-- What has been looked at: k rows stay. -/
structure Cmp1 (rs cs : List (List Val)) (k i : Nat) : Prop where
  len : cs.length = rs.length
  ki : k + 1 ≤ i
  il : i ≤ rs.length
  pre : cs.take k = onceT rs i
  rest : ∀ j, i ≤ j + 1 → cs[j]? = rs[j]?
theorem Cmp1.start {rs : List (List Val)} {k : Nat} (hk : 0 < k) (hl : k < rs.length) (hp : onceT rs k = rs.take k) (he : rowsV (rs.getD k []) (rs.getD (k - 1) []) = 0) : Cmp1 rs rs k (k + 1) :=
  ⟨rfl, Nat.le_refl _, hl, by rw [onceT, if_neg (by rintro (q | q); omega; exact q he), List.append_nil, hp], fun _ _ => rfl⟩
theorem Cmp1.same {rs cs : List (List Val)} {k i : Nat} (h : Cmp1 rs cs k i) (hl : i < rs.length) (he : rowsV (rs.getD i []) (rs.getD (i - 1) []) = 0) : Cmp1 rs cs k (i + 1) :=
  ⟨h.len, by have := h.ki; omega, hl, by rw [onceT, if_neg (by rintro (q | q); have := h.ki; omega; exact q he), List.append_nil]; exact h.pre, fun j hj => h.rest j (by omega)⟩
theorem Cmp1.keep {rs cs : List (List Val)} {k i : Nat} (h : Cmp1 rs cs k i) (hl : i < rs.length) (he : rowsV (rs.getD i []) (rs.getD (i - 1) []) ≠ 0) : Cmp1 rs (cs.set k (rs.getD i [])) (k + 1) (i + 1) := by
  have hki := h.ki
  have hlen := h.len
  refine ⟨by rw [List.length_set]; exact h.len, by omega, hl, ?_, fun j hj => ?_⟩
  · rw [onceT, if_pos (.inr he), ← h.pre, List.take_add_one, List.take_set_of_le (Nat.le_refl _), List.getElem?_set, if_pos rfl, if_pos (by omega)]
    rfl
  · rw [List.getElem?_set, if_neg (by omega)]
    exact h.rest j (by omega)
theorem Cmp1.at {rs cs : List (List Val)} {k i j : Nat} (h : Cmp1 rs cs k i) (hj : i ≤ j + 1) (hl : j < rs.length) : cs[j]? = some (rs.getD j []) := by
  rw [h.rest j hj, List.getD_eq_getElem?_getD, List.getElem?_eq_getElem hl]; rfl
/-- The closure (95): are two rows the same. -/
def EqF (w : World) (C q B : Nat) : Prop := w.cell? ⟨C, 0, none⟩ = some (.pointer (some ⟨q, 0, none⟩)) ∧ w.cell? ⟨q, 1, none⟩ = some (.func (.func 32) #[] #[.pointer (some ⟨B, 0, none⟩)]) ∧ OrdF w B []
theorem EqF.ky {G : Nat → Prop} {w w' : World} {C q B : Nat} (h : EqF w C q B) (hk : Ky G w w') (h1 : ¬ G C) (h2 : ¬ G q) : EqF w' C q B := ⟨hk.cell h.1 h1, hk.cell h.2.1 h2, h.2.2.ky hk⟩
theorem EqF.later {w w' : World} {C q B : Nat} (h : EqF w C q B) (hb : Below w.heap.size w w') : EqF w' C q B := h.ky (G := fun _ => False) (Ky.of_below hb) id id
theorem EqF.cmp {w : World} {C q B : Nat} {u v : Value} {x y : List Val} (h : EqF w C q B) (hu : Rw w u x) (hv : Rw w v y) : Calls Tryz.prog 95 #[u, v, .pointer (some ⟨C, 0, none⟩)] w fun e w' => e = .returned (.bool (rowsV x y == 0)) ∧ Below w.heap.size w w' := by
  obtain ⟨h1, h2, h3⟩ := h
  have HC := hide (h3.cmp hu hv)
  obtain ⟨a1, k1, rfl, _⟩ := hu
  obtain ⟨a2, k2, rfl, _⟩ := hv
  clear h3
  go_enter Tryz.func95, Tryz.ntmps95
  go_wp2_with (go_at_call 32; refine (unhide HC).mono ?_; rintro _ w1 ⟨rfl, hb⟩)
  go_ret
  exact ⟨by rw [ordG_nil]; rfl, hb.1⟩
end Go.Proofs.YtcbenpodohjbiaaGreat

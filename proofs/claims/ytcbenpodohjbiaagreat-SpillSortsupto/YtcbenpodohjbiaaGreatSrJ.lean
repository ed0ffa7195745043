import Derived.Test.YtcbenpodohjbiaaGreatSqZ
import Derived.Test.YtcbenpodohjbiaaGreatSqY
import Derived.Test.YtcbenpodohjbiaaGreatSqN
import Derived.Test.YtcbenpodohjbiaaGreatSrF
import Derived.Test.YtcbenpodohjbiaaGreatRows
import Derived.ProofKit
import Derived.OpenShut
import Derived.Lib.SmallJoins
import Derived.ChangeOld
import Derived.Deep.Slices
import Derived.Deep.Strs
import Derived.JoinedCond
import Derived.SizedLaws
set_option linter.unusedSimpArgs false
set_option linter.unusedVariables false
set_option maxRecDepth 100000
namespace Go.Proofs.YtcbenpodohjbiaaGreat
open Go.RowKit Go.Sort

set_option maxHeartbeats 2000000 in
/-- slices.Clone (19) of keys. -/
theorem kclone_any (ks : List (Int × Bool)) (a : Option Addr) (c : Nat) (w : World) (hl : ks.length ≤ 1048576) (ha : KeysAt w a ks) :
    Calls Tryz.prog 19 #[.slice a ks.length c] w fun e w' => ∃ v, e = .returned v ∧ OwnK w' w.heap.size v ks ∧ Below w.heap.size w w' := by
  have q : ∀ W : World, (binOp .eql 23 (.slice a ks.length c) (.slice none 0 0)).run Tryz.prog W = .ok (.bool a.isNone) W := fun W => Lib.run_eql_slice_nil W _ _ a _ c 0 0 Tryz.underlying23
  cases a with
  | none =>
    have hx : ks = [] := by
      rcases ha with h | ⟨b, off, e, _⟩
      · exact h
      · cases e
    subst hx
    simp only [Option.isNone_none, List.length_nil] at q ⊢
    clear ha hl
    go_enter Tryz.func19, Tryz.ntmps19
    go_wp2
    go_ret
    exact ⟨_, rfl, World.ownsRow_nil _ _ _ _, Below.refl _ _⟩
  | some ad =>
    have HB := hide (below_alloc (Below.refl _ w) (.cells #[] 58))
    have HX := hide (ha.later (unhide HB))
    simp only [Option.isNone_some] at q
    clear ha
    go_enter Tryz.func19, Tryz.ntmps19
    go_wp2_with (at_builtin; refine wpList_push_keys _ rfl (.tmp 5) (.tmp 6) rfl w.heap.size _ [] ks ad c rfl (ownK_empty w w.heap.size (Nat.le_refl _)) rfl (unhide HX) (by simp; omega) (unhide HB).size ?_; intro v4 w4 hO4 hB4; rw [List.nil_append] at hO4)
    go_ret
    exact ⟨v4, rfl, hO4, (unhide HB).trans hB4⟩
end Go.Proofs.YtcbenpodohjbiaaGreat
set_option linter.unusedSimpArgs false
set_option linter.unusedVariables false
set_option maxRecDepth 100000
namespace Go.Proofs.YtcbenpodohjbiaaGreat
open Go.RowKit Go.Sort

/-- What Sort answers. -/
def STopP (n0 : Nat) (w : World) (b : Nat) (ks : List (Int × Bool)) (bu : Int) (k : Nat) (rs : List (List Val)) (Y0 : Yv) (e : Ending) (w' : World) : Prop :=
  ∃ (c : Int) (Y' : Yv) (F' : Nat → Prop), e = .returned (.int .i64 c) ∧ Py w' b Y' none F' ∧ Below n0 w w' ∧
    ((okB ks bu = false ∧ c = 1 ∧ Y' = Y0) ∨ (okB ks bu = true ∧ (∀ t ∈ Y'.there, t = false) ∧ Y'.there.length ≤ 1000000 ∧ Y'.most ≤ bu ∧ Y'.rf = Y0.rf ∧ ((c = 0 ∧ SrtOk ks k rs Y0 Y') ∨ (c = Y0.cd ∧ Y0.cd ≠ 0 ∧ SrtNo ks rs Y0 Y'))))
theorem Gth.start (rs : List (List Val)) (ks : List (Int × Bool)) (BU : Nat) (rf cd : Int) (hb : 4 ≤ BU) : Gth rs 0 [] ks BU (Yv.new rf cd) (Yv.new rf cd) [] :=
  ⟨rfl, rfl, rfl, rfl, rfl, by show (0 : Int) ≤ _; omega, Int.le_refl _, by simp; omega, fun r hr => by simp [Yv.new] at hr, rfl, rfl, by simp [Yv.new], rfl⟩
theorem Lvd.ok {ks : List (Int × Bool)} {k : Nat} {rs : List (List Val)} {Y0 Y Y' : Yv} {ids : List Nat} (h : Lvd ids Y Y') (hs : SrtOk ks k rs Y0 Y) : SrtOk ks k rs Y0 Y' := by
  refine ⟨h.rd.trans hs.rd, h.held.trans hs.held, ?_, by rw [h.puts]; exact hs.puts⟩
  rw [h.out]; exact hs.out
theorem Lvd.no {ks : List (Int × Bool)} {rs : List (List Val)} {Y0 Y Y' : Yv} {ids : List Nat} (h : Lvd ids Y Y') (hs : SrtNo ks rs Y0 Y) : SrtNo ks rs Y0 Y' := by
  refine ⟨h.rd.trans hs.rd, by rw [h.calls, h.rf]; exact hs.calls, ?_⟩
  rw [h.out]; exact hs.out

set_option maxHeartbeats 8000000 in
/-- Sort (7). -/
theorem Sort_any {w0 : Bs} {n0 : Nat} {w : World} {b s : Nat} {ks : List (Int × Bool)} {bu : Int} {k : Nat} {aR aK : Option Addr} {cR cK : Nat} {rs : List (List Val)} {rf cd : Int} (hP : Py w b (Yv.new rf cd) none (fun j => j = b)) (hSt : Stm w0 w s b aR cR rs 0) (hI : w0.Rows aR rs) (hb0 : w0.No b) (hbn : n0 ≤ b) (hs0 : w0.No s) (hsn : n0 ≤ s) (hw0 : n0 ≤ w.heap.size) (hn : rs.length ≤ 1048571) (hrl : ∀ r ∈ rs, r.length ≤ 1048576) (hK : KeysAt w aK ks) (hkl : ks.length ≤ 1048576) (hkx : ∀ x ∈ ks.map Prod.fst, In64 x)
    (hsafe : cd ≠ 0 ∨ (rf = 0 ∧ rs.length < 4)) (hk : okB ks bu = true → rs.length ≤ (bu.toNat - 1) ^ (k + 1)) (hk2 : k ≤ 20) :
    Calls Tryz.prog 7 #[.iface 66 (.pointer (some ⟨s, 0, none⟩)), .slice aK ks.length cK, .int .i64 bu, .iface 24 (.pointer (some ⟨b, 0, none⟩)), .iface 24 (.pointer (some ⟨b, 0, none⟩))] w fun e w' => STopP n0 w b ks bu k rs (Yv.new rf cd) e w' := by
  have hq1 : ∀ W : World, (binOp .eql 30 (.iface 66 (.pointer (some ⟨s, 0, none⟩))) .nilIface).run Tryz.prog W = .ok (.bool false) W := fun _ => by kernel_rfl
  have hC15 := fun W => work_any bu (some ⟨b, 0, none⟩) W
  have hC16 := areKeys_any ks aK cK w hkl hkx hK
  by_cases hbu : (decide (4 ≤ bu) && decide (bu ≤ 65536)) = true
  · rw [hbu] at hC15
    by_cases hkb : keysB ks = true
    · rw [hkb] at hC16
      have hok : okB ks bu = true := by unfold okB; rw [hkb, hbu]; rfl
      have hkk := hk hok
      obtain ⟨BU, rfl⟩ : ∃ BU : Nat, bu = (BU : Int) := ⟨bu.toNat, by simp at hbu; omega⟩
      rw [Int.toNat_natCast] at hkk
      have hb4 : 4 ≤ BU := by simp at hbu; omega
      have hb6 : BU ≤ 65536 := by simp at hbu; omega
      have hbl : b < w.heap.size := by obtain ⟨_, _, _, _, _, hB, _⟩ := hP; exact hB.tg.lt
      have hsl : s < w.heap.size := hSt.tg.lt
      have hsb : s ≠ b := fun e => by subst e; obtain ⟨_, _, _, _, _, hB, _⟩ := hP; exact hSt.tg.ne hB.tg (by decide) rfl
      have HC15 := hide hC15
      have HC16 := hide hC16
      have HP := hide hP
      have HST := hide hSt
      have HI := hide hI
      have HK := hide hK
      have HOK := hide hok
      have HKK := hide hkk
      have HRL := hide hrl
      have HSF := hide hsafe
      have HNN := hide (keysB_nn hkb)
      have HKL := hide hkl
      have hC17 := fun W => yardOf_any b W
      have hC18 := fun a n c W => inOrder_any a n c W
      have HC17 := hide hC17
      have HC18 := hide hC18
      have HC19 : Hid (∀ W, Below w.heap.size w W → Calls Tryz.prog 19 #[.slice aK ks.length cK] W fun e w' => ∃ v, e = .returned v ∧ OwnK w' W.heap.size v ks ∧ Below W.heap.size W w') := fun W hW => kclone_any ks aK cK W hkl (hK.later hW)
      clear hC15 hC16 hC17 hC18 hP hSt hI hK hok hkk hk hrl hsafe hkl hkx hbu hkb
      go_enter Tryz.func7, Tryz.ntmps7
      go_upto_region 5 with (first
        | (go_at_call 15; refine (unhide HC15 _).mono ?_; rintro _ w9 ⟨rfl, hw9⟩; rw [hw9]; clear hw9)
        | (go_at_call 16; refine (unhide HC16).mono ?_; rintro _ w1 ⟨rfl, hb1⟩; have HB1 := hide hb1; clear hb1)
        | (go_at_call 17; refine (unhide HC17 _).mono ?_; rintro _ w2 ⟨rfl, hy2, hb2, hs2⟩; have HY2 := hide hy2; have HB2 := hide hb2; have HS2 := hide hs2; have HC19' := hide (unhide HC19 w2 (below_step (unhide HB1) hb2)); clear hy2 hb2 hs2)
        | (go_at_call 19; refine (unhide HC19').mono ?_; rintro _ w3 ⟨v3, rfl, hO3, hb3⟩; obtain ⟨a3, c3, e3, hk3, ht3⟩ := OwnK.keys hO3; subst e3; have HK3 := hide hk3; have HT3 := hide ht3; have HB3 := hide hb3; clear hk3 ht3 hb3 hO3)
        | (go_at_call 18; refine (unhide HC18 _ _ _ _).mono ?_; rintro _ w4 ⟨rfl, hc4, ht4, hb4', hs4⟩; have HC4 := hide hc4; have HT4 := hide ht4; have HB4 := hide hb4'; have HS4 := hide hs4; clear hc4 ht4 hb4' hs4))
      obtain ⟨w5, hw5⟩ : ∃ w5, w4.alloc (.cells #[.pointer (some ⟨w1.heap.size + 1, 0, none⟩), .func (.func 32) #[] #[.pointer (some ⟨w3.heap.size, 0, none⟩)], .bool false, .int .i64 (BU : Int), .slice none 0 0] 61) = w5 := ⟨_, rfl⟩
      have hb5 : Below w4.heap.size w4 w5 := by rw [← hw5]; exact below_alloc (Below.refl _ _) _
      have hs5 : w5.heap.size = w4.heap.size + 1 := by rw [← hw5]; simp
      have hs2 := unhide HS2
      have hs4 := unhide HS4
      have z1 := (unhide HB1).size
      have z3 := (unhide HB3).size
      have hb25 : Below w2.heap.size w2 w5 := below_step (below_step (unhide HB3) (unhide HB4)) hb5
      have hbw2 : Below w.heap.size w w2 := below_step (unhide HB1) (unhide HB2)
      have hbw5 : Below w.heap.size w w5 := below_step hbw2 hb25
      have hQx : Qx w5 w4.heap.size (w1.heap.size + 1) w3.heap.size (BU : Int) (.slice none 0 0) := by
        rw [← hw5]
        refine ⟨⟨_, _, heap_alloc_new _ _⟩, fun i => by simp [go_sem], ?_, ?_, ?_, ?_, ?_⟩ <;> simp [go_sem]
      have hOrd : OrdF w5 w3.heap.size ks := by
        have k45 : Ky (fun _ => False) w4 w5 := Ky.of_below hb5
        have k34 : Ky (fun _ => False) w3 w4 := Ky.of_below (unhide HB4)
        refine ⟨a3, c3, k45.cell (unhide HC4) id, k45.tg (unhide HT4) id, ((unhide HK3).later (unhide HB4)).later hb5, fun b' off e hne => k45.tg (k34.tg (unhide HT3 b' off e hne) id) id, unhide HNN, unhide HKL⟩
      have hYw5 : Yw w5 b (w1.heap.size + 1) w1.heap.size (Yv.new rf cd) none (fun j => j = b ∨ j = w1.heap.size) := by
        refine ⟨?_, .inr rfl, fun j => j = b, [], fun j e => .inl e, by omega, (unhide HP).later hbw5, (unhide HY2).ky (G := fun _ => False) (Ky.of_below hb25) id id, List.nodup_nil, fun i => by simp [Yv.new]⟩
        rintro (e | e) <;> omega
      obtain ⟨F5, hF5⟩ : ∃ F5 : Nat → Prop, F5 = fun j => (j = b ∨ j = w1.heap.size) ∨ j = w4.heap.size := ⟨_, rfl⟩
      have hF5l : ∀ j, F5 j → n0 ≤ j ∧ j < w5.heap.size := by
        rw [hF5]
        rintro j ((e | e) | e) <;> omega
      have hF5o : ∀ j, F5 j → w0.No j := by
        rw [hF5]
        rintro j ((e | e) | e)
        · subst e; exact hb0
        · exact Bs.new (unhide HST).bl (by omega)
        · exact Bs.new (unhide HST).bl (by omega)
      have hF5s : ¬ F5 s := by
        rw [hF5]
        rintro ((e | e) | e)
        · exact hsb e
        · omega
        · omega
      have hF5y : ¬ F5 (w1.heap.size + 1) := by
        rw [hF5]
        rintro ((e | e) | e) <;> omega
      have hSw5 : Sw w5 b (w1.heap.size + 1) w1.heap.size w4.heap.size w3.heap.size ks (BU : Int) (Yv.new rf cd) none [] F5 := by
        refine ⟨hF5y, by rw [hF5]; exact .inr rfl, fun j => j = b ∨ j = w1.heap.size, .slice none 0 0, fun j e => by rw [hF5]; exact .inl e, by rintro (e | e) <;> omega, fun g e => (by cases e), hYw5, hQx, World.ownsRow_nil _ _ _ _, hOrd⟩
      have hsafe5 : Safe (Yv.new rf cd) (rs.length - 0 + 1 + rs.length) := by
        rcases unhide HSF with r | r
        · exact .inl r
        · exact .inr ⟨r.1, Int.le_refl _, by show (0 : Int) + _ < _; omega⟩
      have hGI : GI w0 w5 w5 b (w1.heap.size + 1) w1.heap.size w4.heap.size w3.heap.size s ks BU aR cR rs (Yv.new rf cd) F5 0 (.slice none 0 0) [] (Yv.new rf cd) [] F5 :=
        ⟨Nat.zero_le _, Nw.refl _ _, fun _ e => e, hSw5, Ky.refl _ _, Lst.nil _, fun g e => (by cases e), (unhide HST).later hbw5, Gth.start rs ks BU rf cd hb4, hsafe5, fun j e => (hF5l j e).2⟩
      have HSO := hide (sort_any (k := k) hb4 hb6 hn (unhide HRL) (unhide HI) hF5o (fun j e => (hF5l j e).1) hF5s hs0 hsn (by omega) (by omega) (by rcases unhide HSF with r | r; exact .inl r; exact .inr (by omega)) hGI rfl (unhide HKK) hk2)
      have HBW5 := hide hbw5
      rw [hw5]
      clear hGI hsafe5 hSw5 hF5y hF5s hF5l hF5o hF5 hYw5 hOrd hQx hbw5 hbw2 hb25 hs2 hs4 z1 z3 hw5 hb5
      go_wp2_with (first
        | (go_at_call 21; refine (unhide HSO).mono ?_; rintro _ w6 ⟨c6, Y6, F6, rfl, hq6⟩; have HQ6 := hide hq6; have HLV := hide (leave_any c6 hq6.yw hq6.rl); clear hq6)
        | (go_at_call 20; refine (unhide HLV).mono ?_; rintro _ w7 ⟨Y7, rfl, hY7, ht7, ids7, hl7⟩; have HY7 := hide hY7; have HT7 := hide ht7; have HL7 := hide hl7; clear hY7 ht7 hl7))
      go_ret
      obtain ⟨F7, n7, m7, y7, k7⟩ := unhide HY7
      have q6 := unhide HQ6
      have l7 := unhide HL7
      have hbel7 : Below n0 w6 w7 := k7.below q6.lim (by have := q6.bel.size; have := (unhide HBW5).size; omega)
      have hb05 : Below n0 w w5 := (unhide HBW5).mono hw0
      have hlen6 := q6.yw.len
      have hrl6 := q6.rl
      obtain ⟨_, _, F70, _, _, _, hPy7, _⟩ := y7
      refine ⟨c6, Y7, F70, rfl, hPy7, (hb05.trans q6.bel).trans hbel7, .inr ⟨unhide HOK, unhide HT7, by rw [l7.len]; omega, by rw [l7.most]; exact q6.most, l7.rf.trans q6.rf, ?_⟩⟩
      rcases q6.is with ⟨r1, r2⟩ | ⟨r1, r2, r3⟩
      · exact .inl ⟨r1, l7.ok r2⟩
      · exact .inr ⟨r1, r2, l7.no r3⟩
    · have hkf : keysB ks = false := by simpa using hkb
      rw [hkf] at hC16
      have HC15 := hide hC15
      have HC16 := hide hC16
      have HP := hide hP
      have hok : okB ks bu = false := by unfold okB; rw [hkf]; rfl
      have HOK := hide hok
      clear hC15 hC16 hP hSt hI hK hk hrl hsafe hkl hkx hbu hkb hkf hok
      go_enter Tryz.func7, Tryz.ntmps7
      go_wp2_with (first
        | (go_at_call 15; refine (unhide HC15 _).mono ?_; rintro _ w9 ⟨rfl, hw9⟩; rw [hw9]; clear hw9)
        | (go_at_call 16; refine (unhide HC16).mono ?_; rintro _ w1 ⟨rfl, hb1⟩; have HB1 := hide hb1; clear hb1))
      go_ret
      exact ⟨1, _, _, rfl, (unhide HP).later (unhide HB1), (unhide HB1).mono hw0, .inl ⟨unhide HOK, rfl, rfl⟩⟩
  · have hbf : (decide (4 ≤ bu) && decide (bu ≤ 65536)) = false := by simpa using hbu
    rw [hbf] at hC15
    have HC15 := hide hC15
    have HP := hide hP
    have hok : okB ks bu = false := by unfold okB; rw [hbf]; simp
    have HOK := hide hok
    clear hC15 hC16 hP hSt hI hK hk hrl hsafe hkl hkx hbu hbf hok
    go_enter Tryz.func7, Tryz.ntmps7
    go_wp2_with (first
      | (go_at_call 15; refine (unhide HC15 _).mono ?_; rintro _ w9 ⟨rfl, hw9⟩; rw [hw9]; clear hw9))
    go_ret
    exact ⟨1, _, _, rfl, unhide HP, Below.refl _ _, .inl ⟨unhide HOK, rfl, rfl⟩⟩
end Go.Proofs.YtcbenpodohjbiaaGreat
set_option linter.unusedSimpArgs false
set_option linter.unusedVariables false
set_option maxRecDepth 100000
namespace Go.Proofs.YtcbenpodohjbiaaGreat
open Go.RowKit Go.Sort

theorem RowsT.take {w : World} {a : Option Addr} {rs : List (List Val)} (h : RowsT w a rs) (k : Nat) : RowsT w a (rs.take k) := by
  rcases h with h | ⟨b, off, e, h⟩
  · exact .inl (by rw [h]; simp)
  · exact .inr ⟨b, off, e, fun i r hr => h i r (by
      rw [List.getElem?_take] at hr
      split at hr
      · exact hr
      · cases hr)⟩
theorem slice_to22 (a : Option Addr) (n c k : Nat) (W : World) (hk : k ≤ c) (ha : a = none ∧ c = 0 ∨ ∃ g, a = some ⟨g, 0, none⟩) : (Instr.slice 22 (.slice a n c) none (some (.int .i64 (k : Int))) none).run Tryz.prog W = .ok (.slice a k c) W := by
  obtain ⟨i, hi, _, hz, _⟩ := info_parts info52
  have h1 : ¬ (c : Int) < (k : Int) := by omega
  have h2 : (k : Int) ≤ (c : Int) := by omega
  rcases ha with ⟨rfl, rfl⟩ | ⟨g, rfl⟩
  · have : k = 0 := by omega
    subst this
    simp [Instr.slice, run_underlying Tryz.underlying22, Instr.sliceBounds, Instr.sliceBound, asIntOf, sizeOf, typeInfo, hi, hz]
  · simp [Instr.slice, run_underlying Tryz.underlying22, Instr.sliceBounds, Instr.sliceBound, asIntOf, sizeOf, typeInfo, hi, hz, h1, h2, Addr.add]
    try (intro h; omega)
theorem Lst.formN {w : World} {v : Value} {rs : List (List Val)} (h : Lst w v rs) : ∃ a c, v = .slice a rs.length c ∧ rs.length ≤ c ∧ (a = none ∧ c = 0 ∨ ∃ g, a = some ⟨g, 0, none⟩) := by
  obtain ⟨us, _, h2, _⟩ := h
  rcases h2.2 with ⟨rfl, h0⟩ | ⟨g, cap, cur, rfl, _, _, h3, _⟩
  · exact ⟨none, 0, by rw [h0], by omega, .inl ⟨rfl, rfl⟩⟩
  · exact ⟨_, _, rfl, h3, .inr ⟨g, rfl⟩⟩
theorem Lst.lens {w : World} {v : Value} {rs : List (List Val)} (h : Lst w v rs) : ∀ r ∈ rs, r.length ≤ 1048576 := fun r hr => by
  obtain ⟨i, hi⟩ := List.getElem?_of_mem hr
  obtain ⟨_, _, _, _, _, _, _, _, h3⟩ := h.get hi
  exact h3
set_option maxHeartbeats 4000000 in
/-- ended (10), where the arguments are wrong. -/
theorem ended_bad {F : Nat → Prop} {b : Nat} {Y : Yv} {w : World} (h : Py w b Y none F) (hc : Y.calls = 0) (v : Value) (bu pu re wy : Int) :
    Calls Tryz.prog 10 #[.pointer (some ⟨b, 0, none⟩), .int .i64 1, v, .int .i64 1, .int .i64 bu, .int .i64 pu, .int .i64 re, .int .i64 wy] w fun e w' => e = .returned (.bool true) ∧ Below w.heap.size w w' := by
  obtain ⟨_, vO, vR, vT, us, hB, hl⟩ := h
  have c4 := hB.c4
  rw [hc] at c4
  have HN := hide (fun (W : World) => num_any 1 W)
  clear hB hl hc
  go_enter Tryz.func10, Tryz.ntmps10
  go_wp2_with (first | (go_at_call 26; refine (unhide HN _).mono ?_; rintro _ w2 ⟨rfl, hb2⟩; have d4 := clater c4 hb2; have HB2 := hide hb2; clear hb2))
  go_ret
  exact ⟨rfl, unhide HB2⟩
set_option maxHeartbeats 4000000 in
/-- ended (10), where all came out. -/
theorem ended_ok {F : Nat → Prop} {b : Nat} {Y : Yv} {w : World} {v : Value} (h : Py w b Y none F) (hL : Lst w v Y.out) (hn : Y.out.length ≤ 1048576) (hrd : Y.rd = false) (ht : ∀ t ∈ Y.there, t = false) (htl : Y.there.length ≤ 1000000) (bu pu re wy : Int) (hm : Y.most ≤ bu) (hh : Y.held = 0) (hp : Y.puts ≤ pu) (hp0 : 0 ≤ pu) :
    Calls Tryz.prog 10 #[.pointer (some ⟨b, 0, none⟩), .int .i64 0, v, .int .i64 0, .int .i64 bu, .int .i64 pu, .int .i64 re, .int .i64 wy] w fun e w' => e = .returned (.bool true) ∧ Below w.heap.size w w' := by
  have HLe := hide (left_any h (by omega) ht)
  have HRf := hide (refused_any h)
  rw [hrd] at HRf
  obtain ⟨_, vO, vR, vT, us, hB, hl⟩ := h
  obtain ⟨aO, cO, eO⟩ := hl.o.form
  obtain ⟨aW, cW, eW⟩ := hL.form
  subst eO eW
  have c0 := hB.c0
  have c1 := hB.c1
  have c2 := hB.c2
  have c3 := hB.c3
  have c5 := hB.c5
  rw [hh] at c0
  have HSR := hide (sameRows_any aO aW cO cW Y.out w (by omega) (fun r hr => by have := hl.o.lens r hr; unfold maxLen; omega) hl.o.rows hL.rows)
  have i1 : ¬ Y.most > bu := by omega
  have i2 : ¬ pu < 0 := by omega
  clear hB hl hL hrd ht hh
  go_enter Tryz.func10, Tryz.ntmps10
  go_wp2_with (first
    | (go_at_call 27; refine (unhide HLe).mono ?_; rintro _ w9 ⟨rfl, hw9⟩; rw [hw9]; clear hw9)
    | (go_at_call 28; refine (unhide HRf).mono ?_; rintro _ w9 ⟨rfl, hw9⟩; rw [hw9]; clear hw9)
    | (go_at_call 29; refine (unhide HSR).mono ?_; rintro _ w2 ⟨rfl, hb2⟩; have d0 := clater c0 hb2; have d2 := clater c2 hb2; have HB2 := hide hb2; clear hb2))
  go_ret
  exact ⟨rfl, unhide HB2⟩
set_option maxHeartbeats 4000000 in
/-- ended (10), where a call was refused. -/
theorem ended_no {F : Nat → Prop} {b : Nat} {Y : Yv} {w : World} {v : Value} {W : List (List Val)} (h : Py w b Y none F) (hL : Lst w v W) (hn : Y.out.length ≤ W.length) (hpre : Y.out = W.take Y.out.length) (hWn : W.length ≤ 1048576) (hrd : Y.rd = true) (ht : ∀ t ∈ Y.there, t = false) (htl : Y.there.length ≤ 1000000) (bu pu wy : Int) (hm : Y.most ≤ bu) (hc : Y.calls = Y.rf) (hwy : -9223372036854775808 ≤ wy ∧ wy ≤ 9223372036854775807) :
    Calls Tryz.prog 10 #[.pointer (some ⟨b, 0, none⟩), .int .i64 (codeV wy), v, .int .i64 0, .int .i64 bu, .int .i64 pu, .int .i64 Y.rf, .int .i64 wy] w fun e w' => e = .returned (.bool true) ∧ Below w.heap.size w w' := by
  have HLe := hide (left_any h (by omega) ht)
  have HRf := hide (refused_any h)
  rw [hrd] at HRf
  obtain ⟨_, vO, vR, vT, us, hB, hl⟩ := h
  obtain ⟨aO, cO, eO⟩ := hl.o.form
  obtain ⟨aW, cW, eW, hcW, haW⟩ := hL.formN
  subst eO eW
  obtain ⟨M, hM⟩ : ∃ M, Y.out.length = M := ⟨_, rfl⟩
  obtain ⟨NW, hNW⟩ : ∃ NW, W.length = NW := ⟨_, rfl⟩
  have c1 := hB.c1
  have c3 := hB.c3
  have c4 := hB.c4
  have c5 := hB.c5
  rw [hc] at c4
  rw [hM] at c3 hn
  rw [hNW] at hn hcW hWn
  have HSR : Hid (∀ W', Below w.heap.size w W' → Calls Tryz.prog 29 #[.slice aO M cO, .slice aW M cW] W' fun e w' => e = .returned (.bool true) ∧ Below W'.heap.size W' w') := fun W' hb => by
    have hr2 := (hL.rows.take Y.out.length).later hb
    rw [← hpre] at hr2
    have := sameRows_any aO aW cO cW Y.out W' (by omega) (fun r hr => by have := hl.o.lens r hr; unfold maxLen; omega) (hl.o.rows.later hb) hr2
    rw [hM] at this
    exact this
  have HCo : Hid (∀ W' : World, Calls Tryz.prog 6 #[.int .i64 wy] W' fun e w' => e = .returned (.int .i64 (codeV wy)) ∧ Below W'.heap.size W' w') := fun W' => by
    refine (code_any wy W' hwy).mono ?_
    rintro _ w' ⟨rfl, rfl⟩
    exact ⟨rfl, Below.refl _ _⟩
  have hsl := fun W' => slice_to22 aW NW cW M W' (by omega) haW
  have i1 : ¬ Y.most > bu := by omega
  have i2 : (M : Int) ≤ (NW : Int) := by omega
  have i2n : M ≤ NW := by omega
  have i3 : (M : Int) ≤ (cW : Int) := by omega
  have i3n : M ≤ cW := by omega
  have k3 := cell_regrown c3
  have k4 := cell_regrown c4
  rw [hNW]
  clear hB hl hL hrd ht hpre hM hNW
  go_enter Tryz.func10, Tryz.ntmps10
  go_upto_region 6 with (first
    | (go_at_call 27; refine (unhide HLe).mono ?_; rintro _ w9 ⟨rfl, hw9⟩; rw [hw9]; clear hw9)
    | (go_at_call 28; refine (unhide HRf).mono ?_; rintro _ w9 ⟨rfl, hw9⟩; rw [hw9]; clear hw9))
  refine wp_region_quiet_below (by kernel_rfl) (by kernel_rfl) ?_
  repeat (go_big_quiet_step (first
    | (go_at_call 6; exact Calls.regrown_of (unhide HCo _))
    | (go_at_call 29; exact Calls.regrown_of (unhide HSR _ (below_regrown _ _ _)))))
  refine wpQuiet_nil ?_
  intro w' hw'
  have hB : Below w.heap.size w w' := by obtain ⟨p, rfl⟩ := hw'; exact below_regrown _ _ _
  clear hw' k3 k4
  go_wp2
  go_ret
  exact ⟨rfl, hB⟩
end Go.Proofs.YtcbenpodohjbiaaGreat
set_option linter.unusedSimpArgs false
set_option linter.unusedVariables false
set_option maxRecDepth 100000
namespace Go.Proofs.YtcbenpodohjbiaaGreat
open Go.RowKit Go.Sort

/-- alive$1 (30). -/
theorem alive1_any (n : Int) (w : World) : Calls Tryz.prog 30 #[.int .i64 n] w fun e w' => e = .returned (.slice (some ⟨w.heap.size, 0, none⟩) 1 1) ∧ RowAt w' (some ⟨w.heap.size, 0, none⟩) [Val.num n] ∧ Below w.heap.size w w' ∧ w'.heap.size = w.heap.size + 1 := by
  go_enter Tryz.func30, Tryz.ntmps30
  go_wp2
  go_ret
  refine ⟨rfl, .inr ⟨_, 0, rfl, fun i x hx => ?_⟩, below_alloc (Below.refl _ _) _, by simp⟩
  match i, hx with
  | 0, hx => simp at hx; subst hx; simp [go_sem, Val.num]
  | i + 1, hx => simp at hx
def threeR : List (List Val) := [[Val.num 3], [Val.num 1], [Val.num 2]]
def threeS : List (List Val) := [[Val.num 1], [Val.num 2], [Val.num 3]]
theorem three_clean : threeR.map cleanR = threeR := by
  simp [threeR, cleanR, cleanV, Val.num]
theorem three_srt : threeS.Pairwise fun x y => ordG [] x y ≤ 0 := by
  simp [threeS, ordG, keysV, rowsV, ordV, Val.num, cleanV, orI, cmpI]
theorem three_perm : threeS.Perm threeR := by
  unfold threeS threeR
  exact (List.perm_append_comm (l₁ := [[Val.num 1], [Val.num 2]]) (l₂ := [[Val.num 3]]))
theorem three_out {O : List (List Val)} (h1 : O.Perm (threeR.map cleanR)) (h2 : O.Pairwise fun x y => ordG [] x y ≤ 0) : O = threeS := by
  rw [three_clean] at h1
  refine srt_eq (ks := []) h2 three_srt (h1.trans three_perm.symm) (fun x hx => ?_)
  have hx' := h1.mem_iff.1 hx
  rw [← three_clean] at hx'
  obtain ⟨z, _, rfl⟩ := List.mem_map.1 hx'
  exact cleanR_clean z
/-- Three rows in memory of their own. -/
theorem three_rows {W2 W3 W4 : World} {r1 r2 r3 : Nat} (h1 : RowAt W4 (some ⟨r1, 0, none⟩) [Val.num 3]) (h2 : RowAt W4 (some ⟨r2, 0, none⟩) [Val.num 1]) (h3 : RowAt W4 (some ⟨r3, 0, none⟩) [Val.num 2]) (l1 : r1 < W4.heap.size) (l2 : r2 < W4.heap.size) (l3 : r3 < W4.heap.size) :
    ∃ B : Bs, B.Bel (W4.alloc (.cells #[.slice (some ⟨r1, 0, none⟩) 1 1, .slice (some ⟨r2, 0, none⟩) 1 1, .slice (some ⟨r3, 0, none⟩) 1 1] 70)) ∧ B.Rows (some ⟨W4.heap.size, 0, none⟩) threeR ∧ ∀ j, j ≠ r1 → j ≠ r2 → j ≠ r3 → j ≠ W4.heap.size → B.No j := by
  have hb := below_alloc (Below.refl _ W4) (.cells #[.slice (some ⟨r1, 0, none⟩) 1 1, .slice (some ⟨r2, 0, none⟩) 1 1, .slice (some ⟨r3, 0, none⟩) 1 1] 70)
  have hs : (W4.alloc (.cells #[.slice (some ⟨r1, 0, none⟩) 1 1, .slice (some ⟨r2, 0, none⟩) 1 1, .slice (some ⟨r3, 0, none⟩) 1 1] 70)).heap.size = W4.heap.size + 1 := by simp
  refine ⟨⟨W4.alloc (.cells #[.slice (some ⟨r1, 0, none⟩) 1 1, .slice (some ⟨r2, 0, none⟩) 1 1, .slice (some ⟨r3, 0, none⟩) 1 1] 70), fun k => k = r1 ∨ k = r2 ∨ k = r3 ∨ k = W4.heap.size⟩, ⟨Nat.le_refl _, fun k hx => ⟨?_, rfl⟩⟩, .inr ⟨W4.heap.size, 0, rfl, .inr (.inr (.inr rfl)), fun i r hr => ?_⟩, fun j n1 n2 n3 n4 hx => ?_⟩
  · rw [hs]
    rcases hx with e | e | e | e <;> omega
  · match i, hr with
    | 0, hr =>
      simp [threeR] at hr
      subst hr
      exact ⟨some ⟨r1, 0, none⟩, 1, by simp [go_sem], h1.later hb, fun b' off' e _ => .inl (by injection e with e; injection e with e; exact e.symm)⟩
    | 1, hr =>
      simp [threeR] at hr
      subst hr
      exact ⟨some ⟨r2, 0, none⟩, 1, by simp [go_sem], h2.later hb, fun b' off' e _ => .inr (.inl (by injection e with e; injection e with e; exact e.symm))⟩
    | 2, hr =>
      simp [threeR] at hr
      subst hr
      exact ⟨some ⟨r3, 0, none⟩, 1, by simp [go_sem], h3.later hb, fun b' off' e _ => .inr (.inr (.inl (by injection e with e; injection e with e; exact e.symm)))⟩
    | i + 3, hr => simp [threeR] at hr
  · rcases hx with e | e | e | e
    · exact n1 e
    · exact n2 e
    · exact n3 e
    · exact n4 e
/-- What Sort of the three answers. -/
theorem three_sort {w0 : Bs} {n0 : Nat} {w : World} {b s : Nat} {aR : Option Addr} (hP : Py w b (Yv.new 0 0) none (fun j => j = b)) (hSt : Stm w0 w s b aR 3 threeR 0) (hI : w0.Rows aR threeR) (hb0 : w0.No b) (hbn : n0 ≤ b) (hs0 : w0.No s) (hsn : n0 ≤ s) (hw0 : n0 ≤ w.heap.size) :
    Calls Tryz.prog 7 #[.iface 66 (.pointer (some ⟨s, 0, none⟩)), .slice none 0 0, .int .i64 4, .iface 24 (.pointer (some ⟨b, 0, none⟩)), .iface 24 (.pointer (some ⟨b, 0, none⟩))] w fun e w' => e = .returned (.int .i64 0) ∧ Below n0 w w' ∧ ∃ g c ra ka rb oa rd kd re od, w'.cell? ⟨b, 3, none⟩ = some (.slice (some ⟨g, 0, none⟩) 3 c) ∧ w'.cell? ⟨g, 0, none⟩ = some (.slice ra 1 ka) ∧ ra = some ⟨rb, oa, none⟩ ∧ w'.cell? ⟨rb, oa + 1, none⟩ = some (.int .i64 1) ∧ w'.cell? ⟨g, 2, none⟩ = some (.slice rd 1 kd) ∧ rd = some ⟨re, od, none⟩ ∧ w'.cell? ⟨re, od + 1, none⟩ = some (.int .i64 3) := by
  have h := Sort_any (k := 0) (ks := []) (aK := none) (cK := 0) (bu := 4) hP hSt hI hb0 hbn hs0 hsn hw0 (by simp [threeR]) (fun r hr => by simp [threeR] at hr; rcases hr with rfl | rfl | rfl <;> simp) (.inl rfl) (by simp) (fun x hx => by simp at hx) (.inr ⟨rfl, by simp [threeR]⟩) (fun _ => by simp [threeR]) (by omega)
  refine h.mono ?_
  rintro _ w' ⟨c, Y', F', rfl, hPy, hbel, hc⟩
  have hok : okB [] 4 = true := by simp [okB, keysB]
  rcases hc with ⟨h1, _⟩ | ⟨_, h2, h3, h4, h5, h6⟩
  · rw [hok] at h1; cases h1
  · rcases h6 with ⟨rfl, hs⟩ | ⟨_, hne, _⟩
    · obtain ⟨O, o1, o2, o3⟩ := hs.out
      have hO := three_out o2 o3
      have hout : Y'.out = threeS := by rw [o1, hO]; rfl
      obtain ⟨_, vO, vR, vT, us, hB, hl⟩ := hPy
      have hLo := hl.o
      rw [hout] at hLo
      obtain ⟨g, cc, ra, ka, ev, d0, _, hr0, _⟩ := hLo.get (i := 0) (r := [Val.num 1]) rfl
      obtain ⟨g', cc', rd, kd, ev', d2, _, hr2, _⟩ := hLo.get (i := 2) (r := [Val.num 3]) rfl
      rw [ev] at ev'
      injection ev' with e1 _ _
      injection e1 with e1
      injection e1 with e1
      subst e1
      have c3 := hB.c3
      rw [ev] at c3
      rcases hr0 with q | ⟨rb, oa, ea, _, q⟩
      · cases q
      · rcases hr2 with q' | ⟨re, od, ed, _, q'⟩
        · cases q'
        · have q1 := (q 0 _ rfl).2.1
          have q2 := (q' 0 _ rfl).2.1
          simp only [Nat.zero_mul, Nat.add_zero] at q1 q2
          exact ⟨rfl, hbel, g, cc, ra, ka, rb, oa, rd, kd, re, od, c3, d0, ea, q1, d2, ed, q2⟩
    · exact absurd rfl hne
end Go.Proofs.YtcbenpodohjbiaaGreat
set_option linter.unusedSimpArgs false
set_option linter.unusedVariables false
set_option maxRecDepth 100000
namespace Go.Proofs.YtcbenpodohjbiaaGreat
open Go.RowKit Go.Sort

set_option maxHeartbeats 4000000 in
/-- alive (12). -/
theorem alive_any (w : World) : Calls Tryz.prog 12 #[] w fun e w' => e = .returned (.bool true) ∧ Below w.heap.size w w' := by
  have HC5 := hide (pnew_any 0 0 w)
  have HA := hide (fun (W : World) => alive1_any 3 W)
  have HBB := hide (fun (W : World) => alive1_any 1 W)
  have HCC := hide (fun (W : World) => alive1_any 2 W)
  go_enter Tryz.func12, Tryz.ntmps12
  go_wp2_with (first
    | (go_at_call 5; refine (unhide HC5).mono ?_; rintro _ w1 ⟨rfl, hb1, hP1, hs1⟩; have HB1 := hide hb1; have HP1 := hide hP1; have HS1 := hide hs1; clear hb1 hP1 hs1)
    | (go_at_call_of 30 (Value.int .i64 3); refine (unhide HA _).mono ?_; rintro _ w2 ⟨rfl, hr2, hb2, hs2⟩; have HR2 := hide hr2; have HB2 := hide hb2; have HS2 := hide hs2; clear hr2 hb2 hs2)
    | (go_at_call_of 30 (Value.int .i64 1); refine (unhide HBB _).mono ?_; rintro _ w3 ⟨rfl, hr3, hb3, hs3⟩; have HR3 := hide hr3; have HB3 := hide hb3; have HS3 := hide hs3; clear hr3 hb3 hs3)
    | (go_at_call_of 30 (Value.int .i64 2); refine (unhide HCC _).mono ?_; rintro _ w4 ⟨rfl, hr4, hb4, hs4⟩; have HR4 := hide hr4; have HB4 := hide hb4; have HS4 := hide hs4; have h3R := three_rows (W2 := w2) (W3 := w3) (W4 := w4) (((unhide HR2).later (unhide HB3)).later hb4) ((unhide HR3).later hb4) hr4 (by have := unhide HS2; have := unhide HS3; omega) (by have := unhide HS3; omega) (by omega); obtain ⟨B0, hBel, hRows, hNo⟩ := h3R; have HC8 : Hid (Calls Tryz.prog 8 #[.pointer (some ⟨w.heap.size, 0, none⟩), .slice (some ⟨w4.heap.size, 0, none⟩) 3 3] _ _) := stream_any w.heap.size (some ⟨w4.heap.size, 0, none⟩) 3 threeR B0 _ hBel; have HROWS := hide hRows; have HNO := hide hNo; have HBEL := hide hBel; clear hr4 hb4 hs4 hRows hNo hBel)
    | (go_at_call 8; refine (unhide HC8).mono ?_; rintro _ w6 ⟨rfl, hb6, hSt6, hs6⟩; have es : (w4.alloc (.cells #[.slice (some ⟨w1.heap.size, 0, none⟩) 1 1, .slice (some ⟨w2.heap.size, 0, none⟩) 1 1, .slice (some ⟨w3.heap.size, 0, none⟩) 1 1] 70)).heap.size = w4.heap.size + 1 := (by simp); rw [es] at hSt6; have HB6 := hide hb6; have hbb : Below w.heap.size w w6 := (below_step (below_step (below_step (below_step (below_step (unhide HB1) (unhide HB2)) (unhide HB3)) (unhide HB4)) (below_alloc (Below.refl _ w4) _)) hb6); have hP6 := (((((unhide HP1).later (unhide HB2)).later (unhide HB3)).later (unhide HB4)).later (below_alloc (Below.refl _ w4) _)).later hb6; have hszA := (below_alloc (Below.refl _ w4) (.cells #[.slice (some ⟨w1.heap.size, 0, none⟩) 1 1, .slice (some ⟨w2.heap.size, 0, none⟩) 1 1, .slice (some ⟨w3.heap.size, 0, none⟩) 1 1] 70)).size; have HC7 := hide (three_sort (n0 := w.heap.size) hP6 hSt6 (unhide HROWS) (unhide HNO _ (by have := unhide HS1; omega) (by have := unhide HS1; have := unhide HS2; omega) (by have := unhide HS1; have := unhide HS2; have := unhide HS3; omega) (by have := unhide HS1; have := unhide HS2; have := unhide HS3; have := unhide HS4; omega)) (Nat.le_refl _) (Bs.new (unhide HBEL) (Nat.le_of_eq es)) (by have := hbb.size; have := hb6.size; have := (unhide HB1).size; have := (unhide HB2).size; have := (unhide HB3).size; have := (unhide HB4).size; omega) hbb.size); have HBB6 := hide hbb; clear hb6 hSt6 hs6 hbb hP6 hszA es)
    | (go_at_call 7; refine (unhide HC7).mono ?_; rintro _ w7 ⟨rfl, hb7, g, cc, ra, ka, rb, oa, rd, kd, re, od, d3, d4, rfl, d5, d6, rfl, d7⟩; have HB7 := hide hb7; clear hb7))
  go_ret
  exact ⟨rfl, (unhide HBB6).trans (unhide HB7)⟩
end Go.Proofs.YtcbenpodohjbiaaGreat
set_option linter.unusedSimpArgs false
set_option linter.unusedVariables false
set_option maxRecDepth 100000
namespace Go.Proofs.YtcbenpodohjbiaaGreat
open Go.RowKit Go.Sort

theorem least_k {d n : Nat} : ∀ (j : Nat), n ≤ d ^ (j + 1) → ∃ k, k ≤ j ∧ n ≤ d ^ (k + 1) ∧ (k = 0 ∨ d ^ k < n)
  | 0, h => ⟨0, Nat.le_refl _, h, .inl rfl⟩
  | j + 1, h => by
    by_cases h2 : d ^ (j + 1) < n
    · exact ⟨j + 1, Nat.le_refl _, h, .inr h2⟩
    · obtain ⟨k, k1, k2⟩ := least_k (d := d) (n := n) j (by omega)
      exact ⟨k, by omega, k2⟩
theorem some_k {d n : Nat} (hd : 3 ≤ d) (hn : n ≤ 1048576) : ∃ k, k ≤ 20 ∧ n ≤ d ^ (k + 1) ∧ (k = 0 ∨ d ^ k < n) := by
  refine least_k (d := d) (n := n) 20 ?_
  show n ≤ d ^ 21
  have h1 : 3 ^ 21 ≤ d ^ 21 := Nat.pow_le_pow_left hd _
  have e : (3 : Nat) ^ 21 = 10460353203 := by decide
  omega
theorem one_k {d n k k' : Nat} (hd : 3 ≤ d) (h1 : n ≤ d ^ (k + 1)) (h2 : k = 0 ∨ d ^ k < n) (h3 : n ≤ d ^ (k' + 1)) (h4 : k' = 0 ∨ d ^ k' < n) : k = k' := by
  rcases Nat.lt_trichotomy k k' with q | q | q
  · have : d ^ (k + 1) ≤ d ^ k' := Nat.pow_le_pow_right (by omega) (by omega)
    omega
  · exact q
  · have : d ^ (k' + 1) ≤ d ^ k := Nat.pow_le_pow_right (by omega) (by omega)
    omega
/-- What came in is not changed. -/
theorem rows_base {w : World} {aR : Option Addr} {rs : List (List Val)} (h : RowsT w aR rs) : (Bs.mk w (fun k => k < w.heap.size)).Rows aR rs := by
  by_cases hn : rs = []
  · exact .inl hn
  rcases h with h | ⟨b, off, e, h⟩
  · exact .inl h
  · obtain ⟨r0, hr0⟩ : ∃ r0, rs[0]? = some r0 := by
      cases rs with
      | nil => exact absurd rfl hn
      | cons r0 rs => exact ⟨r0, rfl⟩
    obtain ⟨_, _, c0, _⟩ := h 0 r0 hr0
    refine .inr ⟨b, off, e, World.block_lt_of_cell? _ _ c0, fun i r hr => ?_⟩
    obtain ⟨ra, rc, c0, hra⟩ := h i r hr
    exact ⟨ra, rc, c0, hra, fun b' off' e hne => by subst e; exact hra.blk hne⟩
theorem bel_base {w w' : World} (h : Below w.heap.size w w') : (Bs.mk w (fun k => k < w.heap.size)).Bel w' := ⟨h.size, fun k hx => ⟨hx, h.block k hx⟩⟩
theorem max4 (bu : Int) : max bu 4 = if 4 ≤ bu then bu else 4 := by
  split <;> omega
/-- ended, of what Sort and SortOf have answered. -/
theorem ended_any {w3 w4 : World} {b : Nat} {ks : List (Int × Bool)} {bu : Int} {k : Nat} {rs : List (List Val)} {re wy c f : Int} {Y' : Yv} {F' : Nat → Prop} {v : Value} {W : List (List Val)} (hn : rs.length ≤ 1048571) (hP : Py w4 b Y' none F') (hwy : -9223372036854775808 ≤ wy ∧ wy ≤ 9223372036854775807)
    (hc : (okB ks bu = false ∧ c = 1 ∧ Y' = Yv.new re (codeV wy)) ∨ (okB ks bu = true ∧ (∀ t ∈ Y'.there, t = false) ∧ Y'.there.length ≤ 1000000 ∧ Y'.most ≤ bu ∧ Y'.rf = (Yv.new re (codeV wy)).rf ∧ ((c = 0 ∧ SrtOk ks k rs (Yv.new re (codeV wy)) Y') ∨ (c = (Yv.new re (codeV wy)).cd ∧ (Yv.new re (codeV wy)).cd ≠ 0 ∧ SrtNo ks rs (Yv.new re (codeV wy)) Y'))))
    (hs : (okB ks bu = false ∧ f = 1 ∧ v = .slice none 0 0) ∨ (okB ks bu = true ∧ f = 0 ∧ Lst w4 v W ∧ W.Perm (rs.map cleanR) ∧ W.Pairwise (fun x y => ordG ks x y ≤ 0))) :
    Calls Tryz.prog 10 #[.pointer (some ⟨b, 0, none⟩), .int .i64 c, v, .int .i64 f, .int .i64 bu, .int .i64 ((rs.length * k : Nat) : Int), .int .i64 re, .int .i64 wy] w4 fun e w' => e = .returned (.bool true) ∧ Below w4.heap.size w4 w' := by
  rcases hc with ⟨ho, rfl, rfl⟩ | ⟨ho, t1, t2, t3, t4, hc⟩
  · rcases hs with ⟨_, rfl, rfl⟩ | ⟨ho', _⟩
    · exact ended_bad hP rfl _ _ _ _ _
    · rw [ho] at ho'; cases ho'
  · rcases hs with ⟨ho', _⟩ | ⟨_, rfl, hL, hpm, hst⟩
    · rw [ho] at ho'; cases ho'
    · have hWl : W.length = rs.length := by rw [hpm.length_eq, List.length_map]
      have hcl : ∀ x ∈ W, cleanR x = x := fun x hx => by
        obtain ⟨z, _, rfl⟩ := List.mem_map.1 (hpm.mem_iff.1 hx)
        exact cleanR_clean z
      rcases hc with ⟨rfl, h⟩ | ⟨rfl, _, h⟩
      · obtain ⟨O, o1, o2, o3⟩ := h.out
        have hOW : O = W := (srt_eq hst o3 (hpm.trans o2.symm) hcl).symm
        have hout : Y'.out = W := by rw [o1, hOW]; rfl
        rw [← hout] at hL hWl
        exact ended_ok hP hL (by omega) h.rd t1 t2 bu _ re wy t3 h.held h.puts (Int.natCast_nonneg _)
      · obtain ⟨O, R, o1, o2, o3, o4⟩ := h.out
        obtain ⟨p1, p2⟩ := pre_of o2 o3 o4 hpm hst hcl
        have hout : Y'.out = O := by rw [o1]; rfl
        rw [← hout] at p1 p2
        have := ended_no hP hL p1 p2 (by omega) h.rd t1 t2 bu ((rs.length * k : Nat) : Int) wy t3 h.calls hwy
        rw [t4] at this
        exact this
set_option maxHeartbeats 8000000 in
/-- SpillSorts (3). -/
theorem law_ss (rs : List (List Val)) (ks : List (Int × Bool)) (aR aK : Option Addr) (cR cK : Nat) (bu re wy : Int) (w : World) (hn : rs.length ≤ 1048571) (hr : ∀ r ∈ rs, r.length ≤ 1048576) (ha : RowsT w aR rs) (hkl : ks.length ≤ 1048576) (hK : KeysAt w aK ks) (hkx : ∀ x ∈ ks.map Prod.fst, In64 x) (hbu : In64 bu) (hwy : In64 wy) :
    Calls Tryz.prog 3 #[.slice aR rs.length cR, .slice aK ks.length cK, .int .i64 bu, .int .i64 re, .int .i64 wy] w fun e w' => e = .returned (.bool true) ∧ Below w.heap.size w w' := by
  have hwy' : -9223372036854775808 ≤ wy ∧ wy ≤ 9223372036854775807 := ⟨by have := hwy.1; omega, by have := hwy.2; omega⟩
  obtain ⟨d, hd3, hdm, hdb⟩ : ∃ d : Nat, 3 ≤ d ∧ max bu 4 = (d : Int) + 1 ∧ (okB ks bu = true → bu.toNat - 1 = d) := by
    refine ⟨(max bu 4 - 1).toNat, by omega, by omega, fun h => ?_⟩
    unfold okB at h
    simp at h
    omega
  obtain ⟨k, hk20, hk1, hk2⟩ := some_k (n := rs.length) hd3 (by omega)
  have hd2 : (d : Int) + 1 ≤ 9223372036854775807 := by have := hbu.2; omega
  have hcd : codeV wy ≠ 0 := by have := codeV_ne wy; omega
  have HC6 := hide (fun (W : World) => code_any wy W hwy')
  have HC5 := hide (fun (W : World) => pnew_any re (codeV wy) W)
  have HC8 : Hid (∀ w1, Below w.heap.size w w1 → Calls Tryz.prog 8 #[.pointer (some ⟨w.heap.size, 0, none⟩), .slice aR rs.length cR] w1 fun e w' => e = .returned (.iface 66 (.pointer (some ⟨w1.heap.size, 0, none⟩))) ∧ Below w1.heap.size w1 w' ∧ Stm (Bs.mk w (fun k => k < w.heap.size)) w' w1.heap.size w.heap.size aR cR rs 0 ∧ w'.heap.size = w1.heap.size + 1) := fun w1 hb => stream_any w.heap.size aR cR rs _ w1 (bel_base hb)
  have HC7 : Hid (∀ w1 w2, Below w.heap.size w w1 → w1.heap.size = w.heap.size + 1 → Below w1.heap.size w1 w2 → Py w2 w.heap.size (Yv.new re (codeV wy)) none (fun j => j = w.heap.size) → Stm (Bs.mk w (fun k => k < w.heap.size)) w2 w1.heap.size w.heap.size aR cR rs 0 → Calls Tryz.prog 7 #[.iface 66 (.pointer (some ⟨w1.heap.size, 0, none⟩)), .slice aK ks.length cK, .int .i64 bu, .iface 24 (.pointer (some ⟨w.heap.size, 0, none⟩)), .iface 24 (.pointer (some ⟨w.heap.size, 0, none⟩))] w2 fun e w' => STopP w.heap.size w2 w.heap.size ks bu k rs (Yv.new re (codeV wy)) e w') := fun w1 w2 q1 q2 q3 q4 q5 =>
    Sort_any q4 q5 (rows_base ha) (fun hx => by have : w.heap.size < w.heap.size := hx; omega) (Nat.le_refl _) (fun hx => by have : w1.heap.size < w.heap.size := hx; omega) (by omega) (by have := q3.size; omega) hn hr ((hK.later q1).later q3) hkl hkx (.inl hcd) (fun h => by rw [hdb h]; exact hk1) hk20
  have HC9 : Hid (∀ w3, Below w.heap.size w w3 → Calls Tryz.prog 9 #[.slice aR rs.length cR, .slice aK ks.length cK, .int .i64 bu] w3 fun e w' => SortOfP w3 ks bu rs e w') := fun w3 q => sortOf_any rs ks aR aK cR cK bu w3 (by omega) hr (ha.later q) hkl (hK.later q)
  have HC11 : Hid (∀ W, Calls Tryz.prog 11 #[.int .i64 (rs.length : Int), .int .i64 ((d : Int) + 1)] W fun e w' => e = .returned (.int .i64 ((rs.length * k : Nat) : Int)) ∧ w' = W) := fun W => by
    refine (putsOf_any rs.length d W (by omega) hd3 hd2).mono ?_
    rintro _ w' ⟨⟨k', rfl, q1, q2, q3⟩, q4⟩
    rw [one_k hd3 hk1 hk2 q1 q3]
    exact ⟨rfl, q4⟩
  have HC12 := hide alive_any
  have HN := hide hn
  have HWY := hide hwy'
  clear ha hr hK hkx hkl hk1 hk2 hd2 hdb hwy hwy' hcd hbu
  go_enter Tryz.func3, Tryz.ntmps3
  go_upto_region 4 with (first
    | (go_at_call 6; refine (unhide HC6 _).mono ?_; rintro _ w9 ⟨rfl, hw9⟩; rw [hw9]; clear hw9)
    | (go_at_call 5; refine (unhide HC5 _).mono ?_; rintro _ w1 ⟨rfl, hb1, hP1, hs1⟩; have HS8 := hide (unhide HC8 w1 hb1); have HB1 := hide hb1; have HP1 := hide hP1; have HS1 := hide hs1; clear hb1 hP1 hs1)
    | (go_at_call 8; refine (unhide HS8).mono ?_; rintro _ w2 ⟨rfl, hb2, hSt2, hs2⟩; have HS7 := hide (unhide HC7 w1 w2 (unhide HB1) (unhide HS1) hb2 ((unhide HP1).later hb2) hSt2); have HB2 := hide hb2; clear hb2 hSt2 hs2)
    | (go_at_call 7; refine (unhide HS7).mono ?_; rintro _ w3 ⟨c3, Y3, F3, rfl, hP3, hb3, hc3⟩; have hbw3 : Below w.heap.size w w3 := (below_step (unhide HB1) (unhide HB2)).trans hb3; have HS9 := hide (unhide HC9 w3 hbw3); have HBW3 := hide hbw3; have HP3 := hide hP3; have HC3 := hide hc3; clear hP3 hb3 hc3 hbw3)
    | (go_at_call 9; refine (unhide HS9).mono ?_; rintro _ w4 ⟨v4, f4, W4, rfl, hb4, hs4⟩; have HB4 := hide hb4; have HS4 := hide hs4; clear hb4 hs4))
  have HE := hide (ended_any (w3 := w3) (unhide HN) ((unhide HP3).later (unhide HB4)) (unhide HWY) (unhide HC3) (unhide HS4))
  go_wp2_with (first
    | (go_at_call 11; (try rw [hdm]); refine (unhide HC11 _).mono ?_; rintro _ w9 ⟨rfl, hw9⟩; rw [hw9]; clear hw9)
    | (go_at_call 10; refine (unhide HE).mono ?_; rintro _ w5 ⟨rfl, hb5⟩; have HB5 := hide hb5; clear hb5)
    | (go_at_call 12; refine (unhide HC12 _).mono ?_; rintro _ w6 ⟨rfl, hb6⟩; have HB6 := hide hb6; clear hb6))
  go_ret
  exact ⟨rfl, below_step (below_step (below_step (unhide HBW3) (unhide HB4)) (unhide HB5)) (unhide HB6)⟩
end Go.Proofs.YtcbenpodohjbiaaGreat
set_option linter.unusedSimpArgs false
set_option linter.unusedVariables false
namespace Go.Proofs.YtcbenpodohjbiaaGreat
open Go.ChangeShapes Go.WideShapes Go.ChangeAt Go.RowKit Go.Joins Go.Deep

theorem ownT : ownKnob Tryz.prog.godebug = none := by kernel_rfl
theorem laidT : laidOutB Tryz.prog = true := by kernel_rfl
theorem in64_of {x : Int} (h : (Lit.int .i64 x).wf = true) : In64 x := by
  simp [Lit.wf, IntKind.min, IntKind.max, IntKind.signed, IntKind.bits] at h
  exact ⟨by omega, by omega⟩
theorem cells3 : Tryz.prog.cellsOf 3 = 1 := by kernel_rfl
theorem cells2 : Tryz.prog.cellsOf 2 = 1 := by kernel_rfl
theorem cells9 : Tryz.prog.cellsOf 9 = 1 := by kernel_rfl
theorem cellsB4 : Tryz.prog.cellsOf 4 = 1 := by kernel_rfl
theorem cellsV73 : Tryz.prog.cellsOf 73 = 3 := by kernel_rfl
theorem cellsR70 : Tryz.prog.cellsOf 70 = 1 := by kernel_rfl
theorem cellsK58 : Tryz.prog.cellsOf 58 = 2 := by kernel_rfl
theorem addr_lit (b o n : Nat) : (⟨b, o, none⟩ : Addr).add n = ⟨b, o + n, none⟩ := by
  by_cases h : n = 0 <;> simp [Addr.add, h]
theorem one_leB {H : Type} (d : DataW H) : 1 ≤ Rows.uptoBulk d := by
  cases d with
  | lit l => cases l <;> simp [Rows.uptoBulk]
  | nil => simp [Rows.uptoBulk]
  | ptr d => simp [Rows.uptoBulk]
  | slice elems spare => simp [Rows.uptoBulk]
  | agg parts => simp [Rows.uptoBulk]
  | iface t d => simp [Rows.uptoBulk]
  | map entries => simp [Rows.uptoBulk]
  | held h => simp [Rows.uptoBulk]
theorem length_leB {H : Type} : ∀ l : List (DataW H), l.length ≤ Rows.uptoBulkAll l
  | [] => Nat.zero_le _
  | d :: l => by
    have := length_leB l
    have := one_leB d
    rw [Rows.uptoBulkAll, List.length_cons]
    omega
theorem part_leB {H : Type} : ∀ {l : List (DataW H)} {d : DataW H}, d ∈ l → Rows.uptoBulk d ≤ Rows.uptoBulkAll l
  | x :: l, d, h => by
    rw [Rows.uptoBulkAll]
    rcases List.mem_cons.1 h with rfl | h
    · omega
    · have := part_leB h
      omega
section
variable {H : Type} {enc : TypeId × Value → H} {w : World} {base : Nat} {spare : Nat → Bool} {held : Bool}
/-- A list's elements lie side by side. -/
def LiesAt {α : Type} (w : World) (N : Nat) (cells : α → List Value) (a : Option Addr) (xs : List α) : Prop := xs = [] ∨ ∃ b off, a = some ⟨b, off, none⟩ ∧ ∀ (i : Nat) q, xs[i]? = some q → ∀ (j : Nat) v, (cells q)[j]? = some v → w.cell? ⟨b, off + i * N + j, none⟩ = some v
set_option maxRecDepth 100000 in
/-- A list that came in, laid open. -/
theorem open_list {α : Type} [Inhabited α] {t e fuel : Nat} {cv : Value} {y : DataW H × List MemPlace} (N : Nat) (hN : 0 < N) (cells : α → List Value) (Pr : α → Prop) (ht : Tryz.prog.underlying t = some (.slice e)) (hc : Tryz.prog.cellsOf e = N) (hcl : ∀ q, (cells q).length = N)
    (hE : ∀ n cs (y' : DataW H × List MemPlace), DataW.trod enc Tryz.prog w base spare held n e cs = some y' → SizeOf.sizeOf y'.1 < SizeOf.sizeOf y.1 → Rows.uptoBulk y'.1 ≤ Rows.uptoBulk y.1 → ∃ q, cs = cells q ∧ Pr q)
    (h : DataW.trod enc Tryz.prog w base spare held fuel t [cv] = some y) :
    ∃ (a : Option Addr) (cap : Nat) (xs : List α), cv = .slice a xs.length cap ∧ xs.length ≤ cap ∧ LiesAt w N cells a xs ∧ (∀ q ∈ xs, Pr q) ∧ xs.length + 1 ≤ Rows.uptoBulk y.1 := by
  rcases open_slice ht h with ⟨hcs, hx⟩ | ⟨a, len, cap, m, n, D, Pl, hcs, hb, hl, hm, hmm, hx, hel⟩
  · simp only [List.cons.injEq, and_true] at hcs
    subst hcs
    exact ⟨none, 0, [], rfl, Nat.le_refl _, .inl rfl, (fun q hq => by cases hq), one_leB _⟩
  · simp only [List.cons.injEq, and_true] at hcs
    subst hcs
    have hx1 : y.1 = .slice ((List.range len).map D) ((List.range (m - len)).map fun j => D (len + j)) := by rw [hx]
    have hlm : len ≤ m := by rw [hmm]; split <;> omega
    have hb3 : Rows.uptoBulk y.1 = Rows.uptoBulkAll ((List.range len).map D) + Rows.uptoBulkAll ((List.range (m - len)).map fun j => D (len + j)) + 1 := by rw [hx1, Rows.uptoBulk]
    have hel2 : ∀ i, i < len → ∃ q : α, w.cells? base (a.add (i * N)) N = some (cells q) ∧ Pr q := by
      intro i hi
      obtain ⟨cs', g1, g2⟩ := hel i (by omega)
      rw [hc] at g1
      have hmem : D i ∈ (List.range len).map D := List.mem_map.2 ⟨i, List.mem_range.2 hi, rfl⟩
      obtain ⟨q, rfl, hq⟩ := hE n cs' (D i, Pl i) g2 (by
        have s1 := List.sizeOf_lt_of_mem hmem
        rw [hx1]
        simp only [DataW.slice.sizeOf_spec]
        show SizeOf.sizeOf (D i) < _
        omega) (by
        have := part_leB hmem
        show Rows.uptoBulk (D i) ≤ _
        omega)
      exact ⟨q, g1, hq⟩
    obtain ⟨f, hfx⟩ := choose_lt (α := α) (n := len) hel2
    have hlen : ((List.range len).map f).length = len := by simp
    refine ⟨some a, cap, (List.range len).map f, by rw [hlen], by rw [hlen]; exact hl, ?_, ?_, ?_⟩
    · by_cases h0 : len = 0
      · left; subst h0; rfl
      · right
        obtain ⟨b, off, spot⟩ := a
        have hc0 := (World.cells?_some (hfx 0 (by omega)).1).2.2 0 hN
        obtain ⟨v0, hv0⟩ : ∃ v, (cells (f 0))[0]? = some v := ⟨_, List.getElem?_eq_getElem (by rw [hcl]; exact hN)⟩
        rw [hv0] at hc0
        have hspot : spot = none := by simpa [Addr.add] using World.cell?_spot hc0
        subst hspot
        refine ⟨b, off, rfl, fun i q hq j v hv => ?_⟩
        obtain ⟨hi, rfl⟩ := List.getElem?_eq_some_iff.1 hq
        have hi' : i < len := by simpa using hi
        simp only [List.getElem_map, List.getElem_range] at hv
        have hj : j < N := by have := (List.getElem?_eq_some_iff.1 hv).1; rw [hcl] at this; exact this
        have hcj := (World.cells?_some (hfx i hi').1).2.2 j hj
        rw [addr_lit, addr_lit, hv] at hcj
        exact hcj
    · intro q hq
      obtain ⟨i, hi, rfl⟩ := List.mem_map.1 hq
      exact (hfx i (by simpa using hi)).2
    · rw [hlen]
      have := length_leB ((List.range len).map D)
      rw [List.length_map, List.length_range] at this
      omega
set_option maxRecDepth 100000 in
theorem open_keysB {fuel : Nat} {cv : Value} {y : DataW H × List MemPlace} (h : DataW.trod enc Tryz.prog w base spare held fuel 23 [cv] = some y) : ∃ (a : Option Addr) (cap : Nat) (xs : List (Int × Bool)), cv = .slice a xs.length cap ∧ xs.length ≤ cap ∧ KeysAt w a xs ∧ (∀ x ∈ xs, In64 x.1) ∧ xs.length + 1 ≤ Rows.uptoBulk y.1 := by
  obtain ⟨a, cap, xs, h1, h2, h3, h4, h5⟩ := open_list (α := Int × Bool) 2 (by decide) (fun x => [.int .i64 x.1, .bool x.2]) (fun x => In64 x.1) Tryz.underlying23 cellsK58 (fun _ => rfl) (fun n cs y' g _ _ => by
    obtain ⟨z0, z1, n', _, hl, g0, g1⟩ := trod_struct2 Tryz.underlying58 g
    rw [cellsK58] at hl
    match cs, hl with
    | [c0, c1], _ =>
      simp only [cells3, cellsB4, List.drop_zero, List.take_succ_cons, List.take_zero, List.drop_succ_cons] at g0 g1
      obtain ⟨x, e0, _, wx⟩ := DataW.trod_int Tryz.underlying3 g0
      obtain ⟨b, e1, _⟩ := DataW.trod_bool Tryz.underlying4 g1
      simp only [List.cons.injEq, and_true] at e0 e1
      subst e0 e1
      exact ⟨(x, b), rfl, in64_of wx⟩) h
  refine ⟨a, cap, xs, h1, h2, ?_, h4, h5⟩
  rcases h3 with h3 | ⟨b, off, ha, h3⟩
  · exact .inl h3
  · exact .inr ⟨b, off, ha, fun i x hx => ⟨h3 i x hx 0 _ rfl, h3 i x hx 1 _ rfl⟩⟩
set_option maxRecDepth 100000 in
theorem open_rowB {fuel : Nat} {cv : Value} {y : DataW H × List MemPlace} (h : DataW.trod enc Tryz.prog w base spare held fuel 70 [cv] = some y) : ∃ (a : Option Addr) (cap : Nat) (xs : List Val), cv = .slice a xs.length cap ∧ RowAt w a xs ∧ xs.length + 1 ≤ Rows.uptoBulk y.1 := by
  have inst : Inhabited Val := ⟨Val.null⟩
  obtain ⟨a, cap, xs, h1, h2, h3, h4, h5⟩ := open_list (α := Val) 3 (by decide) (fun x => [.int .i64 x.k, .int .i64 x.n, .string x.s]) (fun _ => True) Tryz.underlying70 cellsV73 (fun _ => rfl) (fun n cs y' g _ s2 => by
    obtain ⟨z0, z1, z2, n', hz, hl, g0, g1, g2⟩ := trod_struct3 Tryz.underlying73 g
    rw [cellsV73] at hl
    match cs, hl with
    | [c0, c1, c2], _ =>
      simp only [cells3, cells2, cells9, List.drop_zero, List.take_succ_cons, List.take_zero, List.drop_succ_cons] at g0 g1 g2
      obtain ⟨vk, e0, _, _⟩ := DataW.trod_int Tryz.underlying3 g0
      obtain ⟨vn, e1, _, _⟩ := DataW.trod_int Tryz.underlying2 g1
      obtain ⟨vs, e2, _, _⟩ := DataW.trod_string Tryz.underlying9 g2
      simp only [List.cons.injEq, and_true] at e0 e1 e2
      subst e0 e1 e2
      exact ⟨⟨vk, vn, vs⟩, rfl, trivial⟩) h
  refine ⟨a, cap, xs, h1, ?_, h5⟩
  rcases h3 with h3 | ⟨b, off, ha, h3⟩
  · exact .inl h3
  · exact .inr ⟨b, off, ha, fun i x hx => ⟨h3 i x hx 0 _ rfl, h3 i x hx 1 _ rfl, h3 i x hx 2 _ rfl⟩⟩
set_option maxRecDepth 100000 in
theorem open_rowsB {fuel : Nat} {cv : Value} {y : DataW H × List MemPlace} (hw : Rows.uptoBulk y.1 ≤ 1048576) (h : DataW.trod enc Tryz.prog w base spare held fuel 22 [cv] = some y) : ∃ (a : Option Addr) (cap : Nat) (rs : List (List Val)), cv = .slice a rs.length cap ∧ RowsT w a rs ∧ (∀ r ∈ rs, r.length ≤ 1048576) ∧ rs.length + 1 ≤ Rows.uptoBulk y.1 := by
  have inst : Inhabited (List Val × Option Addr × Nat) := ⟨([], none, 0)⟩
  obtain ⟨a, cap, xs, h1, h2, h3, h4, h5⟩ := open_list (α := List Val × Option Addr × Nat) 1 (by decide) (fun q => [.slice q.2.1 q.1.length q.2.2]) (fun q => RowAt w q.2.1 q.1 ∧ q.1.length ≤ 1048576) Tryz.underlying22 cellsR70 (fun _ => rfl) (fun n cs y' g _ s2 => by
    have hl : cs.length = 1 := by
      rcases open_slice Tryz.underlying70 g with ⟨hcs, _⟩ | ⟨_, _, _, _, _, _, _, hcs, _⟩ <;> rw [hcs] <;> rfl
    match cs, hl with
    | [c0], _ =>
      obtain ⟨ra, rc, r, rfl, q1, q2⟩ := open_rowB g
      exact ⟨(r, ra, rc), rfl, q1, by show r.length ≤ _; omega⟩) h
  refine ⟨a, cap, xs.map Prod.fst, by rw [h1]; simp, ?_, ?_, by simp; omega⟩
  · rcases h3 with rfl | ⟨b, off, ha, h3⟩
    · exact .inl rfl
    · refine .inr ⟨b, off, ha, fun i r hr => ?_⟩
      rw [List.getElem?_map] at hr
      obtain ⟨q, hq, rfl⟩ := Option.map_eq_some_iff.1 hr
      exact ⟨q.2.1, q.2.2, by have := h3 i q hq 0 _ rfl; simpa using this, (h4 q (List.mem_of_getElem? hq)).1⟩
  · intro r hr
    obtain ⟨q, hq, rfl⟩ := List.mem_map.1 hr
    exact (h4 q hq).2
end

set_option maxRecDepth 100000 in
theorem ss_contract (H : Type) (enc : TypeId × Value → H) (W : World) (base : Nat) (args : Array Value) (ds gs : List (DataW H)) (before : List MemPlace)
    (hval : ∀ (j : Nat) t v, Tryz.f3.params[j]? = some t → args[j]? = some v → Value.okWide Tryz.prog W .any base t v)
    (hW : DataW.Whole enc Tryz.prog Tryz.f3.params.toList Rows.spillSortsSpec.vars false W args.toList ds gs before) (hk : Rows.uptoSmall H (ds ++ gs) = true) :
    Calls Tryz.prog 3 args W fun e W' => ∃ v, e = .returned v ∧ Rows.spillSortsSpec.post enc Tryz.prog Tryz.f3 false true false false W args v W' := by
  have hW' := hW
  obtain ⟨p, q, hA0, hV, rfl, hfz, hnd⟩ := hW
  have hA : DataW.TrodAll enc Tryz.prog W 0 (fun _ => true) true Tryz.f3.params.toList args.toList ds p := hA0
  rw [Tryz.params3] at hA hval
  obtain ⟨v0, vs0, d0, ds0, p0, q0, hargs, rfl, rfl, h0, r0⟩ := trodAll_cons hA
  obtain ⟨v1, vs1, d1, ds1, p1, q1, rfl, rfl, rfl, h1, r1⟩ := trodAll_cons r0
  obtain ⟨v2, vs2, d2, ds2, p2, q2, rfl, rfl, rfl, h2, r2⟩ := trodAll_cons r1
  obtain ⟨v3, vs3, d3, ds3, p3, q3, rfl, rfl, rfl, h3, r3⟩ := trodAll_cons r2
  obtain ⟨v4, vs4, d4, ds4, p4, q4, rfl, rfl, rfl, h4, r4⟩ := trodAll_cons r3
  obtain ⟨rfl, rfl, rfl⟩ := trodAll_nil r4
  obtain rfl : args = #[v0, v1, v2, v3, v4] := by cases args; simp_all
  obtain ⟨rfl, rfl⟩ := trodVars_none hV
  have k0 := h0
  have lt0 : ∀ x ∈ p0, x.block < W.heap.size := by obtain ⟨m, hm⟩ := k0; exact DataW.trod_lt m _ _ _ hm
  have k1 := h1
  have lt1 : ∀ x ∈ p1, x.block < W.heap.size := by obtain ⟨m, hm⟩ := k1; exact DataW.trod_lt m _ _ _ hm
  have k2 := h2
  have lt2 : ∀ x ∈ p2, x.block < W.heap.size := by obtain ⟨m, hm⟩ := k2; exact DataW.trod_lt m _ _ _ hm
  have k3 := h3
  have lt3 : ∀ x ∈ p3, x.block < W.heap.size := by obtain ⟨m, hm⟩ := k3; exact DataW.trod_lt m _ _ _ hm
  have k4 := h4
  have lt4 : ∀ x ∈ p4, x.block < W.heap.size := by obtain ⟨m, hm⟩ := k4; exact DataW.trod_lt m _ _ _ hm
  have hb : Rows.uptoBulk d0 + 4 ≤ 1048576 ∧ Rows.uptoBulk d1 ≤ 1048576 := by
    simp only [List.append_nil] at hk
    have h : Rows.uptoBulkAll [d0, d1, d2, d3, d4] ≤ 1048576 := of_decide_eq_true hk
    simp only [Rows.uptoBulkAll] at h
    have := one_leB d1
    have := one_leB d2
    have := one_leB d3
    have := one_leB d4
    exact ⟨by omega, by omega⟩
  have o0 : ∃ (a : Option Addr) (c : Nat) (rs : List (List Val)), v0 = .slice a rs.length c ∧ RowsT W a rs ∧ (∀ r ∈ rs, r.length ≤ 1048576) ∧ rs.length + 1 ≤ Rows.uptoBulk d0 := by
    obtain ⟨a0, len, cap, rfl⟩ := okWide_slice Tryz.underlying22 (hval 0 22 v0 rfl rfl)
    obtain ⟨fuel, hf⟩ := h0
    have hf' : DataW.trod enc Tryz.prog W 0 (fun _ => true) true fuel 22 [.slice a0 len cap] = some (d0, p0) := by simpa [Value.cells] using hf
    exact open_rowsB (by show Rows.uptoBulk d0 ≤ _; omega) hf'
  obtain ⟨aR, cR, rs, rfl, hR, hRl, hRn⟩ := o0
  have o1 : ∃ (a : Option Addr) (c : Nat) (ks : List (Int × Bool)), v1 = .slice a ks.length c ∧ KeysAt W a ks ∧ (∀ x ∈ ks, In64 x.1) ∧ ks.length + 1 ≤ Rows.uptoBulk d1 := by
    obtain ⟨a0, len, cap, rfl⟩ := okWide_slice Tryz.underlying23 (hval 1 23 v1 rfl rfl)
    obtain ⟨fuel, hf⟩ := h1
    have hf' : DataW.trod enc Tryz.prog W 0 (fun _ => true) true fuel 23 [.slice a0 len cap] = some (d1, p1) := by simpa [Value.cells] using hf
    obtain ⟨a, c, xs, q1, _, q2, q3, q4⟩ := open_keysB hf'
    exact ⟨a, c, xs, q1, q2, q3, q4⟩
  obtain ⟨aK, cK, ks, rfl, hK, hKx, hKn⟩ := o1
  have oi : ∀ (v : Value) (d : DataW H) (p : List MemPlace), DataW.Trod enc Tryz.prog W 0 (fun _ => true) true 3 v d p → Value.okWide Tryz.prog W .any base 3 v → ∃ n : Int, v = .int .i64 n ∧ In64 n := fun v d p h hv => by
    obtain ⟨n, rfl⟩ := okWide_int Tryz.underlying3 hv
    obtain ⟨fuel, hf⟩ := h
    have hf' : DataW.trod enc Tryz.prog W 0 (fun _ => true) true fuel 3 [.int .i64 n] = some (d, p) := by simpa [Value.cells] using hf
    obtain ⟨x, e, _, wx⟩ := DataW.trod_int Tryz.underlying3 hf'
    simp only [List.cons.injEq, and_true, Value.int.injEq, true_and] at e
    subst e
    exact ⟨n, rfl, in64_of wx⟩
  obtain ⟨bu, rfl, hbu⟩ := oi v2 d2 p2 h2 (hval 2 3 v2 rfl rfl)
  obtain ⟨re, rfl, hre⟩ := oi v3 d3 p3 h3 (hval 3 3 v3 rfl rfl)
  obtain ⟨wy, rfl, hwy⟩ := oi v4 d4 p4 h4 (hval 4 3 v4 rfl rfl)
  clear hA0
  refine (law_ss rs ks aR aK cR cK bu re wy W (by omega) hRl hR (by omega) hK (fun x hx => by obtain ⟨z, hz, rfl⟩ := List.mem_map.1 hx; exact hKx z hz) hbu hwy).mono fun r W' ⟨hr, bel⟩ => ?_
  subst hr
  exact ⟨_, rfl, _, _, _, [], _, [], hW', trodAll_mk1 (shut_bool Tryz.underlying4 _), (trodAll_cons_mk (Below.trod laidT (by kernel_rfl) (of_decide_eq_true (by kernel_rfl)) k0 bel lt0) (trodAll_cons_mk (Below.trod laidT (by kernel_rfl) (of_decide_eq_true (by kernel_rfl)) k1 bel lt1) (trodAll_cons_mk (Below.trod laidT (by kernel_rfl) (of_decide_eq_true (by kernel_rfl)) k2 bel lt2) (trodAll_cons_mk (Below.trod laidT (by kernel_rfl) (of_decide_eq_true (by kernel_rfl)) k3 bel lt3) (trodAll_cons_mk (Below.trod laidT (by kernel_rfl) (of_decide_eq_true (by kernel_rfl)) k4 bel lt4) trodAll_mk0))))), rfl, bel.frame _, fun h => by cases h⟩

set_option maxRecDepth 100000 in
theorem ss_lifted (os : Os) (started : os.Started) (H : Type) (enc : TypeId × Value → H) (F : Stop.Interp) :
    ReturnsInHanded {} Tryz.checked os 3 .any ((Rows.OpenSpec.upto Rows.spillSortsSpec).pre6 enc Tryz.prog Tryz.f3 Rows.spillSortsUptoRow.domain false) (((Rows.OpenSpec.upto Rows.spillSortsSpec).at F).post enc Tryz.prog Tryz.f3 false true false false) := by
  refine returnsInHanded_of_cond (C := Tryz.checked) (s := Rows.OpenSpec.upto Rows.spillSortsSpec) (k := Rows.uptoSmall) rfl ownT started (by kernel_rfl) Tryz.func3
    (OpenSpec.witness (enc := enc) (C := Tryz.checked) (s := Rows.OpenSpec.upto Rows.spillSortsSpec) (k := Rows.uptoSmall) rfl false ⟨#[], #[.slice none 0 0, .slice none 0 0, .int .i64 0, .int .i64 0, .int .i64 0], []⟩ 8 (by kernel_rfl) (by kernel_rfl) (by kernel_rfl)
      (x := ([.nil, .nil, .lit (.int .i64 0), .lit (.int .i64 0), .lit (.int .i64 0)], [], [])) (by kernel_rfl) rfl (by kernel_rfl)) ?_
  intro W base args ds gs before hval hW _ hk _
  exact ss_contract H enc W base args ds gs before hval hW hk

set_option maxRecDepth 100000 in
theorem ss_holds : Rows.SpillSortsUptoSaid :=
  OpenClaim.holds_of_cond 3 Tryz.f3 rfl rfl rfl rfl rfl rfl rfl ⟨rfl, rfl, rfl, rfl, rfl⟩ rfl rfl rfl rfl rfl (by kernel_rfl) Tryz.func3 (by kernel_rfl)
    (of_decide_eq_true (by kernel_rfl)) (by unfold Func.isWrapper; first | (rw [if_pos (by decide +kernel)]; kernel_rfl) | (rw [if_neg (by decide +kernel)]; exact ⟨rfl, rfl⟩))
    (fun os started H enc _ F => ss_lifted os started H enc F)
#print axioms ss_holds
end Go.Proofs.YtcbenpodohjbiaaGreat

import Derived.Test.YtcbenpodohjbiaaGreatOnN
import Derived.Test.YtcbenpodohjbiaaGreatOnM
import Derived.Test.YtcbenpodohjbiaaGreatSqZ
import Derived.Test.YtcbenpodohjbiaaGreatSrB
import Derived.Test.YtcbenpodohjbiaaGreatSqN
import Derived.Test.YtcbenpodohjbiaaGreatSqI
import Derived.Test.YtcbenpodohjbiaaGreatSqE
import Derived.Test.YtcbenpodohjbiaaGreatRows
import Derived.ProofKit
import Derived.OpenShut
import Derived.Lib.SmallJoins
import Derived.ChangeOld
import Derived.Deep.Slices
import Derived.Deep.Strs
import Derived.JoinedCond
import Derived.SizedLaws
set_option linter.unusedSimpArgs false
set_option linter.unusedVariables false
set_option maxRecDepth 100000
namespace Go.Proofs.YtcbenpodohjbiaaGreat
open Go.RowKit Go.Sort

/-- All came out, in order. -/
structure SrtOk1 (k : Nat) (rs : List (List Val)) (Y0 Y' : Yv) : Prop where
  rd : Y'.rd = false
  held : Y'.held = 0
  out : ∃ O : List (List Val), Y'.out = Y0.out ++ O ∧ (∀ x, x ∈ O ↔ x ∈ rs.map cleanR) ∧ Rs O
  puts : Y'.puts ≤ ((rs.length * k : Nat) : Int)
/-- A call was refused. -/
structure SrtNo1 (rs : List (List Val)) (Y0 Y' : Yv) : Prop where
  rd : Y'.rd = true
  calls : Y'.calls = Y'.rf
  out : ∃ O R : List (List Val), Y'.out = Y0.out ++ O ∧ (∀ x, (x ∈ O ∨ x ∈ R) ↔ x ∈ rs.map cleanR) ∧ Rs O ∧ ∀ x ∈ O, ∀ z ∈ R, rowsV x z < 0
/-- What sort answers. -/
structure SortQ1 (n0 : Nat) (w : World) (b y m : Nat) (BU k : Nat) (rs : List (List Val)) (Y0 : Yv) (c : Int) (Y' : Yv) (F' : Nat → Prop) (w' : World) : Prop where
  yw : Yw w' b y m Y' none F'
  lim : ∀ j, F' j → n0 ≤ j
  bel : Below n0 w w'
  rl : Y'.runs.length ≤ 1000000
  most : Y'.most ≤ BU
  rf : Y'.rf = Y0.rf
  is : (c = 0 ∧ SrtOk1 k rs Y0 Y') ∨ (c = Y0.cd ∧ Y0.cd ≠ 0 ∧ SrtNo1 rs Y0 Y')
def SortO (n0 : Nat) (w : World) (b y m : Nat) (BU k : Nat) (rs : List (List Val)) (Y0 : Yv) (e : Ending) (w' : World) : Prop := ∃ (c : Int) (Y' : Yv) (F' : Nat → Prop), e = .returned (.int .i64 c) ∧ SortQ1 n0 w b y m BU k rs Y0 c Y' F' w'

set_option maxHeartbeats 8000000 in
/-- sort (21). -/
theorem sort_once {F : Nat → Prop} {w0 : Bs} {n0 : Nat} {w : World} {b y m q B s : Nat} {BU k : Nat} {aR : Option Addr} {cR : Nat} {rs : List (List Val)} {Y0 : Yv} (hb1 : 4 ≤ BU) (hb2 : BU ≤ 65536) (hn : rs.length ≤ 1048572) (hrl : ∀ r ∈ rs, r.length ≤ 1048576) (hI : w0.Rows aR rs) (hF0 : ∀ j, F j → w0.No j) (hF : ∀ j, F j → n0 ≤ j) (hsF : ¬ F s) (hs0 : w0.No s) (hsn : n0 ≤ s) (hw0 : n0 ≤ w.heap.size) (hsy : s ≠ y)
    (hsafe : Y0.cd ≠ 0 ∨ rs.length < BU) (h0 : GI1 w0 w w b y m q B s BU aR cR rs Y0 F 0 (.slice none 0 0) [] Y0 [] [] 0 F) (hout : Y0.out = []) (hk : rs.length ≤ (BU - 1) ^ (k + 1)) (hk2 : k ≤ 20) :
    Calls Tryz.prog 21 #[.pointer (some ⟨q, 0, none⟩), .iface 66 (.pointer (some ⟨s, 0, none⟩)), .iface 65 (.agg #[.pointer (some ⟨y, 0, none⟩), .iface 24 (.pointer (some ⟨b, 0, none⟩))])] w fun e w' => SortO n0 w b y m BU k rs Y0 e w' := by
  have HC := hide (gather_once hb1 hb2 (by omega) hrl hI hF0 hsF hs0 hsy hsafe h0)
  have HFs : Hid (∀ j, F j ∨ j = s → n0 ≤ j) := fun j e => by rcases e with e | e; exact hF j e; omega
  have HF := hide hF
  have HSF := hide hsafe
  have HK := hide hk
  have HOUT := hide hout
  clear h0 hI hrl hF hF0 hsafe hk hout
  go_enter Tryz.func21, Tryz.ntmps21
  go_upto_region 2 with (first | (go_at_call 38; refine (unhide HC).mono ?_; rintro _ w1 ⟨v1, c1, Y1, ids1, F1, rfl, nw1, mo1, sw1, ky1, hc1⟩; have HNW1 := hide nw1; have HSW1 := hide sw1; have HKY1 := hide ky1; have HC1 := hide hc1; clear nw1 mo1 sw1 ky1 hc1))
  have hb01 : Below n0 w w1 := (unhide HKY1).below (unhide HFs) hw0
  have hF1 : ∀ j, F1 j → n0 ≤ j := fun j e => by
    rcases unhide HNW1 j e with r | r
    · exact unhide HF j r
    · omega
  have HB01 := hide hb01
  have HF1 := hide hF1
  have s1 := hb01.size
  clear hb01 hF1
  rcases unhide HC1 with ⟨rfl, hand, ms1, hw1, p1, p2, p3, p4, p5⟩ | ⟨rfl, p1, p2, p3, p4, p5, p6, p7, p8⟩
  · have hcnt := p3.count
    have hlt := p3.lt
    have hhd := p3.held
    obtain ⟨q1, q2, F0, vS, q3, q4, q5, q6, q7, q8, q9⟩ := unhide HSW1
    obtain ⟨aS, cS, eS⟩ := own_form q8
    have c4 := q7.c4
    rw [eS] at c4
    obtain ⟨N, hN⟩ : ∃ N, ids1.length = N := ⟨_, rfl⟩
    have hidl : ids1.length = Y1.runs.length := by rw [p3.eids, List.length_range]
    rw [hN] at c4
    have HN := hide hN
    by_cases hN0 : N = 0
    · have i0 : ((N : Int) == 0) = true := by simpa using hN0
      have i0' : (N : Int) = 0 := by omega
      have hr0 : Y1.runs = [] := List.eq_nil_of_length_eq_zero (by omega)
      have hpm : ∀ x, x ∈ hand ↔ x ∈ rs.map cleanR := fun x => by
        have := p3.mem x
        rw [hr0, List.take_length] at this
        simpa using this
      have hhl : hand.length ≤ rs.length := by have := p3.hl; omega
      have hHd := handOn_any (S := none) q6 p1 (fun g e z => p2 g e (q3 g z)) (by omega) ⟨p3.rd, by omega, by omega, p3.hm, by rw [hr0]; simp, fun _ => by rw [p3.out, unhide HOUT]; simp; omega, fun i e => (by cases e)⟩ (p5.less (by omega))
      obtain ⟨av, cv, ev⟩ := p1.form
      subst ev
      change Calls Tryz.prog 39 #[.slice av hand.length cv, .iface 65 (.agg #[.pointer (some ⟨y, 0, none⟩), .iface 24 (.pointer (some ⟨b, 0, none⟩))])] w1 _ at hHd
      have HHD := hide hHd
      have HPM := hide hpm
      have HP3 := hide p3
      have HP4 := hide p4
      have HR0 := hide hr0
      have HFF : Hid (∀ j, F0 j → n0 ≤ j) := fun j e => unhide HF1 j (q3 j e)
      clear hHd hpm p1 p2 p3 p4 p5 hr0 q3 q5 q6 q7 q8 q9 HC1 hcnt hlt hhd hidl eS hN hhl hN0 i0'
      go_wp2_with (first | (go_at_call 39; refine (unhide HHD).mono ?_; rintro _ w2 ⟨Y2, c2, rfl, hY2, hc2⟩; have HY2 := hide hY2; have HC2 := hide hc2; clear hY2 hc2))
      go_ret
      obtain ⟨F2, n2, m2, y2, k2⟩ := unhide HY2
      have hb12 : Below n0 w1 w2 := k2.below (unhide HFF) (by omega)
      refine ⟨c2, Y2, F2, rfl, y2, fun j e => ?_, (unhide HB01).trans hb12, ?_, ?_, ?_, ?_⟩
      · rcases n2 j e with r | r
        · exact unhide HFF j r
        · omega
      · rcases unhide HC2 with ⟨_, p, _⟩ | ⟨_, _, _, _, p, _⟩
        · rw [(p.o rfl).2.1, unhide HR0]; simp
        · rw [(p.o rfl).2.1, unhide HR0]; simp
      · rcases unhide HC2 with ⟨_, p, _⟩ | ⟨_, _, _, _, p, _⟩
        · rw [p.most]; exact (unhide HP3).most
        · rw [p.most]; exact (unhide HP3).most
      · rcases unhide HC2 with ⟨_, p, _⟩ | ⟨_, _, _, _, p, _⟩
        · rw [p.rf]; exact (unhide HP3).rf
        · rw [p.rf]; exact (unhide HP3).rf
      · rcases unhide HC2 with ⟨rfl, p, p'⟩ | ⟨rfl, p0, kk, pk, p, p1', p2'⟩
        · left
          obtain ⟨o1, o2, o3⟩ := p.o rfl
          refine ⟨rfl, p'.rd, by rw [p.held, (unhide HP3).held]; omega, ⟨hand, by rw [o1, (unhide HP3).out], unhide HPM, unhide HP4⟩, ?_⟩
          rw [o3, (unhide HP3).puts, unhide HR0]
          simp
          exact Int.natCast_nonneg _
        · right
          obtain ⟨o1, o2, o3⟩ := p.o rfl
          have hsp := unhide HP4
          rw [← List.take_append_drop kk hand] at hsp
          replace hsp := rs_of_app hsp
          refine ⟨(unhide HP3).cd, by rw [← (unhide HP3).cd]; exact p0, p1', p2', hand.take kk, hand.drop kk, by rw [o1, (unhide HP3).out], fun x => by rw [← List.mem_append, List.take_append_drop]; exact unhide HPM x, hsp.1, fun x hx z hz => hsp.2.2 x hx z hz⟩
    · have i0' : ¬ (N : Int) = 0 := by omega
      have i0 : ((N : Int) == 0) = false := by simpa using i0'
      have hcd : Y0.cd ≠ 0 := by
        rcases unhide HSF with r | r
        · exact r
        · exfalso
          have : 1 * BU ≤ Y1.runs.length * BU := Nat.mul_le_mul_right _ (by omega)
          omega
      have h4 : Y1.runs.length * 4 ≤ Y1.runs.length * BU := Nat.mul_le_mul_left _ hb1
      have hhl := p3.hl
      have hLR := layRest_any (unhide HSW1) p1 p2 (by omega) p3.rd (by rw [p3.cd]; exact hcd) (by omega) (by omega) p3.hm (by omega) (by omega) (by omega) (by rw [p3.puts]; omega) (by rw [p3.puts]; omega)
      obtain ⟨av, cv, ev⟩ := p1.form
      subst ev
      have HLR := hide hLR
      have HP3 := hide p3
      have HP4 := hide p4
      have hcd' : (Y0.cd != 0) = true := by simpa using hcd
      have hcd1 : (Y1.cd != 0) = true := by rw [p3.cd]; exact hcd'
      have HIDL : Hid (0 < ids1.length) := by show _ < _; omega
      have HRL : Hid (Y1.runs.length ≤ 500000) := by show _ ≤ _; omega
      clear hLR p1 p2 p3 p4 p5 q3 q5 q6 q7 q8 q9 HC1 hcnt hlt hhd hidl eS hN hhl h4
      go_upto_region 7 with (first | (go_at_call 40; refine (unhide HLR).mono ?_; rintro _ w2 ⟨Y2, ids2, c2, rfl, hS2, hc2⟩; have HS2 := hide hS2; have HC2 := hide hc2; clear hS2 hc2))
      obtain ⟨F2, nw2, mo2, sw2, ky2⟩ := unhide HS2
      have hb12 : Below n0 w1 w2 := ky2.below (unhide HF1) (by omega)
      have hF2 : ∀ j, F2 j → n0 ≤ j := fun j e => by
        rcases nw2 j e with r | r
        · exact unhide HF1 j r
        · omega
      have s2 := hb12.size
      have HB12 := hide hb12
      have HF2 := hide hF2
      have HSW2 := hide sw2
      clear hb12 hF2 nw2 mo2 ky2
      rcases unhide HC2 with ⟨rfl, p1⟩ | ⟨rfl, p1⟩
      · obtain ⟨⟨ms2, hQI⟩, hil2⟩ := Q1.start (unhide HP3) (unhide HP4) hb1 (unhide HIDL) (unhide HK) p1
        obtain ⟨q1, q2, F0, vS, q3, q4, q5, q6, q7, q8, q9⟩ := sw2
        obtain ⟨g, cap, hT⟩ := OwnN.t q8 hil2
        have hSI : SI1 w2 w2 b y m q B BU k (rs.map cleanR) rs.length (rs.length / 2 + 2) Y0 (fun j => n0 ≤ j) Y2 vS ids2 (List.replicate ids2.length 1) ms2 F0 := ⟨⟨q6, q7, q4, q9, g, 0, cap, hT, (q5 g (by rw [hT.e]; rfl)).2⟩, hQI, fun j e => .inl (unhide HF2 j (q3 j e)), Ky.refl _ _, fun j e => .inl (unhide HF2 j (q5 j e).1)⟩
        have hMS := mergeSomeO hSI (unhide HF2 q q2) hb1 hb2 hk2 (by omega) (by omega) (by rw [unhide HOUT]; simp; omega) hcd
        have HMS := hide hMS
        clear hMS hSI hT q1 q2 q3 q4 q5 q6 q7 q8 q9 hQI hil2 p1 HC2
        go_upto_region 10 with (first | (go_at_call 41; refine (unhide HMS).mono ?_; rintro _ w3 ⟨c3, Y3, F3, rfl, hc3⟩; have HC3 := hide hc3; clear hc3))
        rcases unhide HC3 with ⟨rfl, vS3, ids3, labs3, ms3, hSI, hi3⟩ | ⟨rfl, hRf, y3, nw3, ky3⟩
        · obtain ⟨g, off, cap, hT, hgF⟩ := hSI.ss.own
          have hMg := mergeO_none (c := cap) (mrgO_none hSI.qi hT hSI.ss.yw hSI.ss.qx hSI.ss.nq hSI.ss.ord hgF hi3 hb2 hk2 (by omega) (by omega) (by rw [unhide HOUT]; simp; omega) hcd hb1)
          have d4 := hSI.ss.qx.c4
          rw [hT.e] at d4
          have HMG := hide hMg
          have HSI := hide hSI
          obtain ⟨N3, hN3⟩ : ∃ N3, ids3.length = N3 := ⟨_, rfl⟩
          rw [hN3] at d4 HMG
          have hF3 : ∀ j, F3 j → n0 ≤ j := fun j e => by
            rcases hSI.nw j e with r | r
            · exact r
            · omega
          have hb23 : Below n0 w2 w3 := hSI.ky.below (fun _ e => e) (by omega)
          have HF3 := hide hF3
          have HB23 := hide hb23
          have s3 := hb23.size
          clear hMg hSI hT hgF hN3 hF3 hb23 HC3
          go_wp2_with (first | (go_at_call 42; refine (unhide HMG).mono ?_; rintro _ w4 ⟨Y4, c4, rfl, hY4, hc4⟩; have HY4 := hide hY4; have HC4 := hide hc4; clear hY4 hc4))
          go_ret
          obtain ⟨F4, n4, m4, y4, k4⟩ := unhide HY4
          have hb34 : Below n0 w3 w4 := k4.below (unhide HF3) (by omega)
          have qi := (unhide HSI).qi
          have hpu := qi.puts hb1
          have hrl3 := qi.rl
          refine ⟨c4, Y4, F4, rfl, y4, fun j e => ?_, (((unhide HB01).trans (unhide HB12)).trans (unhide HB23)).trans hb34, ?_, ?_, ?_, ?_⟩
          · rcases n4 j e with r | r
            · exact unhide HF3 j r
            · omega
          · rcases unhide HC4 with ⟨_, O, p⟩ | ⟨_, p⟩
            · rw [p.len]; omega
            · rw [p.runs]; omega
          · rcases unhide HC4 with ⟨_, O, p⟩ | ⟨_, p⟩
            · exact p.most
            · exact p.most
          · rcases unhide HC4 with ⟨_, O, p⟩ | ⟨_, p⟩
            · exact p.rf.trans qi.rf
            · exact p.rf.trans qi.rf
          · rcases unhide HC4 with ⟨rfl, O, p⟩ | ⟨rfl, p⟩
            · left
              obtain ⟨o2, o1, _⟩ := p.done
              obtain ⟨o3, o4⟩ := p.o rfl
              exact ⟨rfl, p.rd, by have := p.held; simpa using this, ⟨O, by rw [o3, qi.out], fun x => (o1 x).trans (qi.mem x), o2⟩, by rw [o4]; exact hpu⟩
            · right
              obtain ⟨O, R, o1, o2, o3, o4, _⟩ := p.out
              exact ⟨qi.cd, hcd, p.rd, p.calls, O, R, by rw [o1, qi.out], fun x => (o2 x).trans (qi.mem x), o3, o4⟩
        · have HRf := hide hRf
          have HY3 := hide y3
          have HNW3 := hide nw3
          have HKY3 := hide ky3
          clear hRf y3 nw3 ky3 HC3
          go_wp2
          go_ret
          have hb23 : Below n0 w2 w3 := (unhide HKY3).below (fun _ e => e) (by omega)
          have r := unhide HRf
          refine ⟨Y0.cd, Y3, F3, rfl, unhide HY3, fun j e => ?_, ((unhide HB01).trans (unhide HB12)).trans hb23, by have := r.runs; omega, r.most, r.rf, .inr ⟨rfl, hcd, r.rd, r.calls, [], rs.map cleanR, by rw [r.out, List.append_nil], by simp, by simp [Rs], by simp⟩⟩
          rcases unhide HNW3 j e with q | q
          · exact q
          · omega
      · have HP1 := hide p1
        clear p1 HC2 sw2
        go_wp2
        go_ret
        have r := unhide HP1
        have p := unhide HP3
        obtain ⟨q1, q2, F0, vS, q3, q4, q5, q6, q7, q8, q9⟩ := unhide HSW2
        refine ⟨Y1.cd, Y2, F0, rfl, q6, fun j e => unhide HF2 j (q3 j e), (unhide HB01).trans (unhide HB12), by have := r.runs; have := unhide HRL; omega, by rw [r.most]; exact p.most, r.rf.trans p.rf, .inr ⟨p.cd, hcd, r.rd, r.calls, [], rs.map cleanR, by rw [r.out, p.out, List.append_nil], by simp, by simp [Rs], by simp⟩⟩
  · have hcd' : (Y0.cd != 0) = true := by simpa using p1
    have HP := hide (And.intro p1 (And.intro p2 (And.intro p3 (And.intro p4 (And.intro p5 (And.intro p6 (And.intro p7 p8)))))))
    clear p1 p2 p3 p4 p5 p6 p7 p8 HC1
    go_wp2
    go_ret
    obtain ⟨p1, p2, p3, p4, p5, p6, p7, p8⟩ := unhide HP
    obtain ⟨q1, q2, F0, vS, q3, q4, q5, q6, q7, q8, q9⟩ := unhide HSW1
    exact ⟨Y0.cd, Y1, F0, rfl, q6, fun j e => unhide HF1 j (q3 j e), unhide HB01, by omega, p7, p4, .inr ⟨rfl, p1, p2, p3, [], rs.map cleanR, by rw [p6, List.append_nil], by simp, by simp [Rs], by simp⟩⟩
end Go.Proofs.YtcbenpodohjbiaaGreat
set_option linter.unusedSimpArgs false
set_option linter.unusedVariables false
set_option maxRecDepth 100000
namespace Go.Proofs.YtcbenpodohjbiaaGreat
open Go.RowKit Go.Sort

/-- What Once answers. -/
def STopO (n0 : Nat) (w : World) (b : Nat) (bu : Int) (k : Nat) (rs : List (List Val)) (Y0 : Yv) (e : Ending) (w' : World) : Prop :=
  ∃ (c : Int) (Y' : Yv) (F' : Nat → Prop), e = .returned (.int .i64 c) ∧ Py w' b Y' none F' ∧ Below n0 w w' ∧
    ((okB [] bu = false ∧ c = 1 ∧ Y' = Y0) ∨ (okB [] bu = true ∧ (∀ t ∈ Y'.there, t = false) ∧ Y'.there.length ≤ 1000000 ∧ Y'.most ≤ bu ∧ Y'.rf = Y0.rf ∧ ((c = 0 ∧ SrtOk1 k rs Y0 Y') ∨ (c = Y0.cd ∧ Y0.cd ≠ 0 ∧ SrtNo1 rs Y0 Y'))))
theorem Lvd.ok1 {k : Nat} {rs : List (List Val)} {Y0 Y Y' : Yv} {ids : List Nat} (h : Lvd ids Y Y') (hs : SrtOk1 k rs Y0 Y) : SrtOk1 k rs Y0 Y' := by
  refine ⟨h.rd.trans hs.rd, h.held.trans hs.held, ?_, by rw [h.puts]; exact hs.puts⟩
  rw [h.out]; exact hs.out
theorem Lvd.no1 {rs : List (List Val)} {Y0 Y Y' : Yv} {ids : List Nat} (h : Lvd ids Y Y') (hs : SrtNo1 rs Y0 Y) : SrtNo1 rs Y0 Y' := by
  refine ⟨h.rd.trans hs.rd, by rw [h.calls, h.rf]; exact hs.calls, ?_⟩
  rw [h.out]; exact hs.out

set_option maxHeartbeats 8000000 in
/-- Once (13). -/
theorem Once_any {w0 : Bs} {n0 : Nat} {w : World} {b s : Nat} {bu : Int} {k : Nat} {aR : Option Addr} {cR : Nat} {rs : List (List Val)} {rf cd : Int} (hP : Py w b (Yv.new rf cd) none (fun j => j = b)) (hSt : Stm w0 w s b aR cR rs 0) (hI : w0.Rows aR rs) (hb0 : w0.No b) (hbn : n0 ≤ b) (hs0 : w0.No s) (hsn : n0 ≤ s) (hw0 : n0 ≤ w.heap.size) (hn : rs.length ≤ 1048572) (hrl : ∀ r ∈ rs, r.length ≤ 1048576)
    (hsafe : cd ≠ 0 ∨ (rf = 0 ∧ rs.length < 4)) (hk : okB [] bu = true → rs.length ≤ (bu.toNat - 1) ^ (k + 1)) (hk2 : k ≤ 20) :
    Calls Tryz.prog 13 #[.iface 66 (.pointer (some ⟨s, 0, none⟩)), .int .i64 bu, .iface 24 (.pointer (some ⟨b, 0, none⟩)), .iface 24 (.pointer (some ⟨b, 0, none⟩))] w fun e w' => STopO n0 w b bu k rs (Yv.new rf cd) e w' := by
  have hq1 : ∀ W : World, (binOp .eql 30 (.iface 66 (.pointer (some ⟨s, 0, none⟩))) .nilIface).run Tryz.prog W = .ok (.bool false) W := fun _ => by kernel_rfl
  have hC15 := fun W => work_any bu (some ⟨b, 0, none⟩) W
  by_cases hbu : (decide (4 ≤ bu) && decide (bu ≤ 65536)) = true
  · rw [hbu] at hC15
    · have hok : okB [] bu = true := by unfold okB; rw [hbu]; rfl
      have hkk := hk hok
      obtain ⟨BU, rfl⟩ : ∃ BU : Nat, bu = (BU : Int) := ⟨bu.toNat, by simp at hbu; omega⟩
      rw [Int.toNat_natCast] at hkk
      have hb4 : 4 ≤ BU := by simp at hbu; omega
      have hb6 : BU ≤ 65536 := by simp at hbu; omega
      have hbl : b < w.heap.size := by obtain ⟨_, _, _, _, _, hB, _⟩ := hP; exact hB.tg.lt
      have hsl : s < w.heap.size := hSt.tg.lt
      have hsb : s ≠ b := fun e => by subst e; obtain ⟨_, _, _, _, _, hB, _⟩ := hP; exact hSt.tg.ne hB.tg (by decide) rfl
      have HC15 := hide hC15
      have HP := hide hP
      have HST := hide hSt
      have HI := hide hI
      have HOK := hide hok
      have HKK := hide hkk
      have HRL := hide hrl
      have HSF := hide hsafe
      have hC17 := fun W => yardOf_any b W
      have hC18 := fun a n c W => inOrder_any a n c W
      have HC17 := hide hC17
      have HC18 := hide hC18
      clear hC15 hC17 hC18 hP hSt hI hok hkk hk hrl hsafe hbu
      go_enter Tryz.func13, Tryz.ntmps13
      go_upto_region 5 with (first
        | (go_at_call 15; refine (unhide HC15 _).mono ?_; rintro _ w9 ⟨rfl, hw9⟩; rw [hw9]; clear hw9)
        | (go_at_call 17; refine (unhide HC17 _).mono ?_; rintro _ w2 ⟨rfl, hy2, hb2, hs2⟩; have HY2 := hide hy2; have HB2 := hide hb2; have HS2 := hide hs2; clear hy2 hb2 hs2)
        | (go_at_call 18; refine (unhide HC18 _ _ _ _).mono ?_; rintro _ w4 ⟨rfl, hc4, ht4, hb4', hs4⟩; have HC4 := hide hc4; have HT4 := hide ht4; have HB4 := hide hb4'; have HS4 := hide hs4; clear hc4 ht4 hb4' hs4))
      obtain ⟨w5, hw5⟩ : ∃ w5, w4.alloc (.cells #[.pointer (some ⟨w.heap.size + 1, 0, none⟩), .func (.func 32) #[] #[.pointer (some ⟨w2.heap.size, 0, none⟩)], .bool true, .int .i64 (BU : Int), .slice none 0 0] 61) = w5 := ⟨_, rfl⟩
      have hb5 : Below w4.heap.size w4 w5 := by rw [← hw5]; exact below_alloc (Below.refl _ _) _
      have hs5 : w5.heap.size = w4.heap.size + 1 := by rw [← hw5]; simp
      have hs2 := unhide HS2
      have hs4 := unhide HS4
      have hb25 : Below w2.heap.size w2 w5 := below_step (unhide HB4) hb5
      have hbw2 : Below w.heap.size w w2 := unhide HB2
      have hbw5 : Below w.heap.size w w5 := below_step hbw2 hb25
      have hQx : Qx w5 w4.heap.size (w.heap.size + 1) w2.heap.size ((BU : Int), true) (.slice none 0 0) := by
        rw [← hw5]
        refine ⟨⟨_, _, heap_alloc_new _ _⟩, fun i => by simp [go_sem], ?_, ?_, ?_, ?_, ?_⟩ <;> simp [go_sem]
      have hOrd : OrdF w5 w2.heap.size [] := by
        have k45 : Ky (fun _ => False) w4 w5 := Ky.of_below hb5
        exact ⟨none, 0, k45.cell (unhide HC4) id, k45.tg (unhide HT4) id, .inl rfl, fun b' off e hne => absurd rfl hne, fun k hk => (by simp at hk), (by simp)⟩
      have hYw5 : Yw w5 b (w.heap.size + 1) w.heap.size (Yv.new rf cd) none (fun j => j = b ∨ j = w.heap.size) := by
        refine ⟨?_, .inr rfl, fun j => j = b, [], fun j e => .inl e, by omega, (unhide HP).later hbw5, (unhide HY2).ky (G := fun _ => False) (Ky.of_below hb25) id id, List.nodup_nil, fun i => by simp [Yv.new]⟩
        rintro (e | e) <;> omega
      obtain ⟨F5, hF5⟩ : ∃ F5 : Nat → Prop, F5 = fun j => (j = b ∨ j = w.heap.size) ∨ j = w4.heap.size := ⟨_, rfl⟩
      have hF5l : ∀ j, F5 j → n0 ≤ j ∧ j < w5.heap.size := by
        rw [hF5]
        rintro j ((e | e) | e) <;> omega
      have hF5o : ∀ j, F5 j → w0.No j := by
        rw [hF5]
        rintro j ((e | e) | e)
        · subst e; exact hb0
        · exact Bs.new (unhide HST).bl (by omega)
        · exact Bs.new (unhide HST).bl (by omega)
      have hF5s : ¬ F5 s := by
        rw [hF5]
        rintro ((e | e) | e)
        · exact hsb e
        · omega
        · omega
      have hF5y : ¬ F5 (w.heap.size + 1) := by
        rw [hF5]
        rintro ((e | e) | e) <;> omega
      have hSw5 : Sw w5 b (w.heap.size + 1) w.heap.size w4.heap.size w2.heap.size [] ((BU : Int), true) (Yv.new rf cd) none [] F5 := by
        refine ⟨hF5y, by rw [hF5]; exact .inr rfl, fun j => j = b ∨ j = w.heap.size, .slice none 0 0, fun j e => by rw [hF5]; exact .inl e, by rintro (e | e) <;> omega, fun g e => (by cases e), hYw5, hQx, World.ownsRow_nil _ _ _ _, hOrd⟩
      have hsafe5 : Safe (Yv.new rf cd) (rs.length - 0 + 1 + rs.length) := by
        rcases unhide HSF with r | r
        · exact .inl r
        · exact .inr ⟨r.1, Int.le_refl _, by show (0 : Int) + _ < _; omega⟩
      have hGI : GI1 w0 w5 w5 b (w.heap.size + 1) w.heap.size w4.heap.size w2.heap.size s BU aR cR rs (Yv.new rf cd) F5 0 (.slice none 0 0) [] (Yv.new rf cd) [] [] 0 F5 :=
        ⟨Nat.zero_le _, Nw.refl _ _, fun _ e => e, hSw5, Ky.refl _ _, Lst.nil _, fun g e => (by cases e), (unhide HST).later hbw5, Gth1.start rs BU rf cd hb4, hsafe5, fun j e => (hF5l j e).2⟩
      have HSO := hide (sort_once (k := k) hb4 hb6 hn (unhide HRL) (unhide HI) hF5o (fun j e => (hF5l j e).1) hF5s hs0 hsn (by omega) (by omega) (by rcases unhide HSF with r | r; exact .inl r; exact .inr (by omega)) hGI rfl (unhide HKK) hk2)
      have HBW5 := hide hbw5
      rw [hw5]
      clear hGI hsafe5 hSw5 hF5y hF5s hF5l hF5o hF5 hYw5 hOrd hQx hbw5 hbw2 hb25 hs2 hs4 hw5 hb5
      go_wp2_with (first
        | (go_at_call 21; refine (unhide HSO).mono ?_; rintro _ w6 ⟨c6, Y6, F6, rfl, hq6⟩; have HQ6 := hide hq6; have HLV := hide (leave_any c6 hq6.yw hq6.rl); clear hq6)
        | (go_at_call 20; refine (unhide HLV).mono ?_; rintro _ w7 ⟨Y7, rfl, hY7, ht7, ids7, hl7⟩; have HY7 := hide hY7; have HT7 := hide ht7; have HL7 := hide hl7; clear hY7 ht7 hl7))
      go_ret
      obtain ⟨F7, n7, m7, y7, k7⟩ := unhide HY7
      have q6 := unhide HQ6
      have l7 := unhide HL7
      have hbel7 : Below n0 w6 w7 := k7.below q6.lim (by have := q6.bel.size; have := (unhide HBW5).size; omega)
      have hb05 : Below n0 w w5 := (unhide HBW5).mono hw0
      have hlen6 := q6.yw.len
      have hrl6 := q6.rl
      obtain ⟨_, _, F70, _, _, _, hPy7, _⟩ := y7
      refine ⟨c6, Y7, F70, rfl, hPy7, (hb05.trans q6.bel).trans hbel7, .inr ⟨unhide HOK, unhide HT7, by rw [l7.len]; omega, by rw [l7.most]; exact q6.most, l7.rf.trans q6.rf, ?_⟩⟩
      rcases q6.is with ⟨r1, r2⟩ | ⟨r1, r2, r3⟩
      · exact .inl ⟨r1, l7.ok1 r2⟩
      · exact .inr ⟨r1, r2, l7.no1 r3⟩
  · have hbf : (decide (4 ≤ bu) && decide (bu ≤ 65536)) = false := by simpa using hbu
    rw [hbf] at hC15
    have HC15 := hide hC15
    have HP := hide hP
    have hok : okB [] bu = false := by unfold okB; rw [hbf]; simp
    have HOK := hide hok
    clear hC15 hP hSt hI hk hrl hsafe hbu hbf hok
    go_enter Tryz.func13, Tryz.ntmps13
    go_wp2_with (first
      | (go_at_call 15; refine (unhide HC15 _).mono ?_; rintro _ w9 ⟨rfl, hw9⟩; rw [hw9]; clear hw9))
    go_ret
    exact ⟨1, _, _, rfl, unhide HP, Below.refl _ _, .inl ⟨unhide HOK, rfl, rfl⟩⟩
end Go.Proofs.YtcbenpodohjbiaaGreat
set_option linter.unusedSimpArgs false
set_option linter.unusedVariables false
set_option maxRecDepth 100000
namespace Go.Proofs.YtcbenpodohjbiaaGreat
open Go.RowKit Go.Sort

/-- What OnceOf answers. -/
def OnceOfP (w : World) (bu : Int) (rs : List (List Val)) (e : Ending) (w' : World) : Prop := ∃ (v : Value) (f : Int) (W : List (List Val)), e = .returned (.tuple #[v, .int .i64 f]) ∧ Below w.heap.size w w' ∧ ((okB [] bu = false ∧ f = 1 ∧ v = .slice none 0 0) ∨ (okB [] bu = true ∧ f = 0 ∧ Lst w' v W ∧ Rs W ∧ (∀ x, x ∈ W ↔ x ∈ rs.map cleanR) ∧ W.length ≤ rs.length))
theorem onceP_len (rs : List (List Val)) : (onceP (sortedP rs)).length ≤ rs.length := by
  have h1 := once_len (sortedP rs) (sortedP rs).length
  have h2 : (sortedP rs).length = rs.length := by rw [(sortedP_perm rs).length_eq, List.length_map]
  unfold onceP
  omega
set_option maxHeartbeats 4000000 in
/-- The document's OnceOf (14). -/
theorem onceOf_any (rs : List (List Val)) (aR : Option Addr) (cR : Nat) (bu : Int) (w : World) (hn : rs.length ≤ 1048576) (hr : ∀ r ∈ rs, r.length ≤ 1048576) (ha : RowsT w aR rs) :
    Calls Tryz.prog 14 #[.slice aR rs.length cR, .int .i64 bu] w fun e w' => OnceOfP w bu rs e w' := by
  have hC23 := fun W => budgetOK_any bu W
  have HC31 : Hid (Calls Tryz.prog 31 #[.slice aR rs.length cR] w fun e w' => ∃ v, e = .returned v ∧ Below w.heap.size w w' ∧ ∃ W, Lst w' v W ∧ Rs W ∧ (∀ x, x ∈ W ↔ x ∈ rs.map cleanR) ∧ W.length ≤ rs.length) := by
    refine (ronce_any rs aR cR w hn hr ha).mono ?_
    rintro _ w' ⟨v, L, rfl, q1, q2, q3, q4⟩
    obtain ⟨s1, s2⟩ := once_spec rs
    have hl := ownR_lst q1 q3 (fun x hx => by
      have hm : x.r ∈ L.map El.r := List.mem_map.2 ⟨x, hx, rfl⟩
      rw [q2] at hm
      obtain ⟨z, hz, ez⟩ := List.mem_map.1 ((s2 _).1 hm)
      rw [← ez, cleanR, List.length_map]
      exact hr z hz)
    rw [q2] at hl
    exact ⟨v, rfl, q4, _, hl, s1, s2, onceP_len rs⟩
  by_cases hbu : (decide (4 ≤ bu) && decide (bu ≤ 65536)) = true
  · rw [hbu] at hC23
    have hok : okB [] bu = true := by unfold okB; rw [hbu]; rfl
    have HOK := hide hok
    have HC23 := hide hC23
    clear hC23 hok hbu hr ha hn
    go_enter Tryz.func14, Tryz.ntmps14
    go_wp2_with (first
      | (go_at_call 23; refine (unhide HC23 _).mono ?_; rintro _ w9 ⟨rfl, hw9⟩; rw [hw9]; clear hw9)
      | (go_at_call 31; refine (unhide HC31).mono ?_; rintro _ w1 ⟨v1, rfl, hb1, h1⟩; have HB1 := hide hb1; have H1 := hide h1; clear hb1 h1))
    obtain ⟨W, h1⟩ := unhide H1
    exact bodyPost_ret (v := .tuple #[v1, .int .i64 0]) (by simp [results, Tryz.results14, go_sem]) rfl ⟨v1, 0, W, rfl, unhide HB1, .inr ⟨unhide HOK, rfl, h1⟩⟩
  · have hbf : (decide (4 ≤ bu) && decide (bu ≤ 65536)) = false := by simpa using hbu
    rw [hbf] at hC23
    have hok : okB [] bu = false := by unfold okB; rw [hbf]; simp
    have HOK := hide hok
    have HC23 := hide hC23
    clear hC23 hok hbu hbf hr ha hn
    go_enter Tryz.func14, Tryz.ntmps14
    go_wp2_with (first
      | (go_at_call 23; refine (unhide HC23 _).mono ?_; rintro _ w9 ⟨rfl, hw9⟩; rw [hw9]; clear hw9))
    exact bodyPost_ret (v := .tuple #[.slice none 0 0, .int .i64 1]) (by simp [results, Tryz.results14, go_sem]) rfl ⟨.slice none 0 0, 1, [], rfl, Below.refl _ _, .inl ⟨unhide HOK, rfl, rfl⟩⟩
end Go.Proofs.YtcbenpodohjbiaaGreat
set_option linter.unusedSimpArgs false
set_option linter.unusedVariables false
set_option maxRecDepth 100000
namespace Go.Proofs.YtcbenpodohjbiaaGreat
open Go.RowKit Go.Sort

theorem least_k {d n : Nat} : ∀ (j : Nat), n ≤ d ^ (j + 1) → ∃ k, k ≤ j ∧ n ≤ d ^ (k + 1) ∧ (k = 0 ∨ d ^ k < n)
  | 0, h => ⟨0, Nat.le_refl _, h, .inl rfl⟩
  | j + 1, h => by
    by_cases h2 : d ^ (j + 1) < n
    · exact ⟨j + 1, Nat.le_refl _, h, .inr h2⟩
    · obtain ⟨k, k1, k2⟩ := least_k (d := d) (n := n) j (by omega)
      exact ⟨k, by omega, k2⟩
theorem some_k {d n : Nat} (hd : 3 ≤ d) (hn : n ≤ 1048576) : ∃ k, k ≤ 20 ∧ n ≤ d ^ (k + 1) ∧ (k = 0 ∨ d ^ k < n) := by
  refine least_k (d := d) (n := n) 20 ?_
  show n ≤ d ^ 21
  have h1 : 3 ^ 21 ≤ d ^ 21 := Nat.pow_le_pow_left hd _
  have e : (3 : Nat) ^ 21 = 10460353203 := by decide
  omega
theorem one_k {d n k k' : Nat} (hd : 3 ≤ d) (h1 : n ≤ d ^ (k + 1)) (h2 : k = 0 ∨ d ^ k < n) (h3 : n ≤ d ^ (k' + 1)) (h4 : k' = 0 ∨ d ^ k' < n) : k = k' := by
  rcases Nat.lt_trichotomy k k' with q | q | q
  · have : d ^ (k + 1) ≤ d ^ k' := Nat.pow_le_pow_right (by omega) (by omega)
    omega
  · exact q
  · have : d ^ (k' + 1) ≤ d ^ k := Nat.pow_le_pow_right (by omega) (by omega)
    omega
/-- What came in is not changed. -/
theorem rows_base {w : World} {aR : Option Addr} {rs : List (List Val)} (h : RowsT w aR rs) : (Bs.mk w (fun k => k < w.heap.size)).Rows aR rs := by
  by_cases hn : rs = []
  · exact .inl hn
  rcases h with h | ⟨b, off, e, h⟩
  · exact .inl h
  · obtain ⟨r0, hr0⟩ : ∃ r0, rs[0]? = some r0 := by
      cases rs with
      | nil => exact absurd rfl hn
      | cons r0 rs => exact ⟨r0, rfl⟩
    obtain ⟨_, _, c0, _⟩ := h 0 r0 hr0
    refine .inr ⟨b, off, e, World.block_lt_of_cell? _ _ c0, fun i r hr => ?_⟩
    obtain ⟨ra, rc, c0, hra⟩ := h i r hr
    exact ⟨ra, rc, c0, hra, fun b' off' e hne => by subst e; exact hra.blk hne⟩
theorem bel_base {w w' : World} (h : Below w.heap.size w w') : (Bs.mk w (fun k => k < w.heap.size)).Bel w' := ⟨h.size, fun k hx => ⟨hx, h.block k hx⟩⟩
theorem max4 (bu : Int) : max bu 4 = if 4 ≤ bu then bu else 4 := by
  split <;> omega
/-- ended, of what Sort and SortOf have answered. -/
theorem ended_any {w3 w4 : World} {b : Nat} {ks : List (Int × Bool)} {bu : Int} {k : Nat} {rs : List (List Val)} {re wy c f : Int} {Y' : Yv} {F' : Nat → Prop} {v : Value} {W : List (List Val)} (hn : rs.length ≤ 1048571) (hP : Py w4 b Y' none F') (hwy : -9223372036854775808 ≤ wy ∧ wy ≤ 9223372036854775807)
    (hc : (okB ks bu = false ∧ c = 1 ∧ Y' = Yv.new re (codeV wy)) ∨ (okB ks bu = true ∧ (∀ t ∈ Y'.there, t = false) ∧ Y'.there.length ≤ 1000000 ∧ Y'.most ≤ bu ∧ Y'.rf = (Yv.new re (codeV wy)).rf ∧ ((c = 0 ∧ SrtOk ks k rs (Yv.new re (codeV wy)) Y') ∨ (c = (Yv.new re (codeV wy)).cd ∧ (Yv.new re (codeV wy)).cd ≠ 0 ∧ SrtNo ks rs (Yv.new re (codeV wy)) Y'))))
    (hs : (okB ks bu = false ∧ f = 1 ∧ v = .slice none 0 0) ∨ (okB ks bu = true ∧ f = 0 ∧ Lst w4 v W ∧ W.Perm (rs.map cleanR) ∧ W.Pairwise (fun x y => ordG ks x y ≤ 0))) :
    Calls Tryz.prog 10 #[.pointer (some ⟨b, 0, none⟩), .int .i64 c, v, .int .i64 f, .int .i64 bu, .int .i64 ((rs.length * k : Nat) : Int), .int .i64 re, .int .i64 wy] w4 fun e w' => e = .returned (.bool true) ∧ Below w4.heap.size w4 w' := by
  rcases hc with ⟨ho, rfl, rfl⟩ | ⟨ho, t1, t2, t3, t4, hc⟩
  · rcases hs with ⟨_, rfl, rfl⟩ | ⟨ho', _⟩
    · exact ended_bad hP rfl _ _ _ _ _
    · rw [ho] at ho'; cases ho'
  · rcases hs with ⟨ho', _⟩ | ⟨_, rfl, hL, hpm, hst⟩
    · rw [ho] at ho'; cases ho'
    · have hWl : W.length = rs.length := by rw [hpm.length_eq, List.length_map]
      have hcl : ∀ x ∈ W, cleanR x = x := fun x hx => by
        obtain ⟨z, _, rfl⟩ := List.mem_map.1 (hpm.mem_iff.1 hx)
        exact cleanR_clean z
      rcases hc with ⟨rfl, h⟩ | ⟨rfl, _, h⟩
      · obtain ⟨O, o1, o2, o3⟩ := h.out
        have hOW : O = W := (srt_eq hst o3 (hpm.trans o2.symm) hcl).symm
        have hout : Y'.out = W := by rw [o1, hOW]; rfl
        rw [← hout] at hL hWl
        exact ended_ok hP hL (by omega) h.rd t1 t2 bu _ re wy t3 h.held h.puts (Int.natCast_nonneg _)
      · obtain ⟨O, R, o1, o2, o3, o4⟩ := h.out
        obtain ⟨p1, p2⟩ := pre_of o2 o3 o4 hpm hst hcl
        have hout : Y'.out = O := by rw [o1]; rfl
        rw [← hout] at p1 p2
        have := ended_no hP hL p1 p2 (by omega) h.rd t1 t2 bu ((rs.length * k : Nat) : Int) wy t3 h.calls hwy
        rw [t4] at this
        exact this
set_option maxHeartbeats 8000000 in
/-- SpillSorts (3). -/
theorem law_ss (rs : List (List Val)) (ks : List (Int × Bool)) (aR aK : Option Addr) (cR cK : Nat) (bu re wy : Int) (w : World) (hn : rs.length ≤ 1048571) (hr : ∀ r ∈ rs, r.length ≤ 1048576) (ha : RowsT w aR rs) (hkl : ks.length ≤ 1048576) (hK : KeysAt w aK ks) (hkx : ∀ x ∈ ks.map Prod.fst, In64 x) (hbu : In64 bu) (hwy : In64 wy) :
    Calls Tryz.prog 3 #[.slice aR rs.length cR, .slice aK ks.length cK, .int .i64 bu, .int .i64 re, .int .i64 wy] w fun e w' => e = .returned (.bool true) ∧ Below w.heap.size w w' := by
  have hwy' : -9223372036854775808 ≤ wy ∧ wy ≤ 9223372036854775807 := ⟨by have := hwy.1; omega, by have := hwy.2; omega⟩
  obtain ⟨d, hd3, hdm, hdb⟩ : ∃ d : Nat, 3 ≤ d ∧ max bu 4 = (d : Int) + 1 ∧ (okB ks bu = true → bu.toNat - 1 = d) := by
    refine ⟨(max bu 4 - 1).toNat, by omega, by omega, fun h => ?_⟩
    unfold okB at h
    simp at h
    omega
  obtain ⟨k, hk20, hk1, hk2⟩ := some_k (n := rs.length) hd3 (by omega)
  have hd2 : (d : Int) + 1 ≤ 9223372036854775807 := by have := hbu.2; omega
  have hcd : codeV wy ≠ 0 := by have := codeV_ne wy; omega
  have HC6 := hide (fun (W : World) => code_any wy W hwy')
  have HC5 := hide (fun (W : World) => pnew_any re (codeV wy) W)
  have HC8 : Hid (∀ w1, Below w.heap.size w w1 → Calls Tryz.prog 8 #[.pointer (some ⟨w.heap.size, 0, none⟩), .slice aR rs.length cR] w1 fun e w' => e = .returned (.iface 66 (.pointer (some ⟨w1.heap.size, 0, none⟩))) ∧ Below w1.heap.size w1 w' ∧ Stm (Bs.mk w (fun k => k < w.heap.size)) w' w1.heap.size w.heap.size aR cR rs 0 ∧ w'.heap.size = w1.heap.size + 1) := fun w1 hb => stream_any w.heap.size aR cR rs _ w1 (bel_base hb)
  have HC7 : Hid (∀ w1 w2, Below w.heap.size w w1 → w1.heap.size = w.heap.size + 1 → Below w1.heap.size w1 w2 → Py w2 w.heap.size (Yv.new re (codeV wy)) none (fun j => j = w.heap.size) → Stm (Bs.mk w (fun k => k < w.heap.size)) w2 w1.heap.size w.heap.size aR cR rs 0 → Calls Tryz.prog 7 #[.iface 66 (.pointer (some ⟨w1.heap.size, 0, none⟩)), .slice aK ks.length cK, .int .i64 bu, .iface 24 (.pointer (some ⟨w.heap.size, 0, none⟩)), .iface 24 (.pointer (some ⟨w.heap.size, 0, none⟩))] w2 fun e w' => STopP w.heap.size w2 w.heap.size ks bu k rs (Yv.new re (codeV wy)) e w') := fun w1 w2 q1 q2 q3 q4 q5 =>
    Sort_any q4 q5 (rows_base ha) (fun hx => by have : w.heap.size < w.heap.size := hx; omega) (Nat.le_refl _) (fun hx => by have : w1.heap.size < w.heap.size := hx; omega) (by omega) (by have := q3.size; omega) hn hr ((hK.later q1).later q3) hkl hkx (.inl hcd) (fun h => by rw [hdb h]; exact hk1) hk20
  have HC9 : Hid (∀ w3, Below w.heap.size w w3 → Calls Tryz.prog 9 #[.slice aR rs.length cR, .slice aK ks.length cK, .int .i64 bu] w3 fun e w' => SortOfP w3 ks bu rs e w') := fun w3 q => sortOf_any rs ks aR aK cR cK bu w3 (by omega) hr (ha.later q) hkl (hK.later q)
  have HC11 : Hid (∀ W, Calls Tryz.prog 11 #[.int .i64 (rs.length : Int), .int .i64 ((d : Int) + 1)] W fun e w' => e = .returned (.int .i64 ((rs.length * k : Nat) : Int)) ∧ w' = W) := fun W => by
    refine (putsOf_any rs.length d W (by omega) hd3 hd2).mono ?_
    rintro _ w' ⟨⟨k', rfl, q1, q2, q3⟩, q4⟩
    rw [one_k hd3 hk1 hk2 q1 q3]
    exact ⟨rfl, q4⟩
  have HC12 := hide alive_any
  have HN := hide hn
  have HWY := hide hwy'
  clear ha hr hK hkx hkl hk1 hk2 hd2 hdb hwy hwy' hcd hbu
  go_enter Tryz.func3, Tryz.ntmps3
  go_upto_region 4 with (first
    | (go_at_call 6; refine (unhide HC6 _).mono ?_; rintro _ w9 ⟨rfl, hw9⟩; rw [hw9]; clear hw9)
    | (go_at_call 5; refine (unhide HC5 _).mono ?_; rintro _ w1 ⟨rfl, hb1, hP1, hs1⟩; have HS8 := hide (unhide HC8 w1 hb1); have HB1 := hide hb1; have HP1 := hide hP1; have HS1 := hide hs1; clear hb1 hP1 hs1)
    | (go_at_call 8; refine (unhide HS8).mono ?_; rintro _ w2 ⟨rfl, hb2, hSt2, hs2⟩; have HS7 := hide (unhide HC7 w1 w2 (unhide HB1) (unhide HS1) hb2 ((unhide HP1).later hb2) hSt2); have HB2 := hide hb2; clear hb2 hSt2 hs2)
    | (go_at_call 7; refine (unhide HS7).mono ?_; rintro _ w3 ⟨c3, Y3, F3, rfl, hP3, hb3, hc3⟩; have hbw3 : Below w.heap.size w w3 := (below_step (unhide HB1) (unhide HB2)).trans hb3; have HS9 := hide (unhide HC9 w3 hbw3); have HBW3 := hide hbw3; have HP3 := hide hP3; have HC3 := hide hc3; clear hP3 hb3 hc3 hbw3)
    | (go_at_call 9; refine (unhide HS9).mono ?_; rintro _ w4 ⟨v4, f4, W4, rfl, hb4, hs4⟩; have HB4 := hide hb4; have HS4 := hide hs4; clear hb4 hs4))
  have HE := hide (ended_any (w3 := w3) (unhide HN) ((unhide HP3).later (unhide HB4)) (unhide HWY) (unhide HC3) (unhide HS4))
  go_wp2_with (first
    | (go_at_call 11; (try rw [hdm]); refine (unhide HC11 _).mono ?_; rintro _ w9 ⟨rfl, hw9⟩; rw [hw9]; clear hw9)
    | (go_at_call 10; refine (unhide HE).mono ?_; rintro _ w5 ⟨rfl, hb5⟩; have HB5 := hide hb5; clear hb5)
    | (go_at_call 12; refine (unhide HC12 _).mono ?_; rintro _ w6 ⟨rfl, hb6⟩; have HB6 := hide hb6; clear hb6))
  go_ret
  exact ⟨rfl, below_step (below_step (below_step (unhide HBW3) (unhide HB4)) (unhide HB5)) (unhide HB6)⟩
end Go.Proofs.YtcbenpodohjbiaaGreat
set_option linter.unusedSimpArgs false
set_option linter.unusedVariables false
set_option maxRecDepth 100000
namespace Go.Proofs.YtcbenpodohjbiaaGreat
open Go.RowKit Go.Sort

/-- ended, of what Once and OnceOf have answered. -/
theorem ended_once {w3 w4 : World} {b : Nat} {bu : Int} {k : Nat} {rs : List (List Val)} {re wy c f : Int} {Y' : Yv} {F' : Nat → Prop} {v : Value} {W : List (List Val)} (hn : rs.length ≤ 1048572) (hP : Py w4 b Y' none F') (hwy : -9223372036854775808 ≤ wy ∧ wy ≤ 9223372036854775807)
    (hc : (okB [] bu = false ∧ c = 1 ∧ Y' = Yv.new re (codeV wy)) ∨ (okB [] bu = true ∧ (∀ t ∈ Y'.there, t = false) ∧ Y'.there.length ≤ 1000000 ∧ Y'.most ≤ bu ∧ Y'.rf = (Yv.new re (codeV wy)).rf ∧ ((c = 0 ∧ SrtOk1 k rs (Yv.new re (codeV wy)) Y') ∨ (c = (Yv.new re (codeV wy)).cd ∧ (Yv.new re (codeV wy)).cd ≠ 0 ∧ SrtNo1 rs (Yv.new re (codeV wy)) Y'))))
    (hs : (okB [] bu = false ∧ f = 1 ∧ v = .slice none 0 0) ∨ (okB [] bu = true ∧ f = 0 ∧ Lst w4 v W ∧ Rs W ∧ (∀ x, x ∈ W ↔ x ∈ rs.map cleanR) ∧ W.length ≤ rs.length)) :
    Calls Tryz.prog 10 #[.pointer (some ⟨b, 0, none⟩), .int .i64 c, v, .int .i64 f, .int .i64 bu, .int .i64 ((rs.length * k : Nat) : Int), .int .i64 re, .int .i64 wy] w4 fun e w' => e = .returned (.bool true) ∧ Below w4.heap.size w4 w' := by
  rcases hc with ⟨ho, rfl, rfl⟩ | ⟨ho, t1, t2, t3, t4, hc⟩
  · rcases hs with ⟨_, rfl, rfl⟩ | ⟨ho', _⟩
    · exact ended_bad hP rfl _ _ _ _ _
    · rw [ho] at ho'; cases ho'
  · rcases hs with ⟨ho', _⟩ | ⟨_, rfl, hL, hst, hpm, hWl⟩
    · rw [ho] at ho'; cases ho'
    · rcases hc with ⟨rfl, h⟩ | ⟨rfl, _, h⟩
      · obtain ⟨O, o1, o2, o3⟩ := h.out
        have hOW : O = W := strict_eq o3 hst fun x => (o2 x).trans (hpm x).symm
        have hout : Y'.out = W := by rw [o1, hOW]; rfl
        rw [← hout] at hL hWl
        exact ended_ok hP hL (by omega) h.rd t1 t2 bu _ re wy t3 h.held h.puts (Int.natCast_nonneg _)
      · obtain ⟨O, R, o1, o2, o3, o4⟩ := h.out
        obtain ⟨p1, p2⟩ := pre_once o3 o4 hst fun x => (hpm x).trans (o2 x).symm
        have hout : Y'.out = O := by rw [o1]; rfl
        rw [← hout] at p1 p2
        have := ended_no hP hL p1 p2 (by omega) h.rd t1 t2 bu ((rs.length * k : Nat) : Int) wy t3 h.calls hwy
        rw [t4] at this
        exact this
set_option maxHeartbeats 8000000 in
/-- SpillOnce (4). -/
theorem law_so (rs : List (List Val)) (aR : Option Addr) (cR : Nat) (bu re wy : Int) (w : World) (hn : rs.length ≤ 1048572) (hr : ∀ r ∈ rs, r.length ≤ 1048576) (ha : RowsT w aR rs) (hbu : In64 bu) (hwy : In64 wy) :
    Calls Tryz.prog 4 #[.slice aR rs.length cR, .int .i64 bu, .int .i64 re, .int .i64 wy] w fun e w' => e = .returned (.bool true) ∧ Below w.heap.size w w' := by
  have hwy' : -9223372036854775808 ≤ wy ∧ wy ≤ 9223372036854775807 := ⟨by have := hwy.1; omega, by have := hwy.2; omega⟩
  obtain ⟨d, hd3, hdm, hdb⟩ : ∃ d : Nat, 3 ≤ d ∧ max bu 4 = (d : Int) + 1 ∧ (okB [] bu = true → bu.toNat - 1 = d) := by
    refine ⟨(max bu 4 - 1).toNat, by omega, by omega, fun h => ?_⟩
    unfold okB at h
    simp at h
    omega
  obtain ⟨k, hk20, hk1, hk2⟩ := some_k (n := rs.length) hd3 (by omega)
  have hd2 : (d : Int) + 1 ≤ 9223372036854775807 := by have := hbu.2; omega
  have hcd : codeV wy ≠ 0 := by have := codeV_ne wy; omega
  have HC6 := hide (fun (W : World) => code_any wy W hwy')
  have HC5 := hide (fun (W : World) => pnew_any re (codeV wy) W)
  have HC8 : Hid (∀ w1, Below w.heap.size w w1 → Calls Tryz.prog 8 #[.pointer (some ⟨w.heap.size, 0, none⟩), .slice aR rs.length cR] w1 fun e w' => e = .returned (.iface 66 (.pointer (some ⟨w1.heap.size, 0, none⟩))) ∧ Below w1.heap.size w1 w' ∧ Stm (Bs.mk w (fun k => k < w.heap.size)) w' w1.heap.size w.heap.size aR cR rs 0 ∧ w'.heap.size = w1.heap.size + 1) := fun w1 hb => stream_any w.heap.size aR cR rs _ w1 (bel_base hb)
  have HC7 : Hid (∀ w1 w2, Below w.heap.size w w1 → w1.heap.size = w.heap.size + 1 → Below w1.heap.size w1 w2 → Py w2 w.heap.size (Yv.new re (codeV wy)) none (fun j => j = w.heap.size) → Stm (Bs.mk w (fun k => k < w.heap.size)) w2 w1.heap.size w.heap.size aR cR rs 0 → Calls Tryz.prog 13 #[.iface 66 (.pointer (some ⟨w1.heap.size, 0, none⟩)), .int .i64 bu, .iface 24 (.pointer (some ⟨w.heap.size, 0, none⟩)), .iface 24 (.pointer (some ⟨w.heap.size, 0, none⟩))] w2 fun e w' => STopO w.heap.size w2 w.heap.size bu k rs (Yv.new re (codeV wy)) e w') := fun w1 w2 q1 q2 q3 q4 q5 =>
    Once_any q4 q5 (rows_base ha) (fun hx => by have : w.heap.size < w.heap.size := hx; omega) (Nat.le_refl _) (fun hx => by have : w1.heap.size < w.heap.size := hx; omega) (by omega) (by have := q3.size; omega) hn hr (.inl hcd) (fun h => by rw [hdb h]; exact hk1) hk20
  have HC9 : Hid (∀ w3, Below w.heap.size w w3 → Calls Tryz.prog 14 #[.slice aR rs.length cR, .int .i64 bu] w3 fun e w' => OnceOfP w3 bu rs e w') := fun w3 q => onceOf_any rs aR cR bu w3 (by omega) hr (ha.later q)
  have HC11 : Hid (∀ W, Calls Tryz.prog 11 #[.int .i64 (rs.length : Int), .int .i64 ((d : Int) + 1)] W fun e w' => e = .returned (.int .i64 ((rs.length * k : Nat) : Int)) ∧ w' = W) := fun W => by
    refine (putsOf_any rs.length d W (by omega) hd3 hd2).mono ?_
    rintro _ w' ⟨⟨k', rfl, q1, q2, q3⟩, q4⟩
    rw [one_k hd3 hk1 hk2 q1 q3]
    exact ⟨rfl, q4⟩
  have HC12 := hide alive_any
  have HN := hide hn
  have HWY := hide hwy'
  clear ha hr hk1 hk2 hd2 hdb hwy hwy' hcd hbu
  go_enter Tryz.func4, Tryz.ntmps4
  go_upto_region 4 with (first
    | (go_at_call 6; refine (unhide HC6 _).mono ?_; rintro _ w9 ⟨rfl, hw9⟩; rw [hw9]; clear hw9)
    | (go_at_call 5; refine (unhide HC5 _).mono ?_; rintro _ w1 ⟨rfl, hb1, hP1, hs1⟩; have HS8 := hide (unhide HC8 w1 hb1); have HB1 := hide hb1; have HP1 := hide hP1; have HS1 := hide hs1; clear hb1 hP1 hs1)
    | (go_at_call 8; refine (unhide HS8).mono ?_; rintro _ w2 ⟨rfl, hb2, hSt2, hs2⟩; have HS7 := hide (unhide HC7 w1 w2 (unhide HB1) (unhide HS1) hb2 ((unhide HP1).later hb2) hSt2); have HB2 := hide hb2; clear hb2 hSt2 hs2)
    | (go_at_call 13; refine (unhide HS7).mono ?_; rintro _ w3 ⟨c3, Y3, F3, rfl, hP3, hb3, hc3⟩; have hbw3 : Below w.heap.size w w3 := (below_step (unhide HB1) (unhide HB2)).trans hb3; have HS9 := hide (unhide HC9 w3 hbw3); have HBW3 := hide hbw3; have HP3 := hide hP3; have HC3 := hide hc3; clear hP3 hb3 hc3 hbw3)
    | (go_at_call 14; refine (unhide HS9).mono ?_; rintro _ w4 ⟨v4, f4, W4, rfl, hb4, hs4⟩; have HB4 := hide hb4; have HS4 := hide hs4; clear hb4 hs4))
  have HE := hide (ended_once (w3 := w3) (unhide HN) ((unhide HP3).later (unhide HB4)) (unhide HWY) (unhide HC3) (unhide HS4))
  go_wp2_with (first
    | (go_at_call 11; (try rw [hdm]); refine (unhide HC11 _).mono ?_; rintro _ w9 ⟨rfl, hw9⟩; rw [hw9]; clear hw9)
    | (go_at_call 10; refine (unhide HE).mono ?_; rintro _ w5 ⟨rfl, hb5⟩; have HB5 := hide hb5; clear hb5)
    | (go_at_call 12; refine (unhide HC12 _).mono ?_; rintro _ w6 ⟨rfl, hb6⟩; have HB6 := hide hb6; clear hb6))
  go_ret
  exact ⟨rfl, below_step (below_step (below_step (unhide HBW3) (unhide HB4)) (unhide HB5)) (unhide HB6)⟩
end Go.Proofs.YtcbenpodohjbiaaGreat
set_option linter.unusedSimpArgs false
set_option linter.unusedVariables false
namespace Go.Proofs.YtcbenpodohjbiaaGreat
open Go.ChangeShapes Go.WideShapes Go.ChangeAt Go.RowKit Go.Joins Go.Deep

theorem ownT : ownKnob Tryz.prog.godebug = none := by kernel_rfl
theorem laidT : laidOutB Tryz.prog = true := by kernel_rfl
theorem in64_of {x : Int} (h : (Lit.int .i64 x).wf = true) : In64 x := by
  simp [Lit.wf, IntKind.min, IntKind.max, IntKind.signed, IntKind.bits] at h
  exact ⟨by omega, by omega⟩
theorem cells3 : Tryz.prog.cellsOf 3 = 1 := by kernel_rfl
theorem cells2 : Tryz.prog.cellsOf 2 = 1 := by kernel_rfl
theorem cells9 : Tryz.prog.cellsOf 9 = 1 := by kernel_rfl
theorem cellsB4 : Tryz.prog.cellsOf 4 = 1 := by kernel_rfl
theorem cellsV73 : Tryz.prog.cellsOf 73 = 3 := by kernel_rfl
theorem cellsR70 : Tryz.prog.cellsOf 70 = 1 := by kernel_rfl
theorem addr_lit (b o n : Nat) : (⟨b, o, none⟩ : Addr).add n = ⟨b, o + n, none⟩ := by
  by_cases h : n = 0 <;> simp [Addr.add, h]
theorem one_leB {H : Type} (d : DataW H) : 1 ≤ Rows.uptoBulk d := by
  cases d with
  | lit l => cases l <;> simp [Rows.uptoBulk]
  | nil => simp [Rows.uptoBulk]
  | ptr d => simp [Rows.uptoBulk]
  | slice elems spare => simp [Rows.uptoBulk]
  | agg parts => simp [Rows.uptoBulk]
  | iface t d => simp [Rows.uptoBulk]
  | map entries => simp [Rows.uptoBulk]
  | held h => simp [Rows.uptoBulk]
theorem length_leB {H : Type} : ∀ l : List (DataW H), l.length ≤ Rows.uptoBulkAll l
  | [] => Nat.zero_le _
  | d :: l => by
    have := length_leB l
    have := one_leB d
    rw [Rows.uptoBulkAll, List.length_cons]
    omega
theorem part_leB {H : Type} : ∀ {l : List (DataW H)} {d : DataW H}, d ∈ l → Rows.uptoBulk d ≤ Rows.uptoBulkAll l
  | x :: l, d, h => by
    rw [Rows.uptoBulkAll]
    rcases List.mem_cons.1 h with rfl | h
    · omega
    · have := part_leB h
      omega
section
variable {H : Type} {enc : TypeId × Value → H} {w : World} {base : Nat} {spare : Nat → Bool} {held : Bool}
/-- A list's elements lie side by side. -/
def LiesAt {α : Type} (w : World) (N : Nat) (cells : α → List Value) (a : Option Addr) (xs : List α) : Prop := xs = [] ∨ ∃ b off, a = some ⟨b, off, none⟩ ∧ ∀ (i : Nat) q, xs[i]? = some q → ∀ (j : Nat) v, (cells q)[j]? = some v → w.cell? ⟨b, off + i * N + j, none⟩ = some v
set_option maxRecDepth 100000 in
/-- A list that came in, laid open. -/
theorem open_list {α : Type} [Inhabited α] {t e fuel : Nat} {cv : Value} {y : DataW H × List MemPlace} (N : Nat) (hN : 0 < N) (cells : α → List Value) (Pr : α → Prop) (ht : Tryz.prog.underlying t = some (.slice e)) (hc : Tryz.prog.cellsOf e = N) (hcl : ∀ q, (cells q).length = N)
    (hE : ∀ n cs (y' : DataW H × List MemPlace), DataW.trod enc Tryz.prog w base spare held n e cs = some y' → SizeOf.sizeOf y'.1 < SizeOf.sizeOf y.1 → Rows.uptoBulk y'.1 ≤ Rows.uptoBulk y.1 → ∃ q, cs = cells q ∧ Pr q)
    (h : DataW.trod enc Tryz.prog w base spare held fuel t [cv] = some y) :
    ∃ (a : Option Addr) (cap : Nat) (xs : List α), cv = .slice a xs.length cap ∧ xs.length ≤ cap ∧ LiesAt w N cells a xs ∧ (∀ q ∈ xs, Pr q) ∧ xs.length + 1 ≤ Rows.uptoBulk y.1 := by
  rcases open_slice ht h with ⟨hcs, hx⟩ | ⟨a, len, cap, m, n, D, Pl, hcs, hb, hl, hm, hmm, hx, hel⟩
  · simp only [List.cons.injEq, and_true] at hcs
    subst hcs
    exact ⟨none, 0, [], rfl, Nat.le_refl _, .inl rfl, (fun q hq => by cases hq), one_leB _⟩
  · simp only [List.cons.injEq, and_true] at hcs
    subst hcs
    have hx1 : y.1 = .slice ((List.range len).map D) ((List.range (m - len)).map fun j => D (len + j)) := by rw [hx]
    have hlm : len ≤ m := by rw [hmm]; split <;> omega
    have hb3 : Rows.uptoBulk y.1 = Rows.uptoBulkAll ((List.range len).map D) + Rows.uptoBulkAll ((List.range (m - len)).map fun j => D (len + j)) + 1 := by rw [hx1, Rows.uptoBulk]
    have hel2 : ∀ i, i < len → ∃ q : α, w.cells? base (a.add (i * N)) N = some (cells q) ∧ Pr q := by
      intro i hi
      obtain ⟨cs', g1, g2⟩ := hel i (by omega)
      rw [hc] at g1
      have hmem : D i ∈ (List.range len).map D := List.mem_map.2 ⟨i, List.mem_range.2 hi, rfl⟩
      obtain ⟨q, rfl, hq⟩ := hE n cs' (D i, Pl i) g2 (by
        have s1 := List.sizeOf_lt_of_mem hmem
        rw [hx1]
        simp only [DataW.slice.sizeOf_spec]
        show SizeOf.sizeOf (D i) < _
        omega) (by
        have := part_leB hmem
        show Rows.uptoBulk (D i) ≤ _
        omega)
      exact ⟨q, g1, hq⟩
    obtain ⟨f, hfx⟩ := choose_lt (α := α) (n := len) hel2
    have hlen : ((List.range len).map f).length = len := by simp
    refine ⟨some a, cap, (List.range len).map f, by rw [hlen], by rw [hlen]; exact hl, ?_, ?_, ?_⟩
    · by_cases h0 : len = 0
      · left; subst h0; rfl
      · right
        obtain ⟨b, off, spot⟩ := a
        have hc0 := (World.cells?_some (hfx 0 (by omega)).1).2.2 0 hN
        obtain ⟨v0, hv0⟩ : ∃ v, (cells (f 0))[0]? = some v := ⟨_, List.getElem?_eq_getElem (by rw [hcl]; exact hN)⟩
        rw [hv0] at hc0
        have hspot : spot = none := by simpa [Addr.add] using World.cell?_spot hc0
        subst hspot
        refine ⟨b, off, rfl, fun i q hq j v hv => ?_⟩
        obtain ⟨hi, rfl⟩ := List.getElem?_eq_some_iff.1 hq
        have hi' : i < len := by simpa using hi
        simp only [List.getElem_map, List.getElem_range] at hv
        have hj : j < N := by have := (List.getElem?_eq_some_iff.1 hv).1; rw [hcl] at this; exact this
        have hcj := (World.cells?_some (hfx i hi').1).2.2 j hj
        rw [addr_lit, addr_lit, hv] at hcj
        exact hcj
    · intro q hq
      obtain ⟨i, hi, rfl⟩ := List.mem_map.1 hq
      exact (hfx i (by simpa using hi)).2
    · rw [hlen]
      have := length_leB ((List.range len).map D)
      rw [List.length_map, List.length_range] at this
      omega
set_option maxRecDepth 100000 in
theorem open_rowB {fuel : Nat} {cv : Value} {y : DataW H × List MemPlace} (h : DataW.trod enc Tryz.prog w base spare held fuel 70 [cv] = some y) : ∃ (a : Option Addr) (cap : Nat) (xs : List Val), cv = .slice a xs.length cap ∧ RowAt w a xs ∧ xs.length + 1 ≤ Rows.uptoBulk y.1 := by
  have inst : Inhabited Val := ⟨Val.null⟩
  obtain ⟨a, cap, xs, h1, h2, h3, h4, h5⟩ := open_list (α := Val) 3 (by decide) (fun x => [.int .i64 x.k, .int .i64 x.n, .string x.s]) (fun _ => True) Tryz.underlying70 cellsV73 (fun _ => rfl) (fun n cs y' g _ s2 => by
    obtain ⟨z0, z1, z2, n', hz, hl, g0, g1, g2⟩ := trod_struct3 Tryz.underlying73 g
    rw [cellsV73] at hl
    match cs, hl with
    | [c0, c1, c2], _ =>
      simp only [cells3, cells2, cells9, List.drop_zero, List.take_succ_cons, List.take_zero, List.drop_succ_cons] at g0 g1 g2
      obtain ⟨vk, e0, _, _⟩ := DataW.trod_int Tryz.underlying3 g0
      obtain ⟨vn, e1, _, _⟩ := DataW.trod_int Tryz.underlying2 g1
      obtain ⟨vs, e2, _, _⟩ := DataW.trod_string Tryz.underlying9 g2
      simp only [List.cons.injEq, and_true] at e0 e1 e2
      subst e0 e1 e2
      exact ⟨⟨vk, vn, vs⟩, rfl, trivial⟩) h
  refine ⟨a, cap, xs, h1, ?_, h5⟩
  rcases h3 with h3 | ⟨b, off, ha, h3⟩
  · exact .inl h3
  · exact .inr ⟨b, off, ha, fun i x hx => ⟨h3 i x hx 0 _ rfl, h3 i x hx 1 _ rfl, h3 i x hx 2 _ rfl⟩⟩
set_option maxRecDepth 100000 in
theorem open_rowsB {fuel : Nat} {cv : Value} {y : DataW H × List MemPlace} (hw : Rows.uptoBulk y.1 ≤ 1048576) (h : DataW.trod enc Tryz.prog w base spare held fuel 22 [cv] = some y) : ∃ (a : Option Addr) (cap : Nat) (rs : List (List Val)), cv = .slice a rs.length cap ∧ RowsT w a rs ∧ (∀ r ∈ rs, r.length ≤ 1048576) ∧ rs.length + 1 ≤ Rows.uptoBulk y.1 := by
  have inst : Inhabited (List Val × Option Addr × Nat) := ⟨([], none, 0)⟩
  obtain ⟨a, cap, xs, h1, h2, h3, h4, h5⟩ := open_list (α := List Val × Option Addr × Nat) 1 (by decide) (fun q => [.slice q.2.1 q.1.length q.2.2]) (fun q => RowAt w q.2.1 q.1 ∧ q.1.length ≤ 1048576) Tryz.underlying22 cellsR70 (fun _ => rfl) (fun n cs y' g _ s2 => by
    have hl : cs.length = 1 := by
      rcases open_slice Tryz.underlying70 g with ⟨hcs, _⟩ | ⟨_, _, _, _, _, _, _, hcs, _⟩ <;> rw [hcs] <;> rfl
    match cs, hl with
    | [c0], _ =>
      obtain ⟨ra, rc, r, rfl, q1, q2⟩ := open_rowB g
      exact ⟨(r, ra, rc), rfl, q1, by show r.length ≤ _; omega⟩) h
  refine ⟨a, cap, xs.map Prod.fst, by rw [h1]; simp, ?_, ?_, by simp; omega⟩
  · rcases h3 with rfl | ⟨b, off, ha, h3⟩
    · exact .inl rfl
    · refine .inr ⟨b, off, ha, fun i r hr => ?_⟩
      rw [List.getElem?_map] at hr
      obtain ⟨q, hq, rfl⟩ := Option.map_eq_some_iff.1 hr
      exact ⟨q.2.1, q.2.2, by have := h3 i q hq 0 _ rfl; simpa using this, (h4 q (List.mem_of_getElem? hq)).1⟩
  · intro r hr
    obtain ⟨q, hq, rfl⟩ := List.mem_map.1 hr
    exact (h4 q hq).2
end

set_option maxRecDepth 100000 in
theorem so_contract (H : Type) (enc : TypeId × Value → H) (W : World) (base : Nat) (args : Array Value) (ds gs : List (DataW H)) (before : List MemPlace)
    (hval : ∀ (j : Nat) t v, Tryz.f4.params[j]? = some t → args[j]? = some v → Value.okWide Tryz.prog W .any base t v)
    (hW : DataW.Whole enc Tryz.prog Tryz.f4.params.toList Rows.spillOnceSpec.vars false W args.toList ds gs before) (hk : Rows.uptoSmall H (ds ++ gs) = true) :
    Calls Tryz.prog 4 args W fun e W' => ∃ v, e = .returned v ∧ Rows.spillOnceSpec.post enc Tryz.prog Tryz.f4 false true false false W args v W' := by
  have hW' := hW
  obtain ⟨p, q, hA0, hV, rfl, hfz, hnd⟩ := hW
  have hA : DataW.TrodAll enc Tryz.prog W 0 (fun _ => true) true Tryz.f4.params.toList args.toList ds p := hA0
  rw [Tryz.params4] at hA hval
  obtain ⟨v0, vs0, d0, ds0, p0, q0, hargs, rfl, rfl, h0, r0⟩ := trodAll_cons hA
  obtain ⟨v1, vs1, d1, ds1, p1, q1, rfl, rfl, rfl, h1, r1⟩ := trodAll_cons r0
  obtain ⟨v2, vs2, d2, ds2, p2, q2, rfl, rfl, rfl, h2, r2⟩ := trodAll_cons r1
  obtain ⟨v3, vs3, d3, ds3, p3, q3, rfl, rfl, rfl, h3, r3⟩ := trodAll_cons r2
  obtain ⟨rfl, rfl, rfl⟩ := trodAll_nil r3
  obtain rfl : args = #[v0, v1, v2, v3] := by cases args; simp_all
  obtain ⟨rfl, rfl⟩ := trodVars_none hV
  have k0 := h0
  have lt0 : ∀ x ∈ p0, x.block < W.heap.size := by obtain ⟨m, hm⟩ := k0; exact DataW.trod_lt m _ _ _ hm
  have k1 := h1
  have lt1 : ∀ x ∈ p1, x.block < W.heap.size := by obtain ⟨m, hm⟩ := k1; exact DataW.trod_lt m _ _ _ hm
  have k2 := h2
  have lt2 : ∀ x ∈ p2, x.block < W.heap.size := by obtain ⟨m, hm⟩ := k2; exact DataW.trod_lt m _ _ _ hm
  have k3 := h3
  have lt3 : ∀ x ∈ p3, x.block < W.heap.size := by obtain ⟨m, hm⟩ := k3; exact DataW.trod_lt m _ _ _ hm
  have hb : Rows.uptoBulk d0 + 3 ≤ 1048576 := by
    simp only [List.append_nil] at hk
    have h : Rows.uptoBulkAll [d0, d1, d2, d3] ≤ 1048576 := of_decide_eq_true hk
    simp only [Rows.uptoBulkAll] at h
    have := one_leB d1
    have := one_leB d2
    have := one_leB d3
    omega
  have o0 : ∃ (a : Option Addr) (c : Nat) (rs : List (List Val)), v0 = .slice a rs.length c ∧ RowsT W a rs ∧ (∀ r ∈ rs, r.length ≤ 1048576) ∧ rs.length + 1 ≤ Rows.uptoBulk d0 := by
    obtain ⟨a0, len, cap, rfl⟩ := okWide_slice Tryz.underlying22 (hval 0 22 v0 rfl rfl)
    obtain ⟨fuel, hf⟩ := h0
    have hf' : DataW.trod enc Tryz.prog W 0 (fun _ => true) true fuel 22 [.slice a0 len cap] = some (d0, p0) := by simpa [Value.cells] using hf
    exact open_rowsB (by show Rows.uptoBulk d0 ≤ _; omega) hf'
  obtain ⟨aR, cR, rs, rfl, hR, hRl, hRn⟩ := o0
  have oi : ∀ (v : Value) (d : DataW H) (p : List MemPlace), DataW.Trod enc Tryz.prog W 0 (fun _ => true) true 3 v d p → Value.okWide Tryz.prog W .any base 3 v → ∃ n : Int, v = .int .i64 n ∧ In64 n := fun v d p h hv => by
    obtain ⟨n, rfl⟩ := okWide_int Tryz.underlying3 hv
    obtain ⟨fuel, hf⟩ := h
    have hf' : DataW.trod enc Tryz.prog W 0 (fun _ => true) true fuel 3 [.int .i64 n] = some (d, p) := by simpa [Value.cells] using hf
    obtain ⟨x, e, _, wx⟩ := DataW.trod_int Tryz.underlying3 hf'
    simp only [List.cons.injEq, and_true, Value.int.injEq, true_and] at e
    subst e
    exact ⟨n, rfl, in64_of wx⟩
  obtain ⟨bu, rfl, hbu⟩ := oi v1 d1 p1 h1 (hval 1 3 v1 rfl rfl)
  obtain ⟨re, rfl, hre⟩ := oi v2 d2 p2 h2 (hval 2 3 v2 rfl rfl)
  obtain ⟨wy, rfl, hwy⟩ := oi v3 d3 p3 h3 (hval 3 3 v3 rfl rfl)
  clear hA0
  refine (law_so rs aR cR bu re wy W (by omega) hRl hR hbu hwy).mono fun r W' ⟨hr, bel⟩ => ?_
  subst hr
  exact ⟨_, rfl, _, _, _, [], _, [], hW', trodAll_mk1 (shut_bool Tryz.underlying4 _), (trodAll_cons_mk (Below.trod laidT (by kernel_rfl) (of_decide_eq_true (by kernel_rfl)) k0 bel lt0) (trodAll_cons_mk (Below.trod laidT (by kernel_rfl) (of_decide_eq_true (by kernel_rfl)) k1 bel lt1) (trodAll_cons_mk (Below.trod laidT (by kernel_rfl) (of_decide_eq_true (by kernel_rfl)) k2 bel lt2) (trodAll_cons_mk (Below.trod laidT (by kernel_rfl) (of_decide_eq_true (by kernel_rfl)) k3 bel lt3) trodAll_mk0)))), rfl, bel.frame _, fun h => by cases h⟩

set_option maxRecDepth 100000 in
theorem so_lifted (os : Os) (started : os.Started) (H : Type) (enc : TypeId × Value → H) (F : Stop.Interp) :
    ReturnsInHanded {} Tryz.checked os 4 .any ((Rows.OpenSpec.upto Rows.spillOnceSpec).pre6 enc Tryz.prog Tryz.f4 Rows.spillOnceUptoRow.domain false) (((Rows.OpenSpec.upto Rows.spillOnceSpec).at F).post enc Tryz.prog Tryz.f4 false true false false) := by
  refine returnsInHanded_of_cond (C := Tryz.checked) (s := Rows.OpenSpec.upto Rows.spillOnceSpec) (k := Rows.uptoSmall) rfl ownT started (by kernel_rfl) Tryz.func4
    (OpenSpec.witness (enc := enc) (C := Tryz.checked) (s := Rows.OpenSpec.upto Rows.spillOnceSpec) (k := Rows.uptoSmall) rfl false ⟨#[], #[.slice none 0 0, .int .i64 0, .int .i64 0, .int .i64 0], []⟩ 8 (by kernel_rfl) (by kernel_rfl) (by kernel_rfl)
      (x := ([.nil, .lit (.int .i64 0), .lit (.int .i64 0), .lit (.int .i64 0)], [], [])) (by kernel_rfl) rfl (by kernel_rfl)) ?_
  intro W base args ds gs before hval hW _ hk _
  exact so_contract H enc W base args ds gs before hval hW hk

set_option maxRecDepth 100000 in
theorem so_holds : Rows.SpillOnceUptoSaid :=
  OpenClaim.holds_of_cond 4 Tryz.f4 rfl rfl rfl rfl rfl rfl rfl ⟨rfl, rfl, rfl, rfl, rfl⟩ rfl rfl rfl rfl rfl (by kernel_rfl) Tryz.func4 (by kernel_rfl)
    (of_decide_eq_true (by kernel_rfl)) (by unfold Func.isWrapper; first | (rw [if_pos (by decide +kernel)]; kernel_rfl) | (rw [if_neg (by decide +kernel)]; exact ⟨rfl, rfl⟩))
    (fun os started H enc _ F => so_lifted os started H enc F)
#print axioms so_holds
end Go.Proofs.YtcbenpodohjbiaaGreat

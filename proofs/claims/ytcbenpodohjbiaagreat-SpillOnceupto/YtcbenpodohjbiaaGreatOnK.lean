import Derived.Test.YtcbenpodohjbiaaGreatOnJ
import Derived.Test.YtcbenpodohjbiaaGreatSqN
import Derived.Test.YtcbenpodohjbiaaGreatSqV
set_option linter.unusedSimpArgs false
set_option linter.unusedVariables false
set_option maxRecDepth 100000
namespace Go.Proofs.YtcbenpodohjbiaaGreat
open Go.RowKit Go.Sort

/-- A sorter whose runs are to be merged, and its yard. -/
structure S1s (w : World) (b y m q B : Nat) (BU : Nat) (Y : Yv) (vS : Value) (ids : List Nat) (F : Nat → Prop) : Prop where
  yw : Yw w b y m Y none F
  qx : Qx w q y B ((BU : Int), true) vS
  nq : ¬ F q
  ord : OrdF w B []
  own : ∃ g off cap, OwnT w vS ids g off cap ∧ ¬ F g
/-- A round of mergeSome begins. -/
structure SI1 (w wr : World) (b y m q B : Nat) (BU k : Nat) (A : List (List Val)) (n C : Nat) (Y0 : Yv) (G : Nat → Prop) (Y : Yv) (vS : Value) (ids labs ms : List Nat) (F : Nat → Prop) : Prop where
  ss : S1s wr b y m q B BU Y vS ids F
  qi : Q1 BU k A n C Y0 Y ids labs ms
  nw : Nw G F w
  ky : Ky G w wr
  nv : ∀ g, vS.ownBlock = some g → G g ∨ w.heap.size ≤ g
/-- What mergeSome answers. -/
def SomeO (w : World) (b y m q B : Nat) (BU k : Nat) (A : List (List Val)) (n C : Nat) (Y0 : Yv) (G : Nat → Prop) (e : Ending) (w' : World) : Prop :=
  ∃ (c : Int) (Y' : Yv) (F' : Nat → Prop), e = .returned (.int .i64 c) ∧ ((c = 0 ∧ ∃ vS ids labs ms, SI1 w w' b y m q B BU k A n C Y0 G Y' vS ids labs ms F' ∧ ids.length + 1 ≤ BU) ∨ (c = Y0.cd ∧ Rfb BU C Y0 Y' ∧ Yw w' b y m Y' none F' ∧ Nw G F' w ∧ Ky G w w'))
/-- What merge is asked by mergeSome. -/
theorem mrgO_some {w : World} {b y m q B : Nat} {BU k : Nat} {A : List (List Val)} {n C : Nat} {Y0 Y : Yv} {vS : Value} {ids labs ms : List Nat} {F : Nat → Prop} {g off cap c : Nat} (hQ : Q1 BU k A n C Y0 Y ids labs ms) (hT : OwnT w vS ids g off cap) (hyw : Yw w b y m Y.tick.newRun (some Y.runs.length) F) (hqx : Qx w q y B ((BU : Int), true) vS) (nq : ¬ F q) (ord : OrdF w B []) (hgF : ¬ F g) (hlen : Y.there.length = Y.runs.length) (hit : Y.hit = false) (hc1 : c + 1 ≤ BU) (hb2 : BU ≤ 65536) (hk : k ≤ 20) (hC : C ≤ 1048576) (hi0 : 0 < ids.length) (hA : n ≤ 1048576) (hout : Y0.out.length + n ≤ 1048577) (hcd : Y0.cd ≠ 0) (hb1 : 4 ≤ BU) :
    MrgB w b y m q B (BU : Int) Y.tick.newRun (some Y.runs.length) (some Y.runs.length) (some ⟨g, off, none⟩) (ids.take c) vS BU F := by
  have hlt := hQ.lt
  have hmt : ∀ i ∈ ids.take c, i ∈ ids := fun i hi => List.mem_of_mem_take hi
  have hRt : Y.runs.length ∉ ids.take c := fun q => by have := hlt _ (hmt _ q); omega
  have htl : (ids.take c).length ≤ c := by rw [List.length_take]; omega
  have eT : rowsOf Y.tick.newRun.runs (ids.take c) = rowsOf Y.runs (ids.take c) := rowsOf_cong fun i hi => new_getD (hlt i (hmt i hi))
  have hrl := hQ.rl
  have hsum : (rowsOf Y.runs (ids.take c)).length ≤ n := by
    have e : rowsOf Y.runs ids = rowsOf Y.runs (ids.take c) ++ rowsOf Y.runs (ids.drop c) := by rw [← rowsOf_app, List.take_append_drop]
    have ht := hQ.tot
    rw [e, List.length_append] at ht
    omega
  have hp := hQ.puts hb1
  have hpk : n * k ≤ 1048576 * 20 := Nat.mul_le_mul hA hk
  refine ⟨hyw, hqx, nq, ord, hT.ids hgF c, hQ.nd.sublist (List.take_sublist _ _), by omega, hb2, ?_, hQ.held, hQ.m0, hQ.m1, hit, by show Y.cd ≠ 0; rw [hQ.cd]; exact hcd, fun i hi => ?_, fun i hi => ?_, fun i hi => ?_, fun i e => ?_, by rw [eT]; omega, ?_, hQ.p0, ?_⟩
  · show (Y.runs ++ [[]]).length ≤ _
    rw [List.length_append]; simp only [List.length_cons, List.length_nil]; omega
  · obtain ⟨t1, t2⟩ := hQ.th i (hmt i hi)
    have hil := hlt i (hmt i hi)
    refine ⟨?_, fun e => by injection e with e; omega, ?_⟩
    · show (Y.there ++ [true])[i]? = _
      rw [List.getElem?_append_left (by omega)]; exact t1
    · rw [new_get hil]; exact t2
  · rw [new_getD (hlt i (hmt i hi))]; exact hQ.srt i (hmt i hi)
  · rw [new_getD (hlt i (hmt i hi))]; exact hQ.cln i (hmt i hi)
  · injection e with e
    subst e
    refine ⟨rfl, hRt, ?_, ?_⟩
    · show (Y.runs ++ [[]])[Y.runs.length]? = _
      rw [List.getElem?_append_right (Nat.le_refl _), Nat.sub_self]; rfl
    · show (Y.there ++ [true])[Y.runs.length]? = _
      rw [← hlen, List.getElem?_append_right (Nat.le_refl _), Nat.sub_self]; rfl
  · rw [eT]
    show Y.out.length + _ ≤ _
    rw [hQ.out]; omega
  · rw [eT]
    show Y.puts + _ ≤ _
    omega
set_option maxHeartbeats 8000000 in
/-- mergeSome (41). -/
theorem mergeSomeO {w : World} {b y m q B : Nat} {BU k : Nat} {A : List (List Val)} {n C : Nat} {Y0 Y : Yv} {G : Nat → Prop} {vS : Value} {ids labs ms : List Nat} {F : Nat → Prop} (h : SI1 w w b y m q B BU k A n C Y0 G Y vS ids labs ms F) (hG : G q) (hb1 : 4 ≤ BU) (hb2 : BU ≤ 65536) (hk : k ≤ 20) (hC : C ≤ 1048576) (hA : n ≤ 1048576) (hout : Y0.out.length + n ≤ 1048577) (hcd : Y0.cd ≠ 0) :
    Calls Tryz.prog 41 #[.pointer (some ⟨q, 0, none⟩)] w fun e w' => SomeO w b y m q B BU k A n C Y0 G e w' := by
  obtain ⟨d, hd⟩ : ∃ d : Nat, BU = d + 2 := ⟨BU - 2, by omega⟩
  have hC64 : Calls Tryz.prog 64 #[.pointer (some ⟨q, 0, none⟩)] w fun e w' => e = .returned (.int .i64 ((d + 1 : Nat) : Int)) ∧ w' = w := by
    refine (mostAtOnce_any h.ss.qx (by omega) (by omega)).mono ?_
    rintro _ w' ⟨rfl, rfl⟩
    exact ⟨by rw [show (BU : Int) - 1 = ((d + 1 : Nat) : Int) by omega], rfl⟩
  have HC := hide hC64
  have H0 := hide h
  have HD := hide hd
  have hcd' : (Y0.cd != 0) = true := by simpa using hcd
  clear hC64 h hd
  obtain ⟨D, hD⟩ : ∃ D, d + 1 = D := ⟨_, rfl⟩
  rw [hD] at HC
  have HDD := hide hD
  clear hD
  go_enter Tryz.func41, Tryz.ntmps41
  go_upto_region 2 with (first | (go_at_call 64; refine (unhide HC).mono ?_; rintro _ w9 ⟨rfl, hw9⟩; rw [hw9]; clear hw9) | fail)
  go_loopw [2] (fun s2 wr => s2 = .int .i64 0 ∧ ∃ (Yk : Yv) (vS : Value) (ids labs ms : List Nat) (F1 : Nat → Prop), Hid (SI1 w wr b y m q B BU k A n C Y0 G Yk vS ids labs ms F1)) (fun _ wr => match wr.cell? ⟨q, 4, none⟩ with | some (.slice _ n _) => n | _ => 0)
  case atStart => exact ⟨rfl, Y, vS, ids, labs, ms, F, H0⟩
  case round =>
    obtain ⟨rfl, Yk, vS, ids, labs, ms, F1, HI⟩ := hrel
    have hI := unhide HI
    have hs := hI.ss
    have c4 := hs.qx.c4
    have c0 := hs.qx.c0
    obtain ⟨g, off, cap, hT, hgF⟩ := hs.own
    have hle := hT.le
    have eV := hT.e
    obtain ⟨N, hN⟩ : ∃ N, ids.length = N := ⟨_, rfl⟩
    rw [hN] at eV hle
    rw [eV] at c4
    have hDD := unhide HDD
    have hBU := unhide HD
    have hNC : N ≤ 1048576 := by have := hI.qi.rl; omega
    by_cases hlt : D < N
    · have i1 : (D : Int) < (N : Int) := by omega
      obtain ⟨n2, hn2⟩ : ∃ n2, N = n2 + 2 := ⟨N - 2, by omega⟩
      obtain ⟨r, hr⟩ : ∃ r, n2 % d = r := ⟨_, rfl⟩
      obtain ⟨c, hc⟩ : ∃ c, r + 2 = c := ⟨_, rfl⟩
      have hrd : r < d := by rw [← hr]; exact Nat.mod_lt _ (by omega)
      have hrn : r ≤ n2 := by rw [← hr]; exact Nat.mod_le _ _
      have e1 : IntKind.i64.wrap ((N : Int) - 2) = (n2 : Int) := by rw [IntWalk.i64_in _ (by omega)]; omega
      have e2 : IntKind.i64.wrap ((D : Int) - 1) = (d : Int) := by rw [IntWalk.i64_in _ (by omega)]; omega
      have e3 : IntKind.i64.wrap ((n2 : Int).tmod (d : Int)) = (r : Int) := by
        rw [show (n2 : Int).tmod (d : Int) = ((n2 % d : Nat) : Int) by rw [Int.tmod_eq_emod_of_nonneg (by omega)]; rfl, hr, IntWalk.i64_in _ (by omega)]
      have e3' : IntKind.i64.wrap ((n2 : Int) % (d : Int)) = (r : Int) := by
        rw [show (n2 : Int) % (d : Int) = ((n2 % d : Nat) : Int) by rfl, hr, IntWalk.i64_in _ (by omega)]
      have e4 : IntKind.i64.wrap ((r : Int) + 2) = (c : Int) := by rw [IntWalk.i64_in _ (by omega)]; omega
      have hd0 : ¬ (d : Int) = 0 := by omega
      have hd0' : ((d : Int) == 0) = false := by simpa using hd0
      have hcn : c ≤ N := by omega
      have hcB : c + 1 ≤ BU := by omega
      have hc2 : 2 ≤ c := by omega
      have hcnt : c = cntM (BU - 1) ids.length := by
        rw [hN, ← hc, ← hr]
        unfold cntM
        rw [show N - 2 = n2 by omega, show BU - 1 - 1 = d by omega]
      obtain ⟨R, hR⟩ : ∃ R, Yk.runs.length = R := ⟨_, rfl⟩
      have hrlt := hI.qi.lt
      have hRC : R + 2 ≤ 1048576 := by have := hI.qi.rl; omega
      have hlen := hs.yw.len
      have hcdk : Yk.cd ≠ 0 := by rw [hI.qi.cd]; exact hcd
      have e5 : (n2 : Int) % (d : Int) = (r : Int) := by
        rw [show (n2 : Int) % (d : Int) = ((n2 % d : Nat) : Int) by rfl, hr]
      have hcr : (r : Int) + 2 = (c : Int) := by omega
      have HCR := hide hcr
      have hr6 : r ≤ 65536 := by omega
      have hcc6 : c ≤ 65536 := by omega
      have hcB' := hide hcB
      have HN2 := hide hn2
      clear e3 e3' e4 hcr hn2
      have HCNT := hide hcnt
      have HN := hide hN
      have HR := hide hR
      have HT := hide hT
      have HGF := hide hgF
      have HLT := hide hlt
      have HLEN := hide hlen
      cases hit : Yk.hit
      · have HNew := hide (ynew_ok hs.yw hlen (by omega) hI.qi.rd hit)
        rw [hR] at HNew
        have HIT := hide hit
        clear hit hI hs hT hgF hcnt hN hR hlt hlen hr hc hrlt eV
        go_upto_region 3 with fail
        go_cut [4] (fun s4 wx => s4 = .int .i64 (c : Int) ∧ wr = wx)
        case first =>
          go_wp2
          go_meet
          refine ⟨?_, rfl⟩
          rw [← unhide HCR]
        case rest =>
        obtain ⟨rfl, rfl⟩ := hcut
        go_upto_region 5 with (first | (go_at_call 65; refine (unhide HNew).mono ?_; rintro _ w1 ⟨rfl, hY1⟩; have HY1 := hide hY1; clear hY1))
        obtain ⟨F2, nw2, m2, y2, k2⟩ := unhide HY1
        have hql : q < wr.heap.size := (unhide HI).ss.qx.tg.lt
        have hgl : g < wr.heap.size := (unhide HT).tg.lt
        have hbd : Below w1.heap.size w1 w1.drew := (Below.refl _ _).drew
        have kd : Ky (fun _ => False) w1 w1.drew := Ky.of_below hbd
        have nq2 : ¬ F2 q := fun e => by
          rcases nw2 q e with r | r
          · exact (unhide HI).ss.nq r
          · omega
        have ng2 : ¬ F2 g := fun e => by
          rcases nw2 g e with r | r
          · exact unhide HGF r
          · omega
        have q1 := (unhide HI).ss.qx.ky k2 (unhide HI).ss.nq
        have T1 := (unhide HT).ky k2 (unhide HGF)
        have hM := mergeO_some (c := cap) (mrgO_some (c := c) (unhide HI).qi (T1.ky kd id) (by rw [unhide HR]; exact y2.later hbd) (q1.ky kd id) nq2 (((unhide HI).ss.ord.ky k2).ky kd) ng2 (unhide HLEN) (unhide HIT) hcB hb2 hk hC (by have := unhide HN; omega) hA hout hcd hb1)
        rw [List.length_take, unhide HN, Nat.min_eq_left hcn, unhide HR] at hM
        have HM := hide hM
        have r4 := q1.c4
        have r0 := q1.c0
        rw [(unhide HT).e, unhide HN] at r4
        have hsl := fun W => slice_to59 g off N cap c W (by omega)
        have hcc : c ≤ cap := by omega
        have hcc' : (c : Int) ≤ (cap : Int) := by omega
        have HQ1 := hide q1
        have HT1 := hide T1
        have HN2 := hide nw2
        have HK2 := hide k2
        have HY2 := hide y2
        clear hM q1 T1 nw2 m2 y2 k2 
        go_upto_region 7 with fail
        go_cut [7] (fun s7 wx => ∃ (Y3 : Yv) (c3 : Int), s7 = .int .i64 c3 ∧ Hid (Yo w1.drew wx b y m Y3 (some R) F2 ∧ ((c3 = 0 ∧ ∃ O, M1 (ids.take c) (some R) BU Yk.tick.newRun Y3 [] O [] 0 true) ∨ (c3 = Yk.tick.newRun.cd ∧ Rf1 (ids.take c) (some R) BU Yk.tick.newRun Y3))))
        case first =>
          go_region_with (first | (go_at_call 42; refine (unhide HM).mono ?_; rintro _ w2 ⟨Y3, c3, rfl, hY3⟩))
          all_goals (go_wp2; go_meet; exact ⟨Y3, c3, rfl, hY3⟩)
        case rest =>
          obtain ⟨Y3, c3, rfl, HZ⟩ := hcut
          rename World => w2
          obtain ⟨hYo, hc3⟩ := unhide HZ
          obtain ⟨F3, nw3, m3, y3, k3⟩ := hYo
          have k23 : Ky F2 w1 w2 := (Ky.of_below hbd).trans k3 (Nw.refl _ _)
          have nw3' : Nw F2 F3 w1 := fun k hk => (nw3 k hk).imp id (fun q => by have := hbd.size; omega)
          have s12 := k23.size
          have swr := (unhide HK2).size
          have sw := (unhide HI).ky.size
          have hnwG : Nw G F3 w := ((unhide HI).nw.trans (unhide HN2) sw).trans nw3' (by omega)
          have hkG : Ky G w w2 := ((unhide HI).ky.trans (unhide HK2) (unhide HI).nw).trans k23 ((unhide HI).nw.trans (unhide HN2) sw)
          rcases hc3 with ⟨rfl, O, hMI⟩ | ⟨rfl, hRf⟩
          · have q2 := (unhide HQ1).ky k23 nq2
            have T2 := (unhide HT1).ky k23 ng2
            have r42 := q2.c4
            have rf4 := q2.fr 4
            rw [(unhide HT).e, unhide HN] at r42
            have hsf := fun W => slice_from59 g off N cap c W hcn (by omega) (by omega)
            have hbA := below_alloc (Below.refl _ w2) (.cells #[.int .i64 (R : Int)] 3)
            have T3 := (T2.ky (F := fun _ => False) (Ky.of_below hbA) id).drop (c := c) (by have := unhide HN; omega)
            rw [unhide HN] at T3
            have hdl : (ids.drop c).length ≤ 4194304 := by rw [List.length_drop, unhide HN]; omega
            have hq3 : q < w2.heap.size := q2.tg.lt
            have tgq := q2.tg
            have tgg := T2.tg
            have nqg : ¬ q = g := fun e => by subst e; exact tgq.ne tgg (by decide) rfl
            have q3 := (q2.ky (G := fun _ => False) (Ky.of_below hbA) id)
            have HT3 := hide T3
            have HDL := hide hdl
            have HQ3 := hide q3
            have HMI := hide hMI
            have HY3 := hide y3
            have HNG := hide hnwG
            have HKG := hide hkG
            have HNW3 := hide nw3'
            have HBA := hide hbA
            have HTGG := hide tgg
            clear hMI y3 nw3 m3 k3 hnwG hkG nw3' T3 T2 q2 hdl HZ q3 hbA tgg tgq hsl
            go_wp2_with (first
              | (at_builtin; refine wpList_push_t (w2.alloc (.cells #[.int .i64 (R : Int)] 3)) rfl (.tmp 62) (.tmp 64) rfl (.slice (some ⟨g, off + c, none⟩) (N - c) (cap - c)) (ids.drop c) g (off + c) (cap - c) rfl (unhide HT3) w2.heap.size R rfl (by simp [go_sem]) (unhide HDL) ?_; intro v4 w4 g4 off4 cap4 hT4 hg4 hk4; obtain ⟨N4, hN4⟩ : ∃ N4, (ids.drop c ++ [R]).length = N4 := ⟨_, rfl⟩; have eV4 := hT4.e; rw [hN4] at eV4; have hq4 := (unhide HQ3).ky hk4 nqg; have c44 := hq4.c4; have f44 := hq4.fr 4; have HT4 := hide hT4; have HQ4 := hide hq4; have HK4 := hide hk4; have HG4 := hide hg4; have HN4 := hide hN4; have HEV4 := hide eV4; subst eV4; clear hT4 hq4 hk4 hg4 hN4))
            go_roundw
            case rel =>
              have ng3 : ¬ F3 g := fun e => by
                rcases unhide HNW3 g e with r | r
                · exact ng2 r
                · omega
              have nq3 : ¬ F3 q := fun e => by
                rcases unhide HNW3 q e with r | r
                · exact nq2 r
                · omega
              have sA := (unhide HBA).size
              have k45 : Ky (fun k => k = q) w4 (w4.setCell ⟨q, 4, none⟩ (.slice (some ⟨g4, off4, none⟩) N4 cap4)) := (Ky.refl (fun k => k = q) w4).set (F := fun k => k = q) rfl (unhide HQ4).tg (by decide) _ _
              have k25 : Ky (fun k => k = g ∨ k = q) w2 (w4.setCell ⟨q, 4, none⟩ (.slice (some ⟨g4, off4, none⟩) N4 cap4)) := ((Ky.of_below (unhide HBA)).trans ((unhide HK4).mono fun k e => .inl e) (Nw.refl _ _)).trans (k45.mono fun k e => .inr e) (Nw.refl _ _)
              have ty := (unhide HY3).tgy
              have hI := unhide HI
              have tq2 : Tg 61 w2 q := (hI.ss.qx.tg.ky' (unhide HK2) hI.ss.nq).ky' k23 nq2
              have gG : ∀ k, k = g ∨ k = q → G k ∨ w.heap.size ≤ k := fun k e => by
                rcases e with e | e
                · subst e; exact hI.nv k (by rw [(unhide HT).e]; rfl)
                · subst e; exact .inl hG
              refine ⟨rfl, Y3, .slice (some ⟨g4, off4, none⟩) N4 cap4, ids.drop c ++ [R], labs.drop c ++ [labs.getD (c - 1) 0 + 1], ms.drop c ++ [(ms.take c).sum], fun j => F3 j ∧ j < w2.heap.size, ⟨⟨(unhide HY3).close.cut.ky k25 (fun k e => ?_) (fun e => ?_), (unhide HQ4).set _, fun e => nq3 e.1, ((hI.ss.ord.ky (unhide HK2)).ky k23).ky k25, g4, off4, cap4, (unhide HT4).ky k45 (fun e => (unhide HT4).tg.ne (unhide HQ4).tg (by decide) e), fun e => ?_⟩, ?_, fun k e => unhide HNG k e.1, (unhide HKG).trans k25 gG, fun k e => ?_⟩⟩
              · rcases e with e | e
                · subst e; exact fun z => ng3 z.1
                · subst e; exact fun z => nq3 z.1
              · rcases e with e | e
                · exact ty.ne (unhide HTGG) (by decide) e
                · exact ty.ne tq2 (by decide) e
              · rcases unhide HG4 with r | r
                · subst r; exact ng3 e.1
                · have := e.2; omega
              · have hcdd := hI.qi.merge hb1 (by have := unhide HN; have := unhide HLT; have := unhide HD; have := unhide HDD; omega) (unhide HLEN) (unhide HCNT) (by rw [unhide HR]; exact unhide HMI)
                rw [unhide HR] at hcdd
                exact hcdd
              · have e' : g4 = k := by injection e
                subst e'
                rcases unhide HG4 with r | r
                · subst r; exact gG g4 (.inl rfl)
                · exact .inr (by omega)
            case measure =>
              have c45 := ((unhide HQ4).set (.slice (some ⟨g4, off4, none⟩) N4 cap4)).c4
              rw [c4, c45]
              have h4 := unhide HN4
              rw [List.length_append, List.length_drop, unhide HN] at h4
              simp only [List.length_cons, List.length_nil] at h4
              simp only
              omega
          · have hcdk' : (Yk.cd != 0) = true := by simpa using hcdk
            have HRf := hide hRf
            have HNG := hide hnwG
            have HKG := hide hkG
            have HY3 := hide y3
            clear hRf hnwG hkG y3 nw3 m3 k3 HZ hsl
            have ecd : Yk.tick.newRun.cd = Yk.cd := rfl
            rw [ecd]
            go_wp2
            go_ret
            have hI := unhide HI
            have r := unhide HRf
            obtain ⟨O, R', eo, _, _, _, hO⟩ := r.out
            refine ⟨Yk.cd, Y3, F3, rfl, .inr ⟨hI.qi.cd, ⟨r.rd, r.calls, r.rf.trans hI.qi.rf, r.cd.trans hI.qi.cd, ?_, r.most, ?_⟩, (unhide HY3).close, unhide HNG, unhide HKG⟩⟩
            · rw [eo, hO R rfl, List.append_nil]
              exact hI.qi.out
            · rw [r.runs]
              show (Yk.runs ++ [[]]).length ≤ _
              have h1 := hI.qi.rl
              have h2 := unhide HN
              have h3 := unhide HLT
              rw [List.length_append]
              simp only [List.length_cons, List.length_nil]
              omega
      · have HNew := hide (ynew_hit hs.yw hI.qi.rd hit hcdk)
        have hcdk' : (Yk.cd != 0) = true := by simpa using hcdk
        have HIT := hide hit
        clear hit hI hs hT hgF hcnt hN hR hlt hlen hr hc hrlt eV
        go_upto_region 3 with fail
        go_cut [4] (fun s4 wx => s4 = .int .i64 (c : Int) ∧ wr = wx)
        case first =>
          go_wp2
          go_meet
          refine ⟨?_, rfl⟩
          rw [← unhide HCR]
        case rest =>
        obtain ⟨rfl, rfl⟩ := hcut
        go_wp2_with (first | (go_at_call 65; refine (unhide HNew).mono ?_; rintro _ w1 ⟨rfl, hY1⟩; have HY1 := hide hY1; clear hY1))
        go_ret
        obtain ⟨F2, nw2, m2, y2, k2⟩ := unhide HY1
        have hI := unhide HI
        obtain ⟨t1, t2⟩ := tick_hit (unhide HIT)
        exact ⟨Yk.cd, Yk.tick, F2, rfl, .inr ⟨hI.qi.cd, ⟨t1, t2, hI.qi.rf, hI.qi.cd, hI.qi.out, hI.qi.m1, by have := hI.qi.rl; show Yk.runs.length ≤ C; omega⟩, y2, hI.nw.trans nw2 hI.ky.size, hI.ky.trans k2 hI.nw⟩⟩
    · have i1 : ¬ (D : Int) < (N : Int) := by omega
      have hNB : N + 1 ≤ BU := by omega
      have HN := hide hN
      clear hI hs hT hgF hN hlt eV hle hBU hDD
      go_wp2
      go_ret
      exact ⟨0, Yk, F1, rfl, .inl ⟨rfl, vS, ids, labs, ms, unhide HI, by rw [unhide HN]; exact hNB⟩⟩
end Go.Proofs.YtcbenpodohjbiaaGreat

import Derived.Test.YtcbenpodohjbiaaGreatSqN
set_option linter.unusedSimpArgs false
set_option linter.unusedVariables false
set_option maxRecDepth 100000
namespace Go.Proofs.YtcbenpodohjbiaaGreat
open Go.RowKit Go.Sort

/-- What merge answers, where each row is wanted once. -/
def MergeO (w : World) (b y m : Nat) (ids : List Nat) (S : Option Nat) (BU : Nat) (Y : Yv) (op : Option Nat) (F : Nat → Prop) (e : Ending) (w' : World) : Prop :=
  ∃ (Y' : Yv) (c : Int), e = .returned (.int .i64 c) ∧ Yo w w' b y m Y' op F ∧ ((c = 0 ∧ ∃ O, M1 ids S BU Y Y' [] O [] 0 true) ∨ (c = Y.cd ∧ Rf1 ids S BU Y Y'))
/-- What merge asks, where each row is wanted once. -/
structure MrgB (w : World) (b y m q B : Nat) (bu : Int) (Y : Yv) (S op : Option Nat) (a : Option Addr) (ids : List Nat) (vS : Value) (BU : Nat) (F : Nat → Prop) : Prop where
  yw : Yw w b y m Y op F
  qx : Qx w q y B (bu, true) vS
  nq : ¬ F q
  ord : OrdF w B []
  hids : IdsK w F a ids
  nd : ids.Nodup
  b1 : ids.length + 1 ≤ BU
  b2 : BU ≤ 65536
  rl : Y.runs.length ≤ 1048576
  h0 : Y.held = 0
  m0 : 0 ≤ Y.most
  m1 : Y.most ≤ BU
  rd : Y.rd = false
  cd : Y.cd ≠ 0
  th : ∀ i ∈ ids, Y.there[i]? = some true ∧ op ≠ some i ∧ ∃ x rs, Y.runs[i]? = some (x :: rs)
  srt : ∀ i ∈ ids, (Y.runs.getD i []).Pairwise fun x y => ordG [] x y ≤ 0
  cln : ∀ i ∈ ids, ∀ x ∈ Y.runs.getD i [], cleanR x = x
  snk : ∀ i, S = some i → op = some i ∧ i ∉ ids ∧ Y.runs[i]? = some [] ∧ Y.there[i]? = some true
  tot : (rowsOf Y.runs ids).length ≤ 1048576
  out : Y.out.length + (rowsOf Y.runs ids).length ≤ 1048577
  p0 : 0 ≤ Y.puts
  p1 : Y.puts + (rowsOf Y.runs ids).length ≤ 1099511627776
set_option maxHeartbeats 8000000 in
/-- merge (42), where each row is wanted once. -/
theorem mergeO_none {F : Nat → Prop} {w : World} {b y m q B : Nat} {bu : Int} {Y : Yv} {op : Option Nat} {a : Option Addr} {c : Nat} {ids : List Nat} {vS : Value} {BU : Nat}  (h : MrgB w b y m q B bu Y none op a ids vS BU F) :
    Calls Tryz.prog 42 #[.pointer (some ⟨q, 0, none⟩), .slice a ids.length c, .iface 65 (.agg #[.pointer (some ⟨y, 0, none⟩), .iface 24 (.pointer (some ⟨b, 0, none⟩))])] w fun e w' => MergeO w b y m ids none BU Y op F e w' := by
  have hm : ∀ w : World, (method 297 65 (.agg #[.pointer (some ⟨y, 0, none⟩), .iface 24 (.pointer (some ⟨b, 0, none⟩))]) "Take").run Tryz.prog w = .ok (160, .agg #[.pointer (some ⟨y, 0, none⟩), .iface 24 (.pointer (some ⟨b, 0, none⟩))]) w := fun _ => by kernel_rfl
  have c0 := h.qx.c0
  have c1 := h.qx.c1
  have hyF := h.yw.1
  have hyl : y < w.heap.size := h.yw.tgy.lt
  have hql : q < w.heap.size := h.qx.tg.lt
  have hlen1 : ids.length ≤ 65536 := by have := h.b1; have := h.b2; omega
  have H := hide h
  clear h
  go_enter Tryz.func42, Tryz.ntmps42
  go_upto_region 1 with fail
  go_cut [7] (fun s7 wx => s7 = .pointer (some ⟨w.heap.size, 0, none⟩) ∧ Hid (Below w.heap.size w wx ∧ Mx wx w.heap.size y B (.slice none 0 0)))
  case first =>
    go_region
    all_goals (go_wp2; go_meet)
    all_goals exact ⟨rfl, by refine ⟨?_, ⟨?_, ?_, ?_, ?_, ?_⟩⟩ <;> first | (refine Below.drew ?_; exact below_alloc (Below.refl _ _) _) | (exact below_alloc (Below.refl _ _) _) | exact ⟨_, _, heap_alloc_new _ _⟩ | simp [go_sem]⟩
  case rest =>
    obtain ⟨rfl, HW⟩ := hcut
    rename World => w1
    obtain ⟨F', hF'⟩ : ∃ F' : Nat → Prop, F' = fun k => (F k ∧ k < w.heap.size) ∨ k = w.heap.size := ⟨_, rfl⟩
    have hFy : ¬ F' y := by rw [hF']; rintro (e | e); exact hyF e.1; omega
    have hFq : ¬ F' q := by rw [hF']; rintro (e | e); exact (unhide H).nq e.1; omega
    have hFF : ∀ k, F' k → F k ∨ w.heap.size ≤ k := by rw [hF']; rintro k (e | e); exact .inl e.1; exact .inr (by omega)
    have hb1 := (unhide HW).1
    have hk1 : Ky (fun _ => False) w w1 := Ky.of_below hb1
    have hMw1 : Mw w1 b y m w.heap.size B [] Y op [] F' := by
      refine ⟨hFy, by rw [hF']; exact .inr rfl, fun k => F k ∧ k < w.heap.size, .slice none 0 0, fun k e => by rw [hF']; exact .inl e, fun e => by omega, fun g e => (by cases e), (unhide H).yw.cut.later hb1, (unhide HW).2, ⟨World.ownsRow_nil _ _ _ _, fun x hx => by simp at hx⟩, (unhide H).ord.ky hk1⟩
    have hIds1 : IdsK w1 F' a ids := (unhide H).hids.ky hk1 (fun _ => False.elim) hFF
    have HC := hide (open_m1 (S := none) (c := c) hMw1 hIds1 (unhide H).nd (unhide H).b1 (unhide H).b2 (unhide H).rl (unhide H).h0 (unhide H).m1 (unhide H).m0 (unhide H).rd (unhide H).cd (unhide H).th (unhide H).srt (unhide H).cln (fun i e => ⟨((unhide H).snk i e).2.1, ((unhide H).snk i e).2.2.1⟩))
    have HQ1 := hide ((unhide H).qx.ky hk1 id)
    have HFF := hide hFF
    have HYO : Hid (∀ wr Yk L, Mo w1 wr b y m w.heap.size B [] Yk op L F' → Yo w wr b y m Yk op F) := fun wr Yk L q => q.yo hb1 hyF hFF
    clear hMw1 hIds1 hF' hFF
    go_upto_region 3 with (first | (go_at_call 66; refine (unhide HC).mono ?_; rintro _ w2 ⟨Y2, L2, c2, rfl, hM2, hc2⟩; have HM2 := hide hM2; have HC2 := hide hc2; clear hM2 hc2))
    rcases unhide HC2 with ⟨rfl, hI⟩ | ⟨rfl, hR⟩
    · have HI0 : Hid (Mo w1 w2 b y m w.heap.size B [] Y2 op L2 F' ∧ M1 ids none BU Y Y2 L2 [] [] 0 true) := ⟨unhide HM2, hI.loose⟩
      clear hI HC2 HM2
      go_wp2_with fail
      go_loopw [6] (fun s6 wr => s6 = .int .i64 0 ∧ ∃ (Yk : Yv) (L : List Hd) (O : List (List Val)), Hid (Mo w1 wr b y m w.heap.size B [] Yk op L F' ∧ M1 ids none BU Y Yk L O [] 0 true)) (fun _ wr => measM b (Y.out.length + Y.puts.toNat + (rowsOf Y.runs ids).length) wr)
      case atStart => exact ⟨rfl, Y2, L2, [], HI0⟩
      case round =>
        obtain ⟨rfl, Yk, L, O, HI⟩ := hrel
        obtain ⟨⟨F1, n1, n2, n3, n4⟩, hI⟩ := unhide HI
        have hQr := (unhide HQ1).ky n4 hFq
        obtain ⟨h1, h2, F0, vH, h3, h4, h5, h6, h7, h8, h9⟩ := n3
        have hme := measM_of (T := Y.out.length + Y.puts.toNat + (rowsOf Y.runs ids).length) h6
        have HME := hide hme
        clear hme
        obtain ⟨aH, cH, eH⟩ : ∃ aH cH, vH = .slice aH L.length cH := by
          rcases h8.1.2 with ⟨e1, e2⟩ | ⟨g, cap, cur, e1, _⟩
          · exact ⟨none, 0, by rw [e1, e2]⟩
          · exact ⟨_, _, e1⟩
        have d2 := h7.c2
        rw [eH] at d2
        by_cases hL : 0 < L.length
        · obtain ⟨g, cH2, e2, _⟩ := h8.some hL
          rw [eH] at e2
          injection e2 with e2 _ _
          rw [e2] at d2 eH
          have hH8 := h8
          rw [eH] at hH8
          obtain ⟨r0, r1, _, _, hRw⟩ := hH8.at (j := 0) hL
          simp only [Nat.zero_mul, Nat.zero_add] at r0 r1
          have hRw' := hRw
          obtain ⟨au, cu, eu, hrc, hrl⟩ := hRw
          obtain ⟨x0, hx0⟩ : ∃ x0, (hAt L 0).r = x0 := ⟨_, rfl⟩
          rw [hx0] at eu hrc hrl
          rw [eu] at r0
          have hSt := step_m1 (S := none) ⟨h1, h2, F0, vH, h3, h4, h5, h6, h7, h8, h9⟩ hI hL (unhide H).b1 (unhide H).b2 (unhide H).rl (unhide H).cd (fun i hi => ((unhide H).th i hi).2.1) (fun i e => ((unhide H).snk i e).2.1)
          have HX0 := hide hx0
          have HST := hide hSt
          have HRW : Hid (Rw wr (.slice au x0.length cu) x0) := ⟨au, cu, rfl, hrc, hrl⟩
          obtain ⟨N, hN⟩ : ∃ N, L.length = N := ⟨_, rfl⟩
          rw [hN] at d2 hL
          have j0 : (0 : Int) < (N : Int) := by omega
          obtain ⟨X, hX⟩ : ∃ X, x0.length = X := ⟨_, rfl⟩
          have HX := hide hX
          rw [hX] at r0
          clear hSt hRw' hx0 eu hrc hrl hH8 h3 h5 h6 h7 h8 h9 hI r1 e2 hN hX
          go_upto_region 8 with (first | (go_at_call 67; refine (unhide HST).mono ?_; rintro _ w3 ⟨Y3, L3, c3, rfl, hM3, hc3⟩; have HM3 := hide hM3; have HC3 := hide hc3; clear hM3 hc3))
          have hMo3 : Mo w1 w3 b y m w.heap.size B [] Y3 op L3 F' := by
            obtain ⟨F3, q1, q2, q3, q4⟩ := unhide HM3
            exact ⟨F3, n1.trans q1 n4.size, fun k e => q2 k (n2 k e), q3, n4.trans q4 n1⟩
          have HMo3 := hide hMo3
          rcases unhide HC3 with ⟨rfl, hI3⟩ | ⟨rfl, hR3⟩
          · obtain ⟨F3, q1, q2, q3, q4⟩ := hMo3
            have hQ3 := (unhide HQ1).ky q4 hFq
            have k2 : w3.cell? ⟨q, 2, none⟩ = some (.bool true) := hQ3.c2
            obtain ⟨F3', u1, u2, u3, u4⟩ := unhide HM3
            have hF3 := (unhide HI).2.first hI3
            rw [unhide HX0] at hF3
            have hSk := skip_m1 (S := none) (u := .slice au x0.length cu) q3 hF3 ((unhide HRW).ky u4) (unhide H).b1 (unhide H).b2 (unhide H).rl (unhide H).cd (fun i hi => ((unhide H).th i hi).2.1) (fun i e => ((unhide H).snk i e).2.1) (unhide H).tot
            rw [unhide HX] at hSk
            have HSK := hide hSk
            have HRW3 := hide ((unhide HRW).ky u4)
            have HQ1' := hide q1
            have HQ2 := hide q2
            have HQ4 := hide q4
            clear hSk hI3 hF3 q1 q2 q3 q4 u1 u2 u3 u4 hQ3 HC3
            go_upto_region 12 with (first | (go_at_call 68; refine (unhide HSK).mono ?_; rintro _ w5 ⟨Y5, L5, c5, rfl, hM5, hc5⟩; have HM5 := hide hM5; have HC5 := hide hc5; clear hM5 hc5))
            have hMo5 : Mo w1 w5 b y m w.heap.size B [] Y5 op L5 F' := by
              obtain ⟨F4, q1, q2, q3, q4⟩ := unhide HM5
              exact ⟨F4, (unhide HQ1').trans q1 (unhide HQ4).size, fun k e => q2 k (unhide HQ2 k e), q3, (unhide HQ4).trans q4 (unhide HQ1')⟩
            have HMo5 := hide hMo5
            rcases unhide HC5 with ⟨rfl, hI5⟩ | ⟨rfl, hR5⟩
            case inr =>
              have hcd' : (Y.cd != 0) = true := by simpa using (unhide H).cd
              have HR5 := hide hR5
              clear hR5 HC5 hMo5
              go_wp2
              go_ret
              exact ⟨Y5, Y.cd, rfl, unhide HYO _ _ _ (unhide HMo5), .inr ⟨rfl, unhide HR5⟩⟩
            obtain ⟨F5, s1, s2, s3, s4⟩ := hMo5
            obtain ⟨F5', v1, v2, v3, v4⟩ := unhide HM5
            have hTk := take_m1 (S := none) (u := .slice au x0.length cu) s3 hI5 ((unhide HRW3).ky v4) (unhide H).b1 (unhide H).b2 (unhide H).rl (unhide H).cd (fun i e => ⟨((unhide H).snk i e).1, ((unhide H).snk i e).2.1, ((unhide H).snk i e).2.2.2⟩) (unhide H).tot (unhide H).out (unhide H).p0 (unhide H).p1
            rw [unhide HX] at hTk
            change Calls Tryz.prog 160 #[.agg #[.pointer (some ⟨y, 0, none⟩), .iface 24 (.pointer (some ⟨b, 0, none⟩))], .slice au X cu] w5 _ at hTk
            have HTK := hide hTk
            have HS1 := hide s1
            have HS2 := hide s2
            have HS4 := hide s4
            clear hTk hI5 s1 s2 s3 s4 v1 v2 v3 v4 HC5
            go_upto_region 15 with (first | (go_at_call 160; refine (unhide HTK).mono ?_; rintro _ w4 ⟨Y4, c4, rfl, hM4, hc4⟩; have HM4 := hide hM4; have HC4 := hide hc4; clear hM4 hc4))
            have hMo4 : Mo w1 w4 b y m w.heap.size B [] Y4 op L5 F' := by
              obtain ⟨F4, q1, q2, q3, q4⟩ := unhide HM4
              exact ⟨F4, (unhide HS1).trans q1 (unhide HS4).size, fun k e => q2 k (unhide HS2 k e), q3, (unhide HS4).trans q4 (unhide HS1)⟩
            have HMo4 := hide hMo4
            clear hMo4
            rcases unhide HC4 with ⟨rfl, hI4⟩ | ⟨rfl, hR4⟩
            · have HI4 := hide hI4
              clear hI4 HC4
              go_wp2
              go_roundw
              case rel => exact ⟨rfl, Y4, L5, O ++ [x0], unhide HMo4, unhide HI4⟩
              case measure =>
                obtain ⟨F5, hF5⟩ := (unhide HMo4).yw
                rw [measM_of hF5, unhide HME]
                obtain ⟨t1, t2⟩ := (unhide HI).2.totp
                obtain ⟨t3, t4⟩ := (unhide HI4).totp
                have p0 := (unhide H).p0
                have pk : 0 ≤ Yk.puts ∧ 0 ≤ Y4.puts := by
                  exact ⟨by rw [((unhide HI).2.o rfl).2]; exact p0, by rw [((unhide HI4).o rfl).2]; exact p0⟩
                rw [List.length_append] at t3 t4
                simp only [List.length_cons, List.length_nil] at t3 t4
                omega
            · have hcd' : (Y.cd != 0) = true := by simpa using (unhide H).cd
              have HR4 := hide hR4
              clear hR4 HC4
              go_wp2
              go_ret
              exact ⟨Y4, Y.cd, rfl, unhide HYO _ _ _ (unhide HMo4), .inr ⟨rfl, unhide HR4⟩⟩
          · have hcd' : (Y.cd != 0) = true := by simpa using (unhide H).cd
            have HR3 := hide hR3
            clear hR3 HC3 hMo3
            go_wp2
            go_ret
            exact ⟨Y3, Y.cd, rfl, unhide HYO _ _ _ (unhide HMo3), .inr ⟨rfl, unhide HR3⟩⟩
        · have hL0 : L = [] := List.eq_nil_of_length_eq_zero (by omega)
          have j0 : ¬ (0 : Int) < (L.length : Int) := by omega
          have HL0 := hide hL0
          clear hL0 h3 h5 h6 h7 h8 h9 hI
          go_wp2
          go_ret
          obtain ⟨p1, p2⟩ := unhide HI
          rw [unhide HL0] at p1 p2
          exact ⟨Yk, 0, rfl, unhide HYO _ _ _ p1, .inl ⟨rfl, O, p2⟩⟩
    · have hcd' : (Y.cd != 0) = true := by simpa using (unhide H).cd
      have HR := hide hR
      clear hR HC2
      go_wp2
      go_ret
      exact ⟨Y2, Y.cd, rfl, unhide HYO _ _ _ (unhide HM2), .inr ⟨rfl, unhide HR⟩⟩

end Go.Proofs.YtcbenpodohjbiaaGreat

import Derived.Test.YtcbenpodohjbiaaGreatSpZ
set_option linter.unusedSimpArgs false
set_option linter.unusedVariables false
set_option maxRecDepth 100000
namespace Go.Proofs.YtcbenpodohjbiaaGreat
open Go.RowKit Go.Sort

/-- A round of gather begins. -/
structure GI (w0 : Bs) (w wr : World) (b y m q B s : Nat) (ks : List (Int × Bool)) (BU : Nat) (aR : Option Addr) (cR : Nat) (rs : List (List Val)) (Y0 : Yv) (F : Nat → Prop) (k : Nat) (v : Value) (hand : List (List Val)) (Y : Yv) (ids : List Nat) (F1 : Nat → Prop) : Prop where
  kk : k ≤ rs.length
  nw : Nw F F1 w
  mono : ∀ j, F j → F1 j
  sw : Sw wr b y m q B ks ((BU : Int), false) Y none ids F1
  ky : Ky (fun j => F j ∨ j = s) w wr
  l : Lst wr v hand
  vb : ∀ g, v.ownBlock = some g → ¬ F1 g ∧ w.heap.size ≤ g
  st : Stm w0 wr s b aR cR rs k
  g : Gth rs k hand ks BU Y0 Y ids
  sf : Safe Y (rs.length - k + 1 + rs.length)
  lim : ∀ j, F1 j → j < wr.heap.size
theorem Sw.cut {F : Nat → Prop} {w : World} {b y m q B : Nat} {ks : List (Int × Bool)} {bu : Int × Bool} {Y : Yv} {op : Option Nat} {ids : List Nat} (h : Sw w b y m q B ks bu Y op ids F) : Sw w b y m q B ks bu Y op ids (fun k => F k ∧ k < w.heap.size) := by
  obtain ⟨h1, h2, F0, vS, h3, h4, h5, h6, h7, h8, h9⟩ := h
  exact ⟨fun e => h1 e.1, ⟨h2, h7.tg.lt⟩, fun k => F0 k ∧ k < w.heap.size, vS, fun k e => ⟨h3 k e.1, e.2⟩, fun e => h4 e.1, fun g e => ⟨⟨(h5 g e).1, (own_tg h8 e).lt⟩, fun k => (h5 g e).2 k.1⟩, h6.cut, h7, h8, h9⟩
theorem Rfd.gth {rs hand : List (List Val)} {k BU : Nat} {ks : List (Int × Bool)} {Y0 Y Y' : Yv} {ids : List Nat} (h : Gth rs k hand ks BU Y0 Y ids) (hr : Rfd Y Y') (hk : k ≤ rs.length) (hb : 4 ≤ BU) : Y'.rd = true ∧ Y'.calls = Y'.rf ∧ Y'.rf = Y0.rf ∧ Y'.cd = Y0.cd ∧ Y'.out = Y0.out ∧ Y'.most ≤ BU ∧ Y'.runs.length * 4 ≤ rs.length + 4 :=
  ⟨hr.rd, hr.calls, hr.rf.trans h.rf, hr.cd.trans h.cd, hr.out.trans h.out, by rw [hr.most]; exact h.most, by
    have h1 := h.count hk
    have h2 : Y.runs.length * 4 ≤ Y.runs.length * BU := Nat.mul_le_mul_left _ hb
    have h3 := hr.runs
    omega⟩
/-- What gather answers. -/
def GatherP (w0 : Bs) (w : World) (b y m q B s : Nat) (ks : List (Int × Bool)) (BU : Nat) (rs : List (List Val)) (Y0 : Yv) (F : Nat → Prop) (e : Ending) (w' : World) : Prop :=
  ∃ (v : Value) (c : Int) (Y : Yv) (ids : List Nat) (F1 : Nat → Prop), e = .returned (.tuple #[v, .int .i64 c]) ∧ Nw F F1 w ∧ (∀ j, F j → F1 j) ∧ Sw w' b y m q B ks ((BU : Int), false) Y none ids F1 ∧ Ky (fun j => F j ∨ j = s) w w' ∧
    ((c = 0 ∧ ∃ hand, Lst w' v hand ∧ (∀ g, v.ownBlock = some g → ¬ F1 g) ∧ Gth rs rs.length hand ks BU Y0 Y ids ∧ hand.Pairwise (fun x y => ordG ks x y ≤ 0) ∧ Safe Y rs.length) ∨
     (c = Y0.cd ∧ Y0.cd ≠ 0 ∧ Y.rd = true ∧ Y.calls = Y.rf ∧ Y.rf = Y0.rf ∧ Y.cd = Y0.cd ∧ Y.out = Y0.out ∧ Y.most ≤ BU ∧ Y.runs.length * 4 ≤ rs.length + 4))

set_option maxHeartbeats 8000000 in
/-- gather (38). -/
theorem gather_any {F : Nat → Prop} {w0 : Bs} {w : World} {b y m q B s : Nat} {ks : List (Int × Bool)} {BU : Nat} {aR : Option Addr} {cR : Nat} {rs : List (List Val)} {Y0 : Yv} (hb1 : 4 ≤ BU) (hb2 : BU ≤ 65536) (hn : rs.length ≤ 1048576) (hrl : ∀ r ∈ rs, r.length ≤ 1048576) (hI : w0.Rows aR rs) (hF : ∀ j, F j → w0.No j) (hsF : ¬ F s) (hs0 : w0.No s) (hsy : s ≠ y)
    (hsafe : Y0.cd ≠ 0 ∨ rs.length < BU) (h0 : GI w0 w w b y m q B s ks BU aR cR rs Y0 F 0 (.slice none 0 0) [] Y0 [] F) :
    Calls Tryz.prog 38 #[.pointer (some ⟨q, 0, none⟩), .iface 66 (.pointer (some ⟨s, 0, none⟩))] w fun e w' => GatherP w0 w b y m q B s ks BU rs Y0 F e w' := by
  have hm : ∀ w : World, (method 297 66 (.pointer (some ⟨s, 0, none⟩)) "Next").run Tryz.prog w = .ok (161, .pointer (some ⟨s, 0, none⟩)) w := fun _ => by kernel_rfl
  have H0 := hide h0
  have HF := hide hF
  have HI := hide hI
  have HRL := hide hrl
  have HSF := hide hsafe
  have hslt : s < w.heap.size := h0.st.tg.lt
  have HBL := hide h0.st.bl
  clear h0 hF hI hrl hsafe
  go_enter Tryz.func38, Tryz.ntmps38
  go_wp2_with fail
  go_loopw [4, 5, 6] (fun r e l wr => r = .slice none 0 0 ∧ e = .int .i64 0 ∧ ∃ k hand Y ids F1, Hid (GI w0 w wr b y m q B s ks BU aR cR rs Y0 F k l hand Y ids F1) ∧ True) (fun _ _ _ wr => match wr.cell? ⟨s, 2, none⟩ with | some (.int _ k) => rs.length - k.toNat | _ => 0)
  case atStart => exact ⟨rfl, rfl, 0, [], Y0, [], F, H0, trivial⟩
  case round =>
    obtain ⟨rfl, rfl, k, hand, Y, ids, F1, HG, _⟩ := hrel
    rename Value => l6
    have hG := unhide HG
    have nsF1 : ¬ F1 s := fun e => by
      rcases hG.nw s e with r | r
      · exact hsF r
      · omega
    have hF1 : ∀ j, F1 j → w0.No j := fun j e => by
      rcases hG.nw j e with r | r
      · exact unhide HF j r
      · exact Bs.new (unhide HBL) r
    obtain ⟨F00, pP, pF, pB⟩ := hG.sw.beneath nsF1 hsy
    have nsF00 : ¬ F00 s := fun e => nsF1 (pF s e)
    have hF00 : ∀ j, F00 j → w0.No j := fun j e => hF1 j (pF j e)
    have hcnt := hG.g.count hG.kk
    have hheld := hG.g.held
    have hlt := hG.g.lt
    have nbs : Nw (fun j => F j ∨ j = s) (fun j => j = b ∨ j = s) w := fun j e => by
      rcases e with e | e
      · subst e
        rcases hG.nw j (pF j pP.1) with r | r
        · exact .inl (.inl r)
        · exact .inr r
      · exact .inl (.inr e)
    have HNBS := hide nbs
    have HPB := hide pB
    cases hit : Y.hit
    · by_cases hk : k < rs.length
      · obtain ⟨r, hx⟩ : ∃ r, rs[k]? = some r := ⟨_, List.getElem?_eq_getElem hk⟩
        have hrl := unhide HRL r (List.mem_of_getElem? hx)
        have HC := hide (snext_row pP hG.st (unhide HI) hx hrl hn nsF00 hs0 hF00 hG.g.rd hit (by rw [hheld]; omega) (by rw [hheld]; omega))
        obtain ⟨a6, c6, e6⟩ := hG.l.form
        have HX := hide hx
        have HIT := hide hit
        have HCNT := hide hcnt
        have HHELD := hide hheld
        have HNS := hide nsF1
        have HHL : Hid (hand.length + 1 ≤ 4398046511104) := by show _ ≤ _; omega
        have HLT := hide hlt
        have HF1 := hide hF1
        subst e6
        have ny6 : ¬ (Value.slice a6 hand.length c6).ownBlock = some y := fun e => (hG.vb y e).1 |> fun _ => by
          obtain ⟨_, _, _, _, _, _, _, hyw, _⟩ := hG.sw
          exact (hG.l.tg e).ne hyw.tgy (by decide) rfl
        have ns6 : ¬ (Value.slice a6 hand.length c6).ownBlock = some s := fun e => (hG.l.tg e).ne hG.st.tg (by decide) rfl
        have HLg : Hid (∀ w1 w3 : World, Ky (fun j => j = b ∨ j = s) wr w1 → Below w1.heap.size w1 w3 → Lst w3 (.slice a6 hand.length c6) hand) := fun w1 w3 k1 b1 => (hG.l.ky k1 (fun g e k => by
          rcases k with k | k
          · exact (hG.vb g e).1 (k ▸ pF b pP.1)
          · exact ns6 (k ▸ e))).later b1
        clear hx hit hcnt hheld nsF1 nsF00 hF00 hF1 pP pF pB nbs hG hlt
        go_upto_region 8 with (first
          | (go_at_call 161; refine (unhide HC).mono ?_; rintro _ w1 ⟨v1, rfl, ⟨a1, c1, rfl, hq1, hl1⟩, hP1, hS1, hK1⟩; have HO := hide (own_yes a1 c1 r w1 hl1 hq1.at); have HSW1 := hide (unhide HPB w1 _ hP1 hK1 rfl); have HS1 := hide hS1; have HK1 := hide hK1; clear hP1 hS1 hK1 hq1)
          | (go_at_call 60; refine (unhide HO).mono ?_; rintro _ w2 ⟨v2, rfl, ⟨a2, c2, rfl, hq2, hl2⟩, hb2⟩; have HB2 := hide hb2; have HBA := hide (below_alloc hb2 (.cells #[.slice a2 (cleanR r).length c2] 70)); have HL2 := hide (unhide HLg w1 _ (unhide HK1) (unhide HBA)); have HQ2 : Hid (Rw (w2.alloc (.cells #[.slice a2 (cleanR r).length c2] 70)) (.slice a2 (cleanR r).length c2) (cleanR r)) := ⟨a2, c2, rfl, hq2.later (below_alloc (Below.refl _ w2) _), hl2⟩; clear hb2 hq2 hl2)
          | (at_builtin; refine wpList_push_lst (w2.alloc (.cells #[.slice a2 (cleanR r).length c2] 70)) rfl (.tmp 29) (.tmp 31) rfl (.slice a6 hand.length c6) hand (cleanR r) rfl (unhide HL2) w2.heap.size (.slice a2 (cleanR r).length c2) rfl (by simp [go_sem]) (unhide HQ2) (unhide HHL) ?_; intro v3 w3 hL3 hg3 hK3; have HL3 := hide hL3; have HG3 := hide hg3; have HK3 := hide hK3; clear hL3 hg3 hK3))
        obtain ⟨a3, c3, e3⟩ := (unhide HL3).form
        rw [List.length_append] at e3
        change v3 = .slice a3 (hand.length + 1) c3 at e3
        subst e3
        obtain ⟨Y1, hY1⟩ : ∃ Y1, Y1 = Y.tick.hold 1 := ⟨_, rfl⟩
        rw [← hY1] at HSW1
        have HY1 := hide hY1
        clear hY1
        have hSW3 := ((unhide HSW1).later (unhide HBA)).ky (unhide HK3) (fun g e => (unhide HG).vb g e |>.1) ny6
        have hS3 := ((unhide HS1).later (unhide HBA)).ky (unhide HK3) ns6 (fun g e => Bs.new (unhide HBL) ((unhide HG).vb g e).2)
        have hk3 : Ky (fun j => F j ∨ j = s) w w3 := (((unhide HG).ky.trans (unhide HK1) (unhide HNBS)).trans (Ky.of_below (unhide HBA)) (Nw.refl _ _)).trans (unhide HK3) (fun g e => .inr ((unhide HG).vb g e).2)
        have hvb3 : ∀ g, (Value.slice a3 (hand.length + 1) c3).ownBlock = some g → ¬ F1 g ∧ w.heap.size ≤ g := fun g e => by
          rcases (unhide HG3).2 with r | ⟨r, r1, r2⟩
          · exact (unhide HG).vb g (by rw [← r]; exact e)
          · rw [r1] at e
            injection e with e
            subst e
            have s1 := (unhide HBA).size
            have s2 := (unhide HK1).size
            have s3 := (unhide HG).ky.size
            exact ⟨fun f => by have := (unhide HG).lim r f; omega, by omega⟩
        have hcq : w3.cell? ⟨q, 3, none⟩ = some (.int .i64 (BU : Int)) := by
          obtain ⟨_, _, _, _, _, _, _, _, hq, _⟩ := hSW3
          exact hq.c3
        have HSW3 := hide hSW3
        have HS3 := hide hS3
        have HKy3 := hide hk3
        have HVB3 := hide hvb3
        have hc2 := (unhide HG).st.c2
        have hc23 := hS3.c2
        have hlim : ∀ j, F1 j → j < w3.heap.size := fun j e => by
          have s0 := (unhide HG).lim j e
          have s1 := (unhide HBA).size
          have s2 := (unhide HK1).size
          have s3 := (unhide HK3).size
          omega
        have HLIM := hide hlim
        have HSF1 : Hid (Safe Y1 (rs.length - (k + 1) + 1 + rs.length)) := by
          have q := ((unhide HG).sf.less (k := (rs.length - (k + 1) + 1 + rs.length) + 1) (by omega)).tick
          exact q.of (by rw [unhide HY1]; rfl) (by rw [unhide HY1]; rfl) (by rw [unhide HY1]; rfl)
        clear hSW3 hS3 hk3 hvb3 hlim
        have hhl := unhide HLT
        by_cases hfull : hand.length + 1 < BU
        · have i1 : ((hand.length + 1 : Nat) : Int) < (BU : Int) := by omega
          go_wp2
          go_roundw
          case rel => exact ⟨rfl, rfl, k + 1, hand ++ [cleanR r], Y1, ids, F1, ⟨by omega, (unhide HG).nw, (unhide HG).mono, unhide HSW3, unhide HKy3, unhide HL3, unhide HVB3, unhide HS3, (unhide HG).g.more (unhide HX) hfull (unhide HY1) (unhide HIT), unhide HSF1, unhide HLIM⟩, trivial⟩
          case measure => rw [hc2, hc23]; simp; omega
        · have hfe : hand.length + 1 = BU := by omega
          have i1 : ¬ ((hand.length + 1 : Nat) : Int) < (BU : Int) := by omega
          have hcd0 : Y0.cd ≠ 0 := by
            rcases unhide HSF with r | r
            · exact r
            · exfalso; have := unhide HCNT; omega
          have hcd1 : Y1.cd ≠ 0 := by rw [unhide HY1]; show Y.cd ≠ 0; rw [(unhide HG).g.cd]; exact hcd0
          obtain ⟨g, ea⟩ : ∃ g, a3 = some ⟨g, 0, none⟩ := by
            obtain ⟨x0, hx0⟩ : ∃ x0, (hand ++ [cleanR r])[0]? = some x0 := ⟨_, List.getElem?_eq_getElem (by simp)⟩
            obtain ⟨g, c', _, _, ev, _⟩ := (unhide HL3).get hx0
            injection ev with ev _ _
            exact ⟨g, ev⟩
          subst ea
          have gB := unhide HVB3 g rfl
          have nyg : ¬ y = g := fun e => by
            subst e
            obtain ⟨_, _, _, _, _, _, _, hyw, _⟩ := unhide HSW3
            exact ((unhide HL3).tg (g := y) rfl).ne hyw.tgy (by decide) rfl
          have gl3 : g < w3.heap.size := ((unhide HL3).tg (g := g) rfl).lt
          have HSo := hide (sorted_any (unhide HSW3) (unhide HL3) (by rw [List.length_append]; simp; omega) (fun g e => (unhide HVB3 g e).1))
          have HFE := hide hfe
          have HCD1 := hide hcd1
          have HCD0 := hide hcd0
          have HI1 := hide i1
          have HFL := hide hfull
          have hN1 : hand.length + 1 ≤ 65536 := by omega
          obtain ⟨N1, hN1e⟩ : ∃ N1, hand.length + 1 = N1 := ⟨_, rfl⟩
          have HN1 := hide hN1e
          have e10 : ((N1 : Nat) : Int) = (BU : Int) := by omega
          have HLAY : Hid (∀ w4 rs', Sw w4 b y m q B ks ((BU : Int), false) Y1 none ids F1 → Lst w4 (.slice (some ⟨g, 0, none⟩) (hand.length + 1) c3) rs' → rs'.length = BU → Calls Tryz.prog 62 #[.pointer (some ⟨q, 0, none⟩), .slice (some ⟨g, 0, none⟩) (hand.length + 1) c3] w4 fun e w' => ∃ (Y' : Yv) (ids' : List Nat) (c : Int), e = .returned (.int .i64 c) ∧ So w4 w' b y m q B ks ((BU : Int), false) Y' none ids' F1 ∧ Lst w' (.slice (some ⟨g, 0, none⟩) (hand.length + 1) c3) rs' ∧ ((c = 0 ∧ Laid rs' Y1 Y' ∧ ids' = ids ++ [Y1.runs.length]) ∨ (c = Y1.cd ∧ Rfd Y1 Y'))) := fun w4 rs' q1 q2 q3 => by
            have hg := (unhide HG).g
            have ehd : Y1.held = Y.held + 1 := by rw [unhide HY1]; rfl
            have emo : Y1.most = if Y.held + 1 > Y.most then Y.held + 1 else Y.most := by rw [unhide HY1]; rfl
            have eru : Y1.runs = Y.runs := by rw [unhide HY1]; rfl
            have epu : Y1.puts = Y.puts := by rw [unhide HY1]; rfl
            have hcn := unhide HCNT
            have hh := hg.held
            have hrn : Y.runs.length * 4 ≤ Y.runs.length * BU := Nat.mul_le_mul_left _ hb1
            have hfl := flat_all (fun r hr => (hg.runs r hr).1)
            refine lay_any q1 q2 (fun g e => (unhide HVB3 g e).1) (by omega) (by rw [unhide HY1]; exact unhide HIT) (unhide HCD1) (by rw [ehd, hh, q3]; have := unhide HFE; omega) (by rw [ehd, hh]; omega) (by rw [ehd, emo]; split <;> omega) (by rw [eru]; omega) (by rw [hg.ids, List.length_range]; omega) (by rw [epu, hg.puts]; omega) (by rw [epu, hg.puts, hfl, q3]; omega)
          clear hfe hcd1 hcd0 hfull i1 hN1e
          have i1 := unhide HI1
          go_upto_region 10 with (first | (go_at_call 61; refine (unhide HSo).mono ?_; rintro _ w4 ⟨rfl, hand', p1, p2, p3, p4, p5⟩; have HP1 := hide p1; have HP2 := hide p2; have HP3 := hide p3; have HP4 := hide p4; have HP5 := hide p5; clear p1 p2 p3 p4 p5))
          have hcq4 : w4.cell? ⟨q, 3, none⟩ = some (.int .i64 (BU : Int)) := by
            obtain ⟨_, _, _, _, _, _, _, _, hq, _⟩ := unhide HP4
            exact hq.c3
          have hl4 : hand'.length = BU := by rw [(unhide HP1).length_eq, List.length_append]; exact unhide HFE
          have HL4 := hide hl4
          have HLC := hide (unhide HLAY w4 hand' (unhide HP4) (by have := unhide HP3; exact this) hl4)
          have eq2 : IntKind.i64.wrap ((BU : Int).tdiv 2) = (BU : Int) / 2 := IntWalk.i64_quo _ _ (by omega)
          have i10 : (BU : Int) / 2 < ((hand.length + 1 : Nat) : Int) := by omega
          clear hl4
          go_upto_region 12 with (first | (go_at_call 62; refine (unhide HLC).mono ?_; rintro _ w5 ⟨Y5, ids5, c5, rfl, hSo5, hL5, hc5⟩; have HSo5 := hide hSo5; have HL5 := hide hL5; have HC5 := hide hc5; clear hSo5 hL5 hc5))
          obtain ⟨F2, b1, b2, b3, b4⟩ := unhide HSo5
          have s35 : w3.heap.size ≤ w4.heap.size := (unhide HP5).size
          have s45 := b4.size
          have sw3 := (unhide HKy3).size
          have nw2 : Nw F F2 w := fun j e => by
            rcases b1 j e with r | r
            · exact (unhide HG).nw j r
            · exact .inr (by omega)
          have hk5 : Ky (fun j => F j ∨ j = s) w w5 := ((unhide HKy3).trans (unhide HP5) (fun j e => .inr (by injection e with e; subst e; exact gB.2))).trans b4 (fun j e => ((unhide HG).nw j e).imp .inl id)
          have gF2 : ¬ F2 g := fun e => by
            rcases b1 g e with r | r
            · exact gB.1 r
            · omega
          rcases unhide HC5 with ⟨rfl, p1, p2⟩ | ⟨rfl, p1⟩
          · obtain ⟨w6, hclr, hL6, hK6⟩ := clear_lst (unhide HL5) (by rw [unhide HL4]; exact unhide HFE) (by omega)
            have hsl := slice_to0 g (hand.length + 1) c3
            have HL6 := hide hL6
            have HK6 := hide hK6
            have HB3 := hide b3
            have HP := hide (And.intro p1 p2)
            have HNW2 := hide nw2
            have HK5 := hide hk5
            have hs4 : Stm w0 w4 s b aR cR rs (k + 1) := (unhide HS3).ky (unhide HP5) (fun e => by injection e with e; exact ns6 |> fun _ => (((unhide HL3).tg (g := g) rfl).ne (unhide HS3).tg (by decide) e)) (fun j e => by have ej : g = j := (by injection e); exact Bs.new (unhide HBL) (by omega))
            have hs5 : Stm w0 w5 s b aR cR rs (k + 1) := hs4.ky b4 (unhide HNS) (unhide HF1)
            have hs6 : Stm w0 w6 s b aR cR rs (k + 1) := hs5.ky hK6 (fun e => by subst e; exact (((unhide HL3).tg (g := s) rfl).ne (unhide HS3).tg (by decide) rfl)) (fun j e => by subst e; exact Bs.new (unhide HBL) (by omega))
            have hc26 := hs6.c2
            have HS6 := hide hs6
            have HMN := hide b2
            clear hL6 hK6 b3 p1 p2 nw2 hk5 hs4 hs5 hs6 b2 HC5
            go_wp2
            go_roundw
            case rel =>
              refine ⟨rfl, rfl, k + 1, [], Y5, ids5, fun j => F2 j ∧ j < w6.heap.size, ⟨by omega, fun j e => unhide HNW2 j e.1, fun j e => ⟨unhide HMN j ((unhide HG).mono j e), ?_⟩, ((unhide HB3).ky (unhide HK6) (fun j e => by subst e; exact gF2) nyg).cut, (unhide HK5).trans (unhide HK6) (fun j e => .inr (by subst e; exact gB.2)), unhide HL6, fun j e => ?_, unhide HS6, ?_, ?_, fun j e => e.2⟩, trivial⟩
              · have := unhide HLIM j ((unhide HG).mono j e); have := (unhide HK6).size; omega
              · injection e with e
                subst e
                exact ⟨fun k => gF2 k.1, gB.2⟩
              · have e1 : Y1.runs = Y.runs := by rw [unhide HY1]; rfl
                have := (unhide HG).g.lay (unhide HX) (unhide HFE) (unhide HY1) (unhide HP1) (unhide HP2) (unhide HP).1
                rw [(unhide HP).2, e1]
                exact this
              · exact .inl (by rw [(unhide HP).1.cd]; exact unhide HCD1)
            case measure => rw [hc2, hc26]; simp; omega
          · have hcd' : (Y1.cd != 0) = true := by simpa using unhide HCD1
            have HB3 := hide b3
            have HP := hide p1
            have HNW2 := hide nw2
            have HK5 := hide hk5
            have HMN := hide b2
            clear b3 p1 nw2 hk5 b2 HC5
            go_wp2
            have ecd : Y1.cd = Y0.cd := by rw [unhide HY1]; exact (unhide HG).g.cd
            have emo : Y1.most ≤ BU := by
              have e : Y1.most = if Y.held + 1 > Y.most then Y.held + 1 else Y.most := by rw [unhide HY1]; rfl
              have h1 := (unhide HG).g.held
              have h2 := (unhide HG).g.most
              have h3 := unhide HFE
              rw [e]; split <;> omega
            have p := unhide HP
            exact bodyPost_ret (v := .tuple #[.slice none 0 0, .int .i64 Y1.cd]) (by simp [results, Tryz.results38, go_sem]) rfl ⟨_, _, Y5, ids5, F2, rfl, unhide HNW2, fun j e => unhide HMN j ((unhide HG).mono j e), unhide HB3, unhide HK5, .inr ⟨ecd, unhide HCD0, p.rd, p.calls, p.rf.trans (by rw [unhide HY1]; exact (unhide HG).g.rf), p.cd.trans ecd, p.out.trans (by rw [unhide HY1]; exact (unhide HG).g.out), by rw [p.most]; exact emo, by
              have h1 := unhide HCNT
              have h2 : Y.runs.length * 4 ≤ Y.runs.length * BU := Nat.mul_le_mul_left _ hb1
              have h3 := p.runs
              have h4 : Y1.runs = Y.runs := by rw [unhide HY1]; rfl
              rw [h4] at h3
              omega⟩⟩
      · have hke : k = rs.length := by have := hG.kk; omega
        have HC := hide (snext_end (rs := rs) pP (by have := hG.st; rw [hke] at this; exact this) nsF00 hF00 hG.g.rd hit)
        have HO := hide (fun w => own_no 0 false w (.inl rfl))
        obtain ⟨a6, c6, e6⟩ := hG.l.form
        subst e6
        have ns6 : ¬ (Value.slice a6 hand.length c6).ownBlock = some s := fun e => (hG.l.tg e).ne hG.st.tg (by decide) rfl
        have HSo : Hid (∀ w1, Sw w1 b y m q B ks ((BU : Int), false) Y.tick none ids F1 → Ky (fun j => j = b ∨ j = s) wr w1 → Calls Tryz.prog 61 #[.pointer (some ⟨q, 0, none⟩), .slice a6 hand.length c6] w1 fun e w' => e = .returned (.slice a6 hand.length c6) ∧ ∃ rs', rs'.Perm hand ∧ rs'.Pairwise (fun x y => ordG ks x y ≤ 0) ∧ Lst w' (.slice a6 hand.length c6) rs' ∧ Sw w' b y m q B ks ((BU : Int), false) Y.tick none ids F1 ∧ Ky (fun k => (Value.slice a6 hand.length c6).ownBlock = some k) w1 w') := fun w1 q1 q2 =>
          sorted_any q1 (hG.l.ky q2 (fun g e k => by
            rcases k with k | k
            · exact (hG.vb g e).1 (k ▸ pF b pP.1)
            · exact ns6 (k ▸ e))) (by omega) (fun g e => (hG.vb g e).1)
        have HIT := hide hit
        have HKE := hide hke
        clear hit pP pF pB nbs hG hke nsF1 nsF00 hF00 hF1 hcnt hheld hlt hk
        go_wp2_with (first
          | (go_at_call 161; refine (unhide HC).mono ?_; rintro _ w1 ⟨rfl, hP1, hS1, hK1⟩; have HSW1 := hide (unhide HPB w1 _ hP1 hK1 rfl); have HK1 := hide hK1; have HS61 := hide (unhide HSo w1 (unhide HSW1) hK1); clear hP1 hS1 hK1)
          | (go_at_call 60; refine (unhide HO _).mono ?_; rintro _ w9 ⟨rfl, hw9⟩; rw [hw9]; clear hw9)
          | (go_at_call 61; refine (unhide HS61).mono ?_; rintro _ w2 ⟨rfl, hand', p1, p2, p3, p4, p5⟩))
        have hG := unhide HG
        have hlen : hand'.length = hand.length := p1.length_eq
        refine bodyPost_ret (v := .tuple #[.slice a6 hand.length c6, .int .i64 0]) (by simp [results, Tryz.results38, go_sem]) rfl ⟨_, _, Y.tick, ids, F1, rfl, hG.nw, hG.mono, p4, (hG.ky.trans (unhide HK1) (unhide HNBS)).trans p5 (fun j e => .inr (hG.vb j e).2), .inl ⟨rfl, hand', p3, fun g e => (hG.vb g e).1, ?_, p2, ?_⟩⟩
        · have g := hG.g
          rw [unhide HKE] at g
          exact ⟨unhide HIT, g.rf, g.cd, g.out, by rw [hlen]; exact g.held, g.most, g.hm, by rw [hlen]; exact g.lt, g.runs, g.ids, g.there, (List.Perm.append (List.Perm.refl _) p1).trans g.perm, g.puts⟩
        · exact ((hG.sf.less (k := rs.length + 1) (by omega)).tick)
    · have hcd : Y.cd ≠ 0 := (hG.sf.less (k := (rs.length - k + rs.length) + 1) (by omega)).hit hit
      have HC := hide (snext_hit pP hG.st nsF00 hF00 hG.g.rd hit hcd)
      have HO := hide (fun w => own_no Y.cd false w (.inl rfl))
      have hcd' : (Y.cd != 0) = true := by simpa using hcd
      have HIT := hide hit
      clear hit pP pF pB nbs hG
      go_wp2_with (first | (go_at_call 161; refine (unhide HC).mono ?_; rintro _ w1 ⟨rfl, hP1, hS1, hK1⟩) | (go_at_call 60; refine (unhide HO _).mono ?_; rintro _ w9 ⟨rfl, hw9⟩; rw [hw9]; clear hw9))
      have hG := unhide HG
      have q := Rfd.gth hG.g (tick_rfd (unhide HIT)) hG.kk hb1
      exact bodyPost_ret (v := .tuple #[.slice none 0 0, .int .i64 Y.cd]) (by simp [results, Tryz.results38, go_sem]) rfl ⟨_, _, Y.tick, ids, F1, rfl, hG.nw, hG.mono, unhide HPB w1 _ hP1 hK1 rfl, hG.ky.trans hK1 (unhide HNBS), .inr ⟨hG.g.cd, by rw [← hG.g.cd]; exact hcd, q⟩⟩
end Go.Proofs.YtcbenpodohjbiaaGreat

import Derived.Test.YtcbenpodohjbiaaGreatOnN
import Derived.Test.YtcbenpodohjbiaaGreatSpW
set_option linter.unusedSimpArgs false
set_option linter.unusedVariables false
set_option maxRecDepth 100000
namespace Go.Proofs.YtcbenpodohjbiaaGreat
open Go.RowKit Go.Sort

/-- A round of gather begins. -/
structure GI1 (w0 : Bs) (w wr : World) (b y m q B s : Nat) (BU : Nat) (aR : Option Addr) (cR : Nat) (rs : List (List Val)) (Y0 : Yv) (F : Nat → Prop) (k : Nat) (v : Value) (hand : List (List Val)) (Y : Yv) (ids ms : List Nat) (hw : Nat) (F1 : Nat → Prop) : Prop where
  kk : k ≤ rs.length
  nw : Nw F F1 w
  mono : ∀ j, F j → F1 j
  sw : Sw wr b y m q B [] ((BU : Int), true) Y none ids F1
  ky : Ky (fun j => F j ∨ j = s) w wr
  l : Lst wr v hand
  vb : ∀ g, v.ownBlock = some g → ¬ F1 g ∧ w.heap.size ≤ g
  st : Stm w0 wr s b aR cR rs k
  g : Gth1 rs k hand BU Y0 Y ids ms hw
  sf : Safe Y (rs.length - k + 1 + rs.length)
  lim : ∀ j, F1 j → j < wr.heap.size
/-- What gather answers. -/
def GatherO (w0 : Bs) (w : World) (b y m q B s : Nat) (BU : Nat) (rs : List (List Val)) (Y0 : Yv) (F : Nat → Prop) (e : Ending) (w' : World) : Prop :=
  ∃ (v : Value) (c : Int) (Y : Yv) (ids : List Nat) (F1 : Nat → Prop), e = .returned (.tuple #[v, .int .i64 c]) ∧ Nw F F1 w ∧ (∀ j, F j → F1 j) ∧ Sw w' b y m q B [] ((BU : Int), true) Y none ids F1 ∧ Ky (fun j => F j ∨ j = s) w w' ∧
    ((c = 0 ∧ ∃ hand ms hw, Lst w' v hand ∧ (∀ g, v.ownBlock = some g → ¬ F1 g) ∧ Gth1 rs rs.length hand BU Y0 Y ids ms hw ∧ Rs hand ∧ Safe Y rs.length) ∨
     (c = Y0.cd ∧ Y0.cd ≠ 0 ∧ Y.rd = true ∧ Y.calls = Y.rf ∧ Y.rf = Y0.rf ∧ Y.cd = Y0.cd ∧ Y.out = Y0.out ∧ Y.most ≤ BU ∧ Y.runs.length * 4 ≤ rs.length + 4))

theorem Rfd.gth1 {rs hand : List (List Val)} {k BU : Nat} {Y0 Y Y' : Yv} {ids ms : List Nat} {hw : Nat} (h : Gth1 rs k hand BU Y0 Y ids ms hw) (hr : Rfd Y Y') (hk : k ≤ rs.length) (hb : 4 ≤ BU) : Y'.rd = true ∧ Y'.calls = Y'.rf ∧ Y'.rf = Y0.rf ∧ Y'.cd = Y0.cd ∧ Y'.out = Y0.out ∧ Y'.most ≤ BU ∧ Y'.runs.length * 4 ≤ rs.length + 4 :=
  ⟨hr.rd, hr.calls, hr.rf.trans h.rf, hr.cd.trans h.cd, hr.out.trans h.out, by rw [hr.most]; exact h.most, by
    have h1 := h.count
    have h2 : Y.runs.length * 4 ≤ Y.runs.length * BU := Nat.mul_le_mul_left _ hb
    have h3 := hr.runs
    omega⟩
theorem Gth1.fin {rs hand W : List (List Val)} {k BU : Nat} {Y0 Y Y2 : Yv} {ids ms : List Nat} {hw d : Nat} (h : Gth1 rs k hand BU Y0 Y ids ms hw) (hh : Y.hit = false) (hs : Srt1 hand W) (hd : W.length + d = hand.length) (hl : Less Y.tick Y2 d) : Gth1 rs k W BU Y0 Y2 ids ms hw := by
  have b1 := h.held
  have b3 := h.hm
  have b4 := h.lt
  have b5 := h.hl
  have er : Y2.runs = Y.runs := hl.runs
  have e1 : Y.tick.held = Y.held := rfl
  have e2 : Y.tick.most = Y.most := rfl
  exact ⟨hl.rd.trans hh, hl.rf.trans h.rf, hl.cd.trans h.cd, hl.out.trans h.out, by rw [hl.held, e1, b1]; omega, by rw [hl.most, e2]; exact h.most, by rw [hl.held, hl.most, e1, e2]; omega, by omega, by rw [er]; exact h.runs, by rw [er]; exact h.eids, by rw [er, hl.there]; exact h.there, fun x => by rw [er, ← h.mem x, hs.mem x], by rw [er]; exact h.lens, h.big, h.tot, by omega, by rw [er, hl.puts]; exact h.puts⟩

set_option maxHeartbeats 8000000 in
/-- gather (38), where each row is wanted once. -/
theorem gather_once {F : Nat → Prop} {w0 : Bs} {w : World} {b y m q B s : Nat} {BU : Nat} {aR : Option Addr} {cR : Nat} {rs : List (List Val)} {Y0 : Yv} (hb1 : 4 ≤ BU) (hb2 : BU ≤ 65536) (hn : rs.length ≤ 1048576) (hrl : ∀ r ∈ rs, r.length ≤ 1048576) (hI : w0.Rows aR rs) (hF : ∀ j, F j → w0.No j) (hsF : ¬ F s) (hs0 : w0.No s) (hsy : s ≠ y)
    (hsafe : Y0.cd ≠ 0 ∨ rs.length < BU) (h0 : GI1 w0 w w b y m q B s BU aR cR rs Y0 F 0 (.slice none 0 0) [] Y0 [] [] 0 F) :
    Calls Tryz.prog 38 #[.pointer (some ⟨q, 0, none⟩), .iface 66 (.pointer (some ⟨s, 0, none⟩))] w fun e w' => GatherO w0 w b y m q B s BU rs Y0 F e w' := by
  have hm : ∀ w : World, (method 297 66 (.pointer (some ⟨s, 0, none⟩)) "Next").run Tryz.prog w = .ok (161, .pointer (some ⟨s, 0, none⟩)) w := fun _ => by kernel_rfl
  have H0 := hide h0
  have HF := hide hF
  have HI := hide hI
  have HRL := hide hrl
  have HSF := hide hsafe
  have hslt : s < w.heap.size := h0.st.tg.lt
  have HBL := hide h0.st.bl
  clear h0 hF hI hrl hsafe
  go_enter Tryz.func38, Tryz.ntmps38
  go_wp2_with fail
  go_loopw [4, 5, 6] (fun r e l wr => r = .slice none 0 0 ∧ e = .int .i64 0 ∧ ∃ k hand Y ids ms hw F1, Hid (GI1 w0 w wr b y m q B s BU aR cR rs Y0 F k l hand Y ids ms hw F1) ∧ True) (fun _ _ _ wr => match wr.cell? ⟨s, 2, none⟩ with | some (.int _ k) => rs.length - k.toNat | _ => 0)
  case atStart => exact ⟨rfl, rfl, 0, [], Y0, [], [], 0, F, H0, trivial⟩
  case round =>
    obtain ⟨rfl, rfl, k, hand, Y, ids, ms, hw, F1, HG, _⟩ := hrel
    rename Value => l6
    have hG := unhide HG
    have nsF1 : ¬ F1 s := fun e => by
      rcases hG.nw s e with r | r
      · exact hsF r
      · omega
    have hF1 : ∀ j, F1 j → w0.No j := fun j e => by
      rcases hG.nw j e with r | r
      · exact unhide HF j r
      · exact Bs.new (unhide HBL) r
    obtain ⟨F00, pP, pF, pB⟩ := hG.sw.beneath nsF1 hsy
    have nsF00 : ¬ F00 s := fun e => nsF1 (pF s e)
    have hF00 : ∀ j, F00 j → w0.No j := fun j e => hF1 j (pF j e)
    have hcnt := hG.g.count
    have hheld := hG.g.held
    have hlt := hG.g.lt
    have nbs : Nw (fun j => F j ∨ j = s) (fun j => j = b ∨ j = s) w := fun j e => by
      rcases e with e | e
      · subst e
        rcases hG.nw j (pF j pP.1) with r | r
        · exact .inl (.inl r)
        · exact .inr r
      · exact .inl (.inr e)
    have HNBS := hide nbs
    have HPB := hide pB
    cases hit : Y.hit
    · by_cases hk : k < rs.length
      · obtain ⟨r, hx⟩ : ∃ r, rs[k]? = some r := ⟨_, List.getElem?_eq_getElem hk⟩
        have hrl := unhide HRL r (List.mem_of_getElem? hx)
        have HC := hide (snext_row pP hG.st (unhide HI) hx hrl hn nsF00 hs0 hF00 hG.g.rd hit (by rw [hheld]; omega) (by rw [hheld]; omega))
        obtain ⟨a6, c6, e6⟩ := hG.l.form
        have HX := hide hx
        have HIT := hide hit
        have HCNT := hide hcnt
        have HHELD := hide hheld
        have HNS := hide nsF1
        have HHL : Hid (hand.length + 1 ≤ 4398046511104) := by show _ ≤ _; omega
        have HLT := hide hlt
        have HF1 := hide hF1
        subst e6
        have ny6 : ¬ (Value.slice a6 hand.length c6).ownBlock = some y := fun e => (hG.vb y e).1 |> fun _ => by
          obtain ⟨_, _, _, _, _, _, _, hyw, _⟩ := hG.sw
          exact (hG.l.tg e).ne hyw.tgy (by decide) rfl
        have ns6 : ¬ (Value.slice a6 hand.length c6).ownBlock = some s := fun e => (hG.l.tg e).ne hG.st.tg (by decide) rfl
        have HLg : Hid (∀ w1 w3 : World, Ky (fun j => j = b ∨ j = s) wr w1 → Below w1.heap.size w1 w3 → Lst w3 (.slice a6 hand.length c6) hand) := fun w1 w3 k1 b1 => (hG.l.ky k1 (fun g e k => by
          rcases k with k | k
          · exact (hG.vb g e).1 (k ▸ pF b pP.1)
          · exact ns6 (k ▸ e))).later b1
        clear hx hit hcnt hheld nsF1 nsF00 hF00 hF1 pP pF pB nbs hG hlt
        go_upto_region 8 with (first
          | (go_at_call 161; refine (unhide HC).mono ?_; rintro _ w1 ⟨v1, rfl, ⟨a1, c1, rfl, hq1, hl1⟩, hP1, hS1, hK1⟩; have HO := hide (own_yes a1 c1 r w1 hl1 hq1.at); have HSW1 := hide (unhide HPB w1 _ hP1 hK1 rfl); have HS1 := hide hS1; have HK1 := hide hK1; clear hP1 hS1 hK1 hq1)
          | (go_at_call 60; refine (unhide HO).mono ?_; rintro _ w2 ⟨v2, rfl, ⟨a2, c2, rfl, hq2, hl2⟩, hb2⟩; have HB2 := hide hb2; have HBA := hide (below_alloc hb2 (.cells #[.slice a2 (cleanR r).length c2] 70)); have HL2 := hide (unhide HLg w1 _ (unhide HK1) (unhide HBA)); have HQ2 : Hid (Rw (w2.alloc (.cells #[.slice a2 (cleanR r).length c2] 70)) (.slice a2 (cleanR r).length c2) (cleanR r)) := ⟨a2, c2, rfl, hq2.later (below_alloc (Below.refl _ w2) _), hl2⟩; clear hb2 hq2 hl2)
          | (at_builtin; refine wpList_push_lst (w2.alloc (.cells #[.slice a2 (cleanR r).length c2] 70)) rfl (.tmp 29) (.tmp 31) rfl (.slice a6 hand.length c6) hand (cleanR r) rfl (unhide HL2) w2.heap.size (.slice a2 (cleanR r).length c2) rfl (by simp [go_sem]) (unhide HQ2) (unhide HHL) ?_; intro v3 w3 hL3 hg3 hK3; have HL3 := hide hL3; have HG3 := hide hg3; have HK3 := hide hK3; clear hL3 hg3 hK3))
        obtain ⟨a3, c3, e3⟩ := (unhide HL3).form
        rw [List.length_append] at e3
        change v3 = .slice a3 (hand.length + 1) c3 at e3
        subst e3
        obtain ⟨Y1, hY1⟩ : ∃ Y1, Y1 = Y.tick.hold 1 := ⟨_, rfl⟩
        rw [← hY1] at HSW1
        have HY1 := hide hY1
        clear hY1
        have hSW3 := ((unhide HSW1).later (unhide HBA)).ky (unhide HK3) (fun g e => (unhide HG).vb g e |>.1) ny6
        have hS3 := ((unhide HS1).later (unhide HBA)).ky (unhide HK3) ns6 (fun g e => Bs.new (unhide HBL) ((unhide HG).vb g e).2)
        have hk3 : Ky (fun j => F j ∨ j = s) w w3 := (((unhide HG).ky.trans (unhide HK1) (unhide HNBS)).trans (Ky.of_below (unhide HBA)) (Nw.refl _ _)).trans (unhide HK3) (fun g e => .inr ((unhide HG).vb g e).2)
        have hvb3 : ∀ g, (Value.slice a3 (hand.length + 1) c3).ownBlock = some g → ¬ F1 g ∧ w.heap.size ≤ g := fun g e => by
          rcases (unhide HG3).2 with r | ⟨r, r1, r2⟩
          · exact (unhide HG).vb g (by rw [← r]; exact e)
          · rw [r1] at e
            injection e with e
            subst e
            have s1 := (unhide HBA).size
            have s2 := (unhide HK1).size
            have s3 := (unhide HG).ky.size
            exact ⟨fun f => by have := (unhide HG).lim r f; omega, by omega⟩
        have hcq : w3.cell? ⟨q, 3, none⟩ = some (.int .i64 (BU : Int)) := by
          obtain ⟨_, _, _, _, _, _, _, _, hq, _⟩ := hSW3
          exact hq.c3
        have HSW3 := hide hSW3
        have HS3 := hide hS3
        have HKy3 := hide hk3
        have HVB3 := hide hvb3
        have hc2 := (unhide HG).st.c2
        have hc23 := hS3.c2
        have hlim : ∀ j, F1 j → j < w3.heap.size := fun j e => by
          have s0 := (unhide HG).lim j e
          have s1 := (unhide HBA).size
          have s2 := (unhide HK1).size
          have s3 := (unhide HK3).size
          omega
        have HLIM := hide hlim
        have HSF1 : Hid (Safe Y1 (rs.length - (k + 1) + 1 + rs.length)) := by
          have q := ((unhide HG).sf.less (k := (rs.length - (k + 1) + 1 + rs.length) + 1) (by omega)).tick
          exact q.of (by rw [unhide HY1]; rfl) (by rw [unhide HY1]; rfl) (by rw [unhide HY1]; rfl)
        clear hSW3 hS3 hk3 hvb3 hlim
        have hhl := unhide HLT
        by_cases hfull : hand.length + 1 < BU
        · have i1 : ((hand.length + 1 : Nat) : Int) < (BU : Int) := by omega
          go_wp2
          go_roundw
          case rel => exact ⟨rfl, rfl, k + 1, hand ++ [cleanR r], Y1, ids, ms, hw + 1, F1, ⟨by omega, (unhide HG).nw, (unhide HG).mono, unhide HSW3, unhide HKy3, unhide HL3, unhide HVB3, unhide HS3, (unhide HG).g.more (unhide HX) hfull (unhide HY1) (unhide HIT), unhide HSF1, unhide HLIM⟩, trivial⟩
          case measure => rw [hc2, hc23]; simp; omega
        · have hfe : hand.length + 1 = BU := by omega
          have i1 : ¬ ((hand.length + 1 : Nat) : Int) < (BU : Int) := by omega
          have hcd0 : Y0.cd ≠ 0 := by
            rcases unhide HSF with r | r
            · exact r
            · exfalso; have := unhide HCNT; have := (unhide HG).g.hl; omega
          have hcd1 : Y1.cd ≠ 0 := by rw [unhide HY1]; show Y.cd ≠ 0; rw [(unhide HG).g.cd]; exact hcd0
          obtain ⟨g, ea⟩ : ∃ g, a3 = some ⟨g, 0, none⟩ := by
            obtain ⟨x0, hx0⟩ : ∃ x0, (hand ++ [cleanR r])[0]? = some x0 := ⟨_, List.getElem?_eq_getElem (by simp)⟩
            obtain ⟨g, c', _, _, ev, _⟩ := (unhide HL3).get hx0
            injection ev with ev _ _
            exact ⟨g, ev⟩
          subst ea
          have gB := unhide HVB3 g rfl
          have nyg : ¬ y = g := fun e => by
            subst e
            obtain ⟨_, _, _, _, _, _, _, hyw, _⟩ := unhide HSW3
            exact ((unhide HL3).tg (g := y) rfl).ne hyw.tgy (by decide) rfl
          have gl3 : g < w3.heap.size := ((unhide HL3).tg (g := g) rfl).lt
          have hcl3 : ∀ x ∈ hand ++ [cleanR r], cleanR x = x := fun x hx => by
            rcases List.mem_append.1 hx with q | q
            · exact (unhide HG).g.clean x (.inr q)
            · simp at q; subst q; exact cleanR_clean r
          have eh1 : Y1.held = Y.held + 1 := by rw [unhide HY1]; rfl
          have em1 : Y1.most = if Y.held + 1 > Y.most then Y.held + 1 else Y.most := by rw [unhide HY1]; rfl
          have er1 : Y1.runs = Y.runs := by rw [unhide HY1]; rfl
          have ep1 : Y1.puts = Y.puts := by rw [unhide HY1]; rfl
          have ed1 : Y1.rd = false := by rw [unhide HY1]; exact unhide HIT
          have hgh := (unhide HG).g.held
          have hgm := (unhide HG).g.most
          have hhm1 : Y1.held ≤ Y1.most := by rw [eh1, em1]; split <;> omega
          have hmo1 : Y1.most ≤ BU := by rw [em1]; split <;> omega
          have HSo := hide (sorted_once (unhide HSW3) (unhide HL3) (by rw [List.length_append]; simp; omega) (fun g e => (unhide HVB3 g e).1) hcl3 (by rw [eh1, hgh, List.length_append]; simp) (by rw [eh1, hgh]; omega))
          have HFE := hide hfe
          have HCD1 := hide hcd1
          have HCD0 := hide hcd0
          have HHM1 := hide hhm1
          have HMO1 := hide hmo1
          have HE1 := hide (And.intro eh1 (And.intro er1 (And.intro ep1 ed1)))
          have HGH := hide hgh
          clear hcl3 eh1 em1 er1 ep1 ed1 hgh hgm hhm1 hmo1 hcd0 hcd1 hfe hfull
          go_upto_region 10 with (first | (go_at_call 61; refine (unhide HSo).mono ?_; rintro _ w4 ⟨v4, W4, d4, F4, rfl, p1, p2, p3, p4, p5, p6, p7, p8, p9⟩; have HP1 := hide p1; have HP2 := hide p2; have HP3 := hide p3; have HP4 := hide p4; have HP5 := hide p5; have HP6 := hide p6; have HP7 := hide p7; have HP8 := hide p8; have HP9 := hide p9; clear p1 p2 p3 p4 p5 p6 p7 p8 p9))
          obtain ⟨Y2, hY2⟩ : ∃ Y2, (if d4 = 0 then Y1 else Y1.hold (-(d4 : Int))) = Y2 := ⟨_, rfl⟩
          have hLs : Less Y1 Y2 d4 := by rw [← hY2]; exact less_of Y1 d4 (unhide HHM1)
          rw [hY2] at HP7
          have HLS := hide hLs
          clear hY2 hLs
          have hcq4 : w4.cell? ⟨q, 3, none⟩ = some (.int .i64 (BU : Int)) := by
            obtain ⟨_, _, _, _, _, _, _, _, hq, _⟩ := unhide HP7
            exact hq.c3
          obtain ⟨a4, c4, e4⟩ := (unhide HP4).form
          have hd4 := unhide HP3
          rw [List.length_append] at hd4
          change W4.length + d4 = hand.length + 1 at hd4
          have HD4 := hide hd4
          have g4 : (Value.slice a4 W4.length c4).ownBlock = some g := by rw [← e4]; exact unhide HP1
          obtain rfl : a4 = some ⟨g, 0, none⟩ := by
            cases a4 with
            | none => cases g4
            | some z =>
              have h0 := (unhide HP4)
              rw [e4] at h0
              obtain ⟨us, _, ho, _⟩ := h0
              rcases ho.2 with ⟨e, _⟩ | ⟨g', cap', cur, e, _⟩
              · cases e
              · injection e with e _ _
                injection e with e
                have : g' = g := by rw [e] at g4; injection g4
                rw [e, this]
          subst e4
          have eq2 : IntKind.i64.wrap ((BU : Int).tdiv 2) = (BU : Int) / 2 := IntWalk.i64_quo _ _ (by omega)
          have s34 : w3.heap.size ≤ w4.heap.size := (unhide HP9).size
          have sw3 := (unhide HKy3).size
          have nw4 : Nw F F4 w := (unhide HG).nw.trans (fun j e => (unhide HP5 j e).imp id fun q => by omega) (Nat.le_refl _)
          have ny4 : ∀ j, (Value.slice (some ⟨g, 0, none⟩) (hand.length + 1) c3).ownBlock = some j → j = g := fun j e => by injection e with e; exact e.symm
          have hk4 : Ky (fun j => F j ∨ j = s) w w4 := (unhide HKy3).trans (unhide HP9) (fun j e => by
            rcases e with e | e
            · exact ((unhide HG).nw j e).imp .inl id
            · rw [ny4 j e]; exact .inr gB.2)
          have gF4 : ¬ F4 g := unhide HP8 g rfl
          have hs4 : Stm w0 w4 s b aR cR rs (k + 1) := (unhide HS3).ky (unhide HP9) (fun e => by
            rcases e with e | e
            · exact unhide HNS e
            · exact (((unhide HL3).tg (g := s) e).ne (unhide HS3).tg (by decide) rfl)) (fun j e => by
            rcases e with e | e
            · exact unhide HF1 j e
            · rw [ny4 j e]; exact Bs.new (unhide HBL) (by omega))
          have hc24 := hs4.c2
          have HNW4 := hide nw4
          have HK4 := hide hk4
          have HS4 := hide hs4
          have hM4 : W4.length ≤ 65536 := by omega
          obtain ⟨M4, hM4e⟩ : ∃ M4, W4.length = M4 := ⟨_, rfl⟩
          have HL4 := hide (unhide HP4)
          rw [hM4e] at HL4 hM4 hd4
          have HM4 := hide hM4e
          have HSF2 : Hid (Safe Y2 (rs.length - (k + 1) + 1 + rs.length)) := (unhide HSF1).of (unhide HLS).cd (unhide HLS).rf (unhide HLS).calls
          clear nw4 hk4 hs4 g4 HP4
          rw [hM4e]
          clear hM4e
          by_cases hbig : BU / 2 < M4
          · have i10 : (BU : Int) / 2 < (M4 : Int) := by omega
            have hE := unhide HE1
            have hLS := unhide HLS
            have hgh := unhide HGH
            have hcn := unhide HCNT
            have hm4 := unhide HM4
            have hrn : Y.runs.length * 4 ≤ Y.runs.length * BU := Nat.mul_le_mul_left _ hb1
            have h2h : Y2.held = (M4 : Int) := by rw [hLS.held, hE.1, hgh]; omega
            have h2m : Y2.held ≤ Y2.most := by rw [hLS.held, hLS.most]; have := unhide HHM1; omega
            have h2r : Y2.runs = Y.runs := by rw [hLS.runs, hE.2.1]
            have h2p : Y2.puts = (Y.runs.flatten.length : Nat) := by rw [hLS.puts, hE.2.2.1, (unhide HG).g.puts]
            have h2c : Y2.cd ≠ 0 := by rw [hLS.cd]; exact unhide HCD1
            have hil : ids.length = Y.runs.length := by rw [(unhide HG).g.eids, List.length_range]
            have HLC := hide (lay_any (unhide HP7) (unhide HL4) (fun j e => by injection e with e; subst e; exact gF4) (by omega) (by rw [hLS.rd]; exact hE.2.2.2) h2c (by rw [h2h, hm4]; exact Int.le_refl _) (by rw [h2h]; omega) h2m (by rw [h2r]; omega) (by omega) (by rw [h2p]; omega) (by rw [h2p, hm4]; omega))
            have H2R := hide h2r
            have H2C := hide h2c
            clear hE hLS hgh hcn hm4 h2h h2m h2p hil h2c h2r
            go_upto_region 12 with (first | (go_at_call 62; refine (unhide HLC).mono ?_; rintro _ w5 ⟨Y5, ids5, c5, rfl, hSo5, hL5, hc5⟩; have HSo5 := hide hSo5; have HL5 := hide hL5; have HC5 := hide hc5; clear hSo5 hL5 hc5))
            obtain ⟨F2, b1, b2, b3, b4⟩ := unhide HSo5
            have s45 := b4.size
            have nw2 : Nw F F2 w := fun j e => by
              rcases b1 j e with r | r
              · exact unhide HNW4 j r
              · exact .inr (by omega)
            have hk5 : Ky (fun j => F j ∨ j = s) w w5 := (unhide HK4).trans b4 (fun j e => (unhide HNW4 j e).imp .inl id)
            have gF2 : ¬ F2 g := fun e => by
              rcases b1 g e with r | r
              · exact gF4 r
              · omega
            have nsF4 : ¬ F4 s := fun e => by
              rcases unhide HNW4 s e with r | r
              · exact hsF r
              · omega
            have hF4 : ∀ j, F4 j → w0.No j := fun j e => by
              rcases unhide HNW4 j e with r | r
              · exact unhide HF j r
              · exact Bs.new (unhide HBL) r
            rcases unhide HC5 with ⟨rfl, p1, p2⟩ | ⟨rfl, p1⟩
            · obtain ⟨w6, hclr, hL6, hK6⟩ := clear_lst (unhide HL5) (unhide HM4).symm (by omega)
              have hsl := slice_to0 g M4 c4
              have HL6 := hide hL6
              have HK6 := hide hK6
              have HB3 := hide b3
              have HP := hide (And.intro p1 p2)
              have HNW2 := hide nw2
              have HK5 := hide hk5
              have hs5 : Stm w0 w5 s b aR cR rs (k + 1) := (unhide HS4).ky b4 nsF4 hF4
              have hs6 : Stm w0 w6 s b aR cR rs (k + 1) := hs5.ky hK6 (fun e => by subst e; exact (((unhide HL3).tg (g := s) rfl).ne (unhide HS3).tg (by decide) rfl)) (fun j e => by subst e; exact Bs.new (unhide HBL) (by omega))
              have hc26 := hs6.c2
              have HS6 := hide hs6
              have HMN := hide b2
              clear hL6 hK6 b3 p1 p2 nw2 hk5 hs5 hs6 b2 HC5 nsF4 hF4
              go_wp2
              go_roundw
              case rel =>
                refine ⟨rfl, rfl, k + 1, [], Y5, ids5, ms ++ [hw + 1], 0, fun j => F2 j ∧ j < w6.heap.size, ⟨by omega, fun j e => unhide HNW2 j e.1, fun j e => ⟨unhide HMN j (unhide HP6 j ((unhide HG).mono j e)), ?_⟩, ((unhide HB3).ky (unhide HK6) (fun j e => by subst e; exact gF2) nyg).cut, (unhide HK5).trans (unhide HK6) (fun j e => .inr (by subst e; exact gB.2)), unhide HL6, fun j e => ?_, unhide HS6, ?_, ?_, fun j e => e.2⟩, trivial⟩
                · have := unhide HLIM j ((unhide HG).mono j e); have := (unhide HK6).size; omega
                · injection e with e
                  subst e
                  exact ⟨fun k => gF2 k.1, gB.2⟩
                · have := (unhide HG).g.lay (unhide HX) (unhide HFE) (unhide HY1) (unhide HP2) (unhide HD4) (unhide HLS) (fun e => by have h := unhide HM4; rw [e] at h; simp at h; omega) (unhide HP).1 hb1
                  rw [(unhide HP).2, unhide H2R]
                  exact this
                · exact .inl (by rw [(unhide HP).1.cd]; exact unhide H2C)
              case measure => rw [hc2, hc26]; simp; omega
            · have hcd' : (Y2.cd != 0) = true := by simpa using unhide H2C
              have HB3 := hide b3
              have HP := hide p1
              have HNW2 := hide nw2
              have HK5 := hide hk5
              have HMN := hide b2
              clear b3 p1 nw2 hk5 b2 HC5 nsF4 hF4
              go_wp2
              have ecd : Y2.cd = Y0.cd := by rw [(unhide HLS).cd, unhide HY1]; exact (unhide HG).g.cd
              have p := unhide HP
              exact bodyPost_ret (v := .tuple #[.slice none 0 0, .int .i64 Y2.cd]) (by simp [results, Tryz.results38, go_sem]) rfl ⟨_, _, Y5, ids5, F2, rfl, unhide HNW2, fun j e => unhide HMN j (unhide HP6 j ((unhide HG).mono j e)), unhide HB3, unhide HK5, .inr ⟨ecd, unhide HCD0, p.rd, p.calls, p.rf.trans (by rw [(unhide HLS).rf, unhide HY1]; exact (unhide HG).g.rf), p.cd.trans ecd, p.out.trans (by rw [(unhide HLS).out, unhide HY1]; exact (unhide HG).g.out), by rw [p.most, (unhide HLS).most]; exact unhide HMO1, by
                have h1 := unhide HCNT
                have h2 : Y.runs.length * 4 ≤ Y.runs.length * BU := Nat.mul_le_mul_left _ hb1
                have h3 := p.runs
                rw [unhide H2R] at h3
                omega⟩⟩
          · have i10 : ¬ (BU : Int) / 2 < (M4 : Int) := by omega
            have hMB : M4 < BU := by omega
            go_wp2
            go_roundw
            case rel =>
              refine ⟨rfl, rfl, k + 1, W4, Y2, ids, ms, hw + 1, fun j => F4 j ∧ j < w4.heap.size, ⟨by omega, fun j e => unhide HNW4 j e.1, fun j e => ⟨unhide HP6 j ((unhide HG).mono j e), ?_⟩, (unhide HP7).cut, unhide HK4, unhide HL4, fun j e => ?_, unhide HS4, ?_, unhide HSF2, fun j e => e.2⟩, trivial⟩
              · have := unhide HLIM j ((unhide HG).mono j e); omega
              · injection e with e
                subst e
                exact ⟨fun k => gF4 k.1, gB.2⟩
              · exact (unhide HG).g.stay (unhide HX) (by have := unhide HFE; omega) (unhide HY1) (unhide HIT) (unhide HP2) (unhide HD4) (unhide HLS) (by rw [unhide HM4]; exact hMB)
            case measure => rw [hc2, hc24]; simp; omega
      · have hke : k = rs.length := by have := hG.kk; omega
        have HC := hide (snext_end (rs := rs) pP (by have := hG.st; rw [hke] at this; exact this) nsF00 hF00 hG.g.rd hit)
        have HO := hide (fun w => own_no 0 false w (.inl rfl))
        obtain ⟨a6, c6, e6⟩ := hG.l.form
        subst e6
        have ns6 : ¬ (Value.slice a6 hand.length c6).ownBlock = some s := fun e => (hG.l.tg e).ne hG.st.tg (by decide) rfl
        have hgc := fun x hx => hG.g.clean x (.inr hx)
        have hgm := hG.g.hm
        have HSo := hide (fun (w1 : World) (q1 : Sw w1 b y m q B [] ((BU : Int), true) Y.tick none ids F1) (q2 : Ky (fun j => j = b ∨ j = s) wr w1) =>
          sorted_once q1 (hG.l.ky q2 (fun g e k => by
            rcases k with k | k
            · exact (hG.vb g e).1 (k ▸ pF b pP.1)
            · exact ns6 (k ▸ e))) (by omega) (fun g e => (hG.vb g e).1) hgc (by show _ ≤ Y.held; omega) (by show Y.held ≤ _; omega))
        have HIT := hide hit
        have HKE := hide hke
        clear hit pP pF pB nbs hG hke nsF1 nsF00 hF00 hF1 hcnt hheld hlt hk hgc hgm
        go_wp2_with (first
          | (go_at_call 161; refine (unhide HC).mono ?_; rintro _ w1 ⟨rfl, hP1, hS1, hK1⟩; have HSW1 := hide (unhide HPB w1 _ hP1 hK1 rfl); have HK1 := hide hK1; have HS61 := hide (unhide HSo w1 (unhide HSW1) hK1); clear hP1 hS1 hK1)
          | (go_at_call 60; refine (unhide HO _).mono ?_; rintro _ w9 ⟨rfl, hw9⟩; rw [hw9]; clear hw9)
          | (go_at_call 61; refine (unhide HS61).mono ?_; rintro _ w2 ⟨v4, W4, d4, F4, rfl, p1, p2, p3, p4, p5, p6, p7, p8, p9⟩))
        have hG := unhide HG
        have hLs : Less Y.tick _ d4 := less_of Y.tick d4 hG.g.hm
        have sz1 := (unhide HK1).size
        have sz0 := hG.ky.size
        refine bodyPost_ret (v := .tuple #[v4, .int .i64 0]) (by simp [results, Tryz.results38, go_sem]) rfl ⟨_, _, _, ids, F4, rfl, hG.nw.trans p5 (by omega), fun j e => p6 j (hG.mono j e), p7, (hG.ky.trans (unhide HK1) (unhide HNBS)).trans p9 (fun j e => ?_), .inl ⟨rfl, W4, ms, hw, p4, fun g e => p8 g (by rw [← p1]; exact e), ?_, p2.st, ?_⟩⟩
        · rcases e with e | e
          · exact (hG.nw j e).imp .inl id
          · exact .inr (hG.vb j e).2
        · have g := hG.g.fin (unhide HIT) p2 p3 hLs
          rw [unhide HKE] at g
          exact g
        · exact ((hG.sf.less (k := rs.length + 1) (by omega)).tick).of hLs.cd hLs.rf hLs.calls
    · have hcd : Y.cd ≠ 0 := (hG.sf.less (k := (rs.length - k + rs.length) + 1) (by omega)).hit hit
      have HC := hide (snext_hit pP hG.st nsF00 hF00 hG.g.rd hit hcd)
      have HO := hide (fun w => own_no Y.cd false w (.inl rfl))
      have hcd' : (Y.cd != 0) = true := by simpa using hcd
      have HIT := hide hit
      clear hit pP pF pB nbs hG
      go_wp2_with (first | (go_at_call 161; refine (unhide HC).mono ?_; rintro _ w1 ⟨rfl, hP1, hS1, hK1⟩) | (go_at_call 60; refine (unhide HO _).mono ?_; rintro _ w9 ⟨rfl, hw9⟩; rw [hw9]; clear hw9))
      have hG := unhide HG
      have q := Rfd.gth1 hG.g (tick_rfd (unhide HIT)) hG.kk hb1
      exact bodyPost_ret (v := .tuple #[.slice none 0 0, .int .i64 Y.cd]) (by simp [results, Tryz.results38, go_sem]) rfl ⟨_, _, Y.tick, ids, F1, rfl, hG.nw, hG.mono, unhide HPB w1 _ hP1 hK1 rfl, hG.ky.trans hK1 (unhide HNBS), .inr ⟨hG.g.cd, by rw [← hG.g.cd]; exact hcd, q⟩⟩
end Go.Proofs.YtcbenpodohjbiaaGreat

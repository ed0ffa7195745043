import Derived.Test.YtcbenpodohjbiaaGreatSpM
import Derived.Test.YtcbenpodohjbiaaGreatSpX
set_option linter.unusedSimpArgs false
set_option linter.unusedVariables false
set_option maxRecDepth 100000
namespace Go.Proofs.YtcbenpodohjbiaaGreat
open Go.RowKit Go.Sort

/-- The cells of a sorter. -/
structure Qx (w : World) (q y B : Nat) (bu : Int × Bool) (vS : Value) : Prop where
  tg : Tg 61 w q
  fr : ∀ i, w.frozen? ⟨q, i, none⟩ = false
  c0 : w.cell? ⟨q, 0, none⟩ = some (.pointer (some ⟨y, 0, none⟩))
  c1 : w.cell? ⟨q, 1, none⟩ = some (.func (.func 32) #[] #[.pointer (some ⟨B, 0, none⟩)])
  c2 : w.cell? ⟨q, 2, none⟩ = some (.bool bu.2)
  c3 : w.cell? ⟨q, 3, none⟩ = some (.int .i64 bu.1)
  c4 : w.cell? ⟨q, 4, none⟩ = some vS
theorem Qx.ky {G : Nat → Prop} {w w' : World} {q y B : Nat} {bu : Int × Bool} {vS : Value} (h : Qx w q y B bu vS) (hk : Ky G w w') (hn : ¬ G q) : Qx w' q y B bu vS :=
  ⟨hk.tg h.tg hn, fun i => (hk.frozen h.tg.lt hn).trans (h.fr i), hk.cell h.c0 hn, hk.cell h.c1 hn, hk.cell h.c2 hn, hk.cell h.c3 hn, hk.cell h.c4 hn⟩
theorem Qx.set {w : World} {q y B : Nat} {bu : Int × Bool} {vS : Value} (h : Qx w q y B bu vS) (x : Value) : Qx (w.setCell ⟨q, 4, none⟩ x) q y B bu x := by
  obtain ⟨q1, q2, q3, q4, q5, q6, q7⟩ := h
  refine ⟨q1.set _ _ _, fun i => by rw [World.frozen?_setCell]; exact q2 i, ?_, ?_, ?_, ?_, ?_⟩ <;> simp [go_sem, q3, q4, q5, q6, q7]
/-- Numbers of runs in a list of the call's own. -/
def OwnN (w : World) (v : Value) (ids : List Nat) : Prop := w.ownsRow 0 3 1 v ids.length (ids.map fun i => Value.int .i64 (i : Nat))
/-- A sorter, and its yard. -/
def Sw (w : World) (b y m q B : Nat) (ks : List (Int × Bool)) (bu : Int × Bool) (Y : Yv) (op : Option Nat) (ids : List Nat) (F : Nat → Prop) : Prop :=
  ¬ F y ∧ F q ∧ ∃ F0 vS, (∀ k, F0 k → F k) ∧ ¬ F0 q ∧ (∀ g, vS.ownBlock = some g → F g ∧ ¬ F0 g) ∧ Yw w b y m Y op F0 ∧ Qx w q y B bu vS ∧ OwnN w vS ids ∧ OrdF w B ks
theorem Sw.ky {G F : Nat → Prop} {w w' : World} {b y m q B : Nat} {ks : List (Int × Bool)} {bu : Int × Bool} {Y : Yv} {op : Option Nat} {ids : List Nat} (h : Sw w b y m q B ks bu Y op ids F) (hk : Ky G w w') (hn : ∀ k, G k → ¬ F k) (hy : ¬ G y) : Sw w' b y m q B ks bu Y op ids F := by
  obtain ⟨h1, h2, F0, vS, h3, h4, h5, h6, h7, h8, h9⟩ := h
  exact ⟨h1, h2, F0, vS, h3, h4, h5, h6.ky hk (fun k g f => hn k g (h3 k f)) hy, h7.ky hk (fun g => hn q g h2), own_ky h8 hk (fun g e k => hn g k (h5 g e).1), h9.ky hk⟩
theorem Sw.later {F : Nat → Prop} {w w' : World} {b y m q B : Nat} {ks : List (Int × Bool)} {bu : Int × Bool} {Y : Yv} {op : Option Nat} {ids : List Nat} (h : Sw w b y m q B ks bu Y op ids F) (hb : Below w.heap.size w w') : Sw w' b y m q B ks bu Y op ids F := h.ky (G := fun _ => False) (Ky.of_below hb) (fun _ => False.elim) id
theorem Yw.tgy {F : Nat → Prop} {w : World} {b y m : Nat} {Y : Yv} {op : Option Nat} (h : Yw w b y m Y op F) : Tg 82 w y := by
  obtain ⟨_, _, _, _, _, _, _, h6, _⟩ := h
  exact h6.tg
def So (w w' : World) (b y m q B : Nat) (ks : List (Int × Bool)) (bu : Int × Bool) (Y' : Yv) (op : Option Nat) (ids : List Nat) (F : Nat → Prop) : Prop := ∃ F', Nw F F' w ∧ (∀ k, F k → F' k) ∧ Sw w' b y m q B ks bu Y' op ids F' ∧ Ky F w w'
theorem So.trans {w w1 w2 : World} {b y m q B : Nat} {ks : List (Int × Bool)} {bu : Int × Bool} {Y1 Y2 : Yv} {op1 op2 : Option Nat} {i1 i2 : List Nat} {F : Nat → Prop} (h : So w w1 b y m q B ks bu Y1 op1 i1 F) (h2 : ∀ F', Sw w1 b y m q B ks bu Y1 op1 i1 F' → So w1 w2 b y m q B ks bu Y2 op2 i2 F') : So w w2 b y m q B ks bu Y2 op2 i2 F := by
  obtain ⟨F1, a1, a2, a3, a4⟩ := h
  obtain ⟨F2, b1, b2, b3, b4⟩ := h2 F1 a3
  exact ⟨F2, a1.trans b1 a4.size, fun k hk => b2 k (a2 k hk), b3, a4.trans b4 a1⟩
/-- What the yard beneath has done. -/
theorem Sw.under {F F0 : Nat → Prop} {w w' : World} {b y m q B : Nat} {ks : List (Int × Bool)} {bu : Int × Bool} {Y' : Yv} {op : Option Nat} {ids : List Nat} {vS : Value} (h1 : ¬ F y) (h2 : F q) (h3 : ∀ k, F0 k → F k) (h4 : ¬ F0 q) (h5 : ∀ g, vS.ownBlock = some g → F g ∧ ¬ F0 g) (h7 : Qx w q y B bu vS) (h8 : OwnN w vS ids) (h9 : OrdF w B ks) (hty : Tg 82 w y) (hY : Yo w w' b y m Y' op F0) : So w w' b y m q B ks bu Y' op ids F := by
  obtain ⟨F1, a1, a2, a3, a4⟩ := hY
  refine ⟨fun k => F k ∨ F1 k, fun k hk => ?_, fun k hk => .inl hk, ⟨fun e => ?_, .inl h2, F1, vS, fun k hk => .inr hk, fun e => ?_, fun g e => ⟨.inl (h5 g e).1, fun k => ?_⟩, a3, h7.ky a4 h4, own_ky h8 a4 (fun g e => (h5 g e).2), h9.ky a4⟩, a4.mono h3⟩
  · rcases hk with hk | hk
    · exact .inl hk
    · exact (a1 k hk).imp (h3 k) id
  · rcases e with e | e
    · exact h1 e
    · exact a3.1 e
  · rcases a1 q e with r | r
    · exact h4 r
    · have := h7.tg.lt; omega
  · rcases a1 g k with r | r
    · exact (h5 g e).2 r
    · have := (own_tg h8 e).lt; omega

set_option maxHeartbeats 2000000 in
/-- sorted (61), where rows may stand several times. -/
theorem sorted_any {F : Nat → Prop} {w : World} {b y m q B : Nat} {ks : List (Int × Bool)} {bu : Int} {Y : Yv} {op : Option Nat} {ids : List Nat} {v : Value} {rs : List (List Val)} (h : Sw w b y m q B ks (bu, false) Y op ids F) (hL : Lst w v rs) (hn : rs.length ≤ 1048576) (hv : ∀ g, v.ownBlock = some g → ¬ F g) :
    Calls Tryz.prog 61 #[.pointer (some ⟨q, 0, none⟩), v] w fun e w' => e = .returned v ∧ ∃ rs', rs'.Perm rs ∧ rs'.Pairwise (fun x y => ordG ks x y ≤ 0) ∧ Lst w' v rs' ∧ Sw w' b y m q B ks (bu, false) Y op ids F ∧ Ky (fun k => v.ownBlock = some k) w w' := by
  have hS := h
  obtain ⟨h1, h2, F0, vS, h3, h4, h5, h6, h7, h8, h9⟩ := h
  obtain ⟨a, c, rfl⟩ := hL.form
  obtain ⟨W, hW⟩ : ∃ W, w.alloc (.cells #[.pointer (some ⟨q, 0, none⟩)] 86) = W := ⟨_, rfl⟩
  have hbW : Below w.heap.size w W := by rw [← hW]; exact below_alloc (Below.refl _ _) _
  have e0 : W.cell? ⟨w.heap.size, 0, none⟩ = some (.pointer (some ⟨q, 0, none⟩)) := by rw [← hW]; simp [go_sem]
  have c1 := clater h7.c1 hbW
  have hk0 : Ky (fun _ => False) w W := Ky.of_below hbW
  have HR := hide (rsort_any (hL.later hbW) (h9.ky hk0) hn)
  have nw : ¬ (Value.slice a rs.length c).ownBlock = some w.heap.size := fun e => by have := (hL.tg e).lt; omega
  have nq : ¬ (Value.slice a rs.length c).ownBlock = some q := fun e => hv q e h2
  have ny : ¬ (Value.slice a rs.length c).ownBlock = some y := fun e => (hL.tg e).ne h6.tgy (by decide) rfl
  have HQ := hide (h7.ky hk0 id)
  have HS := hide (hS.later hbW)
  have HV := hide hv
  clear hS h6 h7 h8 h9 hL hv h5 h3
  go_enter Tryz.func61, Tryz.ntmps61
  go_wp2_with (first | (go_at_call 93; refine (unhide HR).mono ?_; rintro _ w1 ⟨rfl, rs', p1, p2, p3, p4⟩; have d0 := p4.cell e0 nw; have d2 := p4.cell (unhide HQ).c2 nq; have HP1 := hide p1; have HP2 := hide p2; have HP3 := hide p3; have HP4 := hide p4; clear p1 p2 p3 p4))
  go_ret
  exact ⟨rfl, rs', unhide HP1, unhide HP2, unhide HP3, (unhide HS).ky (unhide HP4) (unhide HV) ny, (Ky.of_below hbW).trans (unhide HP4) (Nw.refl _ _)⟩
end Go.Proofs.YtcbenpodohjbiaaGreat
set_option linter.unusedSimpArgs false
set_option linter.unusedVariables false
set_option maxRecDepth 100000
namespace Go.Proofs.YtcbenpodohjbiaaGreat
open Go.RowKit Go.Sort

theorem Py.close {F : Nat → Prop} {w : World} {b : Nat} {Y : Yv} {op : Option Nat} (h : Py w b Y op F) : Py w b Y none F := by
  obtain ⟨fb, vO, vR, vT, us, hB, hl⟩ := h
  refine ⟨fb, vO, vR, vT, us, hB, hl.o, hl.fo, hl.r, hl.fr, hl.l, hl.t, hl.ft, hl.lt, fun i u rs hu hr => ⟨?_, (hl.e i u rs hu hr).2⟩, hl.d⟩
  rw [if_neg (by simp)]
  have h1 := (hl.e i u rs hu hr).1
  split at h1
  · exact h1.run
  · exact h1
theorem Yw.close {F : Nat → Prop} {w : World} {b y m : Nat} {Y : Yv} {op : Option Nat} (h : Yw w b y m Y op F) : Yw w b y m Y none F := by
  obtain ⟨h1, h2, F0, ks, h3, h4, h5, h6⟩ := h
  exact ⟨h1, h2, F0, ks, h3, h4, h5.close, h6⟩
theorem Yo.close {F : Nat → Prop} {w w' : World} {b y m : Nat} {Y : Yv} {op : Option Nat} (h : Yo w w' b y m Y op F) : Yo w w' b y m Y none F := by
  obtain ⟨F1, a1, a2, a3, a4⟩ := h
  exact ⟨F1, a1, a2, a3.close, a4⟩
theorem Yw.len {F : Nat → Prop} {w : World} {b y m : Nat} {Y : Yv} {op : Option Nat} (h : Yw w b y m Y op F) : Y.there.length = Y.runs.length := by
  obtain ⟨_, _, _, _, _, _, ⟨_, _, _, _, _, _, hl⟩, _⟩ := h
  exact hl.lt
/-- A call was refused; what came out is as it was. -/
structure Rfd (Y Y' : Yv) : Prop where
  rd : Y'.rd = true
  calls : Y'.calls = Y'.rf
  rf : Y'.rf = Y.rf
  cd : Y'.cd = Y.cd
  out : Y'.out = Y.out
  most : Y'.most = Y.most
  runs : Y'.runs.length ≤ Y.runs.length + 1
/-- Rows are laid into a new run. -/
structure Laid (rs : List (List Val)) (Y Y' : Yv) : Prop where
  rd : Y'.rd = false
  rf : Y'.rf = Y.rf
  cd : Y'.cd = Y.cd
  out : Y'.out = Y.out
  most : Y'.most = Y.most
  held : Y'.held = Y.held - rs.length
  runs : Y'.runs = Y.runs ++ [rs]
  there : Y'.there = Y.there ++ [true]
  puts : Y'.puts = Y.puts + rs.length
theorem tick_rfd {Y : Yv} (h : Y.hit = true) : Rfd Y Y.tick := ⟨(tick_hit h).1, (tick_hit h).2, rfl, rfl, rfl, rfl, Nat.le_add_right _ _⟩
theorem info3n : (Tryz.prog.info? 3).map (fun i => (i.zero, i.size, i.bytes)) = some (some (.int .i64 0), 1, 8) := by kernel_rfl

set_option maxHeartbeats 4000000 in
/-- lay (62). -/
theorem lay_any {F : Nat → Prop} {w : World} {b y m q B : Nat} {ks : List (Int × Bool)} {bu : Int × Bool} {Y : Yv} {ids : List Nat} {v : Value} {rs : List (List Val)} (h : Sw w b y m q B ks bu Y none ids F) (hL : Lst w v rs) (hv : ∀ g, v.ownBlock = some g → ¬ F g) (hn : rs.length ≤ 1048576) (hrd : Y.rd = false) (hcd : Y.cd ≠ 0) (hh : (rs.length : Int) ≤ Y.held) (hh1 : Y.held ≤ 1048576) (hhm : Y.held ≤ Y.most) (hrl : Y.runs.length < 1048576) (hil : ids.length ≤ 1048576) (hp0 : 0 ≤ Y.puts) (hp1 : Y.puts + rs.length ≤ 1099511627776) :
    Calls Tryz.prog 62 #[.pointer (some ⟨q, 0, none⟩), v] w fun e w' => ∃ (Y' : Yv) (ids' : List Nat) (c : Int), e = .returned (.int .i64 c) ∧ So w w' b y m q B ks bu Y' none ids' F ∧ Lst w' v rs ∧ ((c = 0 ∧ Laid rs Y Y' ∧ ids' = ids ++ [Y.runs.length]) ∨ (c = Y.cd ∧ Rfd Y Y')) := by
  obtain ⟨h1, h2, F0, vS, h3, h4, h5, h6, h7, h8, h9⟩ := h
  obtain ⟨a, c, rfl⟩ := hL.form
  have c0 := h7.c0
  have hty := h6.tgy
  have hvF0 : ∀ g, (Value.slice a rs.length c).ownBlock = some g → ¬ F0 g := fun g e k => hv g e (h3 g k)
  have ny : ¬ (Value.slice a rs.length c).ownBlock = some y := fun e => (hL.tg e).ne hty (by decide) rfl
  cases hit : Y.hit
  · have HC := hide (ynew_ok h6 h6.len (by omega) hrd hit)
    have hfin : ∀ (w3 : World) (F1 : Nat → Prop) (vS' : Value), Nw F0 F1 w → Ky F0 w w3 ∨ True → True := fun _ _ _ _ _ => trivial
    clear hfin
    obtain ⟨N, hN⟩ : ∃ N, ids.length = N := ⟨_, rfl⟩
    have HN := hide hN
    have hNb : N ≤ 1048576 := by omega
    have HoS := hide h8
    have H3 := hide h3
    have H5 := hide h5
    have H7 := hide h7
    have H9 := hide h9
    have HLs := hide hL
    have HV := hide hvF0
    have HVF := hide hv
    have HS0 : Hid (SnkOk (some Y.runs.length) (some Y.runs.length) Y.tick.newRun rs.length) := ⟨hit, hh, hh1, hhm, by show (Y.runs ++ [[]]).length ≤ _; rw [List.length_append]; simp; omega, fun e => (by cases e), fun i e => by
      injection e with e
      subst e
      refine ⟨rfl, ?_, ⟨[], ?_, by simp; omega⟩, hp0, hp1⟩
      · show (Y.there ++ [true])[Y.runs.length]? = some true
        rw [← h6.len, List.getElem?_append_right (Nat.le_refl _), Nat.sub_self]; rfl
      · show (Y.runs ++ [[]])[Y.runs.length]? = some []
        rw [List.getElem?_append_right (Nat.le_refl _), Nat.sub_self]; rfl⟩
    obtain ⟨R, hR⟩ : ∃ R, Y.runs.length = R := ⟨_, rfl⟩
    have HRR := hide hR
    rw [hR] at HC HS0
    clear h6 h7 h8 h9 hL hv hvF0 h3 h5 hN hrd hR hit hh hh1 hhm hp0 hp1 hil hrl
    go_enter Tryz.func62, Tryz.ntmps62
    go_upto_region 4 with (first | (go_at_call 65; refine (unhide HC).mono ?_; rintro _ w1 ⟨rfl, F1, a1, a2, a3, a4⟩; have hq1 := (unhide H7).ky a4 h4; have c4 := hq1.c4; have c01 := hq1.c0; have HQ1 := hide hq1; have HA1 := hide a1; have HA2 := hide a2; have HA3 := hide a3.cut; have HA4 := hide a4; clear hq1 a1 a2 a3 a4))
    have HBA := hide (below_alloc (Below.refl _ w1) (.cells #[.int .i64 (R : Int)] 3))
    have hS1 : OwnN w1 vS ids := own_ky (unhide HoS) (unhide HA4) (fun g e => (unhide H5 g e).2)
    have HO1 : Hid ((w1.alloc (.cells #[.int .i64 (R : Int)] 3)).ownsRow 0 3 1 vS N (ids.map fun i => Value.int .i64 (i : Nat))) := by
      have := own_later hS1 (unhide HBA)
      rw [unhide HN] at this
      exact this
    have nqS : ¬ vS.ownBlock = some q := fun e => (own_tg hS1 e).ne (unhide HQ1).tg (by decide) rfl
    clear hS1
    go_upto_region 5 with (first
      | (at_builtin; refine wpList_push_one (w1.alloc (.cells #[.int .i64 (R : Int)] 3)) rfl (.tmp 22) (.tmp 24) 59 3 (.int .i64 0) 8 rfl Tryz.underlying59 info3n rfl rfl (by omega) vS N _ rfl (unhide HO1) (by decide) w1.heap.size (.int .i64 (R : Int)) rfl (by simp [go_sem]) rfl (by omega) ?_; intro vS2 w2 hR2 gR2 kR2; obtain ⟨aS2, cS2, e2⟩ := own_form hR2; subst e2; have hq2 := ((unhide HQ1).ky (G := fun _ => False) (Ky.of_below (unhide HBA)) id).ky kR2 nqS; have c42 := hq2.c4; have f42 := hq2.fr 4; have HR2 := hide hR2; have HG2 := hide gR2; have HK2 := hide kR2; have HQ2 := hide hq2; clear hR2 gR2 kR2 hq2))
    obtain ⟨w3, hw3⟩ : ∃ w3, w2.setCell ⟨q, 4, none⟩ (.slice aS2 (N + 1) cS2) = w3 := ⟨_, rfl⟩
    have HQ3 := hide ((unhide HQ2).set (.slice aS2 (N + 1) cS2))
    have HK3 : Hid (Ky (fun k => k = q) w2 (w2.setCell ⟨q, 4, none⟩ (.slice aS2 (N + 1) cS2))) := (Ky.refl (fun k => k = q) w2).set (F := fun k => k = q) rfl (unhide HQ2).tg (by decide) _ _
    rw [hw3] at HQ3 HK3 ⊢
    have k13 : Ky (fun k => vS.ownBlock = some k ∨ k = q) w1 w3 := ((Ky.of_below (unhide HBA)).trans ((unhide HK2).mono fun k e => .inl e) (Nw.refl _ _)).trans ((unhide HK3).mono fun k e => .inr e) (Nw.refl _ _)
    have tS : ∀ g, vS.ownBlock = some g → Tg 3 w g := fun g e => own_tg (unhide HoS) e
    have tS1 : ∀ g, vS.ownBlock = some g → Tg 3 w1 g := fun g e => (unhide HA4).tg (tS g e) (unhide H5 g e).2
    have nF1 : ∀ g, g < w.heap.size → ¬ F0 g → ¬ (F1 g ∧ g < w1.heap.size) := fun g hg hn e => by
      rcases unhide HA1 g e.1 with r | r
      · exact hn r
      · omega
    have ty1 : Tg 82 w1 y := (unhide HA3).tgy
    have hY3 := (unhide HA3).ky k13 (fun k e => by
      rcases e with e | e
      · exact nF1 k (tS k e).lt (unhide H5 k e).2
      · subst e; exact nF1 k (unhide H7).tg.lt h4) (fun e => by
      rcases e with e | e
      · exact (tS1 y e).ne ty1 (by decide) rfl
      · exact ty1.ne (unhide HQ1).tg (by decide) e)
    have hL1 := (unhide HLs).ky (unhide HA4) (unhide HV)
    have hL3 := hL1.ky k13 (fun g e k => by
      rcases k with k | k
      · exact (hL1.tg e).ne (tS1 g k) (by decide) rfl
      · exact (hL1.tg e).ne (unhide HQ1).tg (by decide) k)
    have hv1 : ∀ g, (Value.slice a rs.length c).ownBlock = some g → ¬ (F1 g ∧ g < w1.heap.size) := fun g e => nF1 g ((unhide HLs).tg e).lt (unhide HV g e)
    have HH := hide (handOn_any (S := some R) hY3 hL3 hv1 hn (unhide HS0) (.inl hcd))
    have c03 := (unhide HQ3).c0
    have HK13 := hide k13
    have HL3 := hide hL3
    have HV1 := hide hv1
    have HTS := hide tS
    have HNF := hide nF1
    have HT1 := hide ty1
    clear k13 hL1 hL3 hv1 hY3 tS tS1 nF1 ty1 hw3 c42 f42
    go_wp2_with (first | (go_at_call 39; refine (unhide HH).mono ?_; rintro _ w4 ⟨Y4, c4, rfl, hY4, hc4⟩))
    go_ret
    have hY4' := hY4.close
    obtain ⟨F4, b1, b2, b3, b4⟩ := hY4'
    have s1 := (unhide HA4).size
    have s2 := (unhide HK13).size
    have s3 := b4.size
    have sB := (unhide HBA).size
    have newS : ∀ g, (Value.slice aS2 (N + 1) cS2).ownBlock = some g → (vS.ownBlock = some g ∨ w1.heap.size ≤ g) ∧ g < w3.heap.size := fun g e => by
      refine ⟨?_, ?_⟩
      · rcases (unhide HG2).2 with r | ⟨r, r1, r2⟩
        · left; rw [← r]; exact e
        · right; rw [r1] at e; injection e with e; omega
      · have t2 := (own_tg (unhide HR2) e).lt
        have := (unhide HK3).size
        omega
    have nF4 : ∀ g, g < w3.heap.size → ¬ (F1 g ∧ g < w1.heap.size) → ¬ F4 g := fun g hg hn e => by
      rcases b1 g e with r | r
      · exact hn r
      · omega
    have nS1 : ∀ g, (Value.slice aS2 (N + 1) cS2).ownBlock = some g → ¬ (F1 g ∧ g < w1.heap.size) := fun g e => by
      rcases (newS g e).1 with r | r
      · exact unhide HNF g (unhide HTS g r).lt (unhide H5 g r).2
      · exact fun k => by omega
    have hq1 : ¬ (F1 q ∧ q < w1.heap.size) := unhide HNF q (unhide H7).tg.lt h4
    have tq : q < w3.heap.size := (unhide HQ3).tg.lt
    have hown4 : OwnN w4 (.slice aS2 (N + 1) cS2) (ids ++ [R]) := by
      have o3 := own_ky (unhide HR2) (unhide HK3) (fun g e k => (own_tg (unhide HR2) e).ne (unhide HQ2).tg (by decide) k)
      have o4 := own_ky o3 b4 nS1
      unfold OwnN
      rw [List.length_append, List.map_append, unhide HN]
      exact o4
    have hK4 : Ky F w w4 := (((unhide HA4).mono (unhide H3)).trans ((unhide HK13).mono fun k e => by rcases e with e | e; exact (unhide H5 k e).1; subst e; exact h2) (Nw.refl _ _)).trans (b4.mono (G := fun k => F k ∨ w.heap.size ≤ k) fun k e => (unhide HA1 k e.1).imp (unhide H3 k) id) (fun k e => e)
    refine ⟨Y4, ids ++ [R], c4, rfl, ⟨fun k => F k ∨ F4 k ∨ (Value.slice aS2 (N + 1) cS2).ownBlock = some k, fun k hk => ?_, fun k hk => .inl hk, ⟨fun e => ?_, .inl h2, F4, _, fun k hk => .inr (.inl hk), nF4 q tq hq1, fun g e => ⟨.inr (.inr e), nF4 g (newS g e).2 (nS1 g e)⟩, b3, (unhide HQ3).ky b4 hq1, hown4, ((unhide H9).ky (unhide HA4)).ky (unhide HK13) |>.ky b4⟩, hK4⟩, (unhide HL3).ky b4 (unhide HV1), ?_⟩
    · rcases hk with hk | hk | hk
      · exact .inl hk
      · rcases b1 k hk with r | r
        · exact (unhide HA1 k r.1).imp (unhide H3 k) id
        · exact .inr (by omega)
      · rcases (newS k hk).1 with r | r
        · exact .inl (unhide H5 k r).1
        · exact .inr (by omega)
    · rcases e with e | e | e
      · exact h1 e
      · exact b3.1 e
      · rcases (newS y e).1 with r | r
        · exact (unhide HTS y r).ne hty (by decide) rfl
        · have := hty.lt; omega
    · rcases hc4 with ⟨r1, r2, r3⟩ | ⟨r1, r2, k, r3, r4, r5, r6⟩
      · left
        obtain ⟨o1, o2, o3⟩ := r2.r R rfl
        have e1 : Y.tick.newRun.runs[R]? = some [] := by
          show (Y.runs ++ [[]])[R]? = some []
          rw [← unhide HRR, List.getElem?_append_right (Nat.le_refl _), Nat.sub_self]; rfl
        have e2 := o2 [] e1
        refine ⟨r1, ⟨r3.rd, r2.rf, r2.cd, o1, r2.most, r2.held, ?_, r2.there, o3⟩, by rw [unhide HRR]⟩
        rw [e2]
        show (Y.runs ++ [[]]).set R ([] ++ rs) = Y.runs ++ [rs]
        rw [List.nil_append, ← unhide HRR, List.set_append_right _ _ (Nat.le_refl _), Nat.sub_self]
        rfl
      · right
        obtain ⟨o1, o2, _⟩ := r4.r R rfl
        refine ⟨r1, ⟨r5, r6, r4.rf, r4.cd, o1, r4.most, ?_⟩⟩
        have e1 : Y.tick.newRun.runs[R]? = some [] := by
          show (Y.runs ++ [[]])[R]? = some []
          rw [← unhide HRR, List.getElem?_append_right (Nat.le_refl _), Nat.sub_self]; rfl
        rw [o2 [] e1, List.length_set]
        show (Y.runs ++ [[]]).length ≤ _
        rw [List.length_append]; exact Nat.le_refl _
  · have HC := hide (ynew_hit h6 hrd hit hcd)
    have hcd' : (Y.cd != 0) = true := by simpa using hcd
    have HF : Hid (∀ w', Yo w w' b y m Y.tick none F0 → So w w' b y m q B ks bu Y.tick none ids F ∧ Lst w' (.slice a rs.length c) rs) := fun w' hY => by
      refine ⟨Sw.under h1 h2 h3 h4 h5 h7 h8 h9 hty hY, ?_⟩
      obtain ⟨F1, a1, a2, a3, a4⟩ := hY
      exact hL.ky a4 hvF0
    have HT := hide (tick_rfd hit)
    clear h6 h7 h8 h9 hL hv hvF0 h3 h5 hrd hit
    go_enter Tryz.func62, Tryz.ntmps62
    go_wp2_with (first | (go_at_call 65; refine (unhide HC).mono ?_; rintro _ w1 ⟨rfl, hY⟩))
    go_ret
    obtain ⟨q1, q2⟩ := unhide HF _ hY
    exact ⟨Y.tick, ids, Y.cd, rfl, q1, q2, .inr ⟨rfl, unhide HT⟩⟩
end Go.Proofs.YtcbenpodohjbiaaGreat

import Derived.Test.YtmagpdblacgneaaGreatSoA
set_option linter.unusedSimpArgs false
set_option linter.unusedVariables false
set_option maxRecDepth 100000
namespace Go.Proofs.YtmagpdblacgneaaGreat
open Go.RowKit Go.Sort

theorem StO.app22 {w0 w : World} {VB : List Vw} {F1 F2 : Nat → Prop} {x y p m : Ex} {a1 a2 : Option Addr} {c1 c2 : Nat} (h : StO w0 w (Vw.tree F1 a1 c1 [x, y] :: Vw.tree F2 a2 c2 [p, m] :: VB)) : ∃ a c w' F, (Builtin.append_ #[24, 24] 24 #[.slice a1 2 c1, .slice a2 2 c2]).run Tryz.prog w = .ok (.slice a 4 c) w' ∧ StO w0 w' (Vw.tree F a c [x, y, p, m] :: VB) :=
  h.app (by show 2 + 2 ≤ 4194304; omega) (by show 0 < 2; omega)
theorem StO.app4 {w0 w : World} {VB : List Vw} {F1 F2 : Nat → Prop} {x y p m : Ex} {ps : List Ex} {a1 a2 : Option Addr} {c1 c2 : Nat} (h : StO w0 w (Vw.tree F1 a1 c1 [x, y, p, m] :: Vw.tree F2 a2 c2 ps :: VB)) (hl : ps.length ≤ 131072) (hp : 0 < ps.length) : ∃ a c w' F, (Builtin.append_ #[24, 24] 24 #[.slice a1 4 c1, .slice a2 ps.length c2]).run Tryz.prog w = .ok (.slice a ([x, y, p, m] ++ ps).length c) w' ∧ StO w0 w' (Vw.tree F a c ([x, y, p, m] ++ ps) :: VB) := by
  obtain ⟨a, c, w', F, hr, hs⟩ := h.app (by show 4 + ps.length ≤ 4194304; omega) hp
  refine ⟨a, c, w', F, ?_, hs⟩
  rw [List.length_append]
  exact hr
theorem fl_size {e p m : Ex} {by_ : List Ex} (he : e.size ≤ 131072) (hb : Ex.sizes by_ ≤ 131072) (hp : p.size ≤ 400) (hm : m.size ≤ 400) : Ex.sizes ([foldB e, allX by_, p, m] ++ partsE e) ≤ 2097152 := flE_size he hb hp hm

set_option maxHeartbeats 40000000 in
theorem law_em (w : World) (e : Ex) (a : Option Addr) (c : Nat) (by_ : List Ex) (aB : Option Addr) (cB : Nat) (tt : List Int) (aT : Option Addr) (cT : Nat) (cols : List Int) (aC : Option Addr) (cC : Nat)
    (ha : Ex.all w a e.args) (hB : Ex.all w aB by_) (hT : IntsAt w aT tt) (hC : IntsAt w aC cols) (hcB : by_.length ≤ cB) (hnT : aT = none → cT = 0) (hnC : aC = none → cC = 0) (he : e.size ≤ 131072) (hf : e.fin) (hbs : Ex.sizes by_ ≤ 131072) (hbf : Ex.fins by_) (ht : tt.length ≤ 1048576) (hc : cols.length ≤ 1048576) :
    Calls Tryz.prog 3 #[e.val a c, .slice aB by_.length cB, .slice aT tt.length cT, .slice aC cols.length cC] w fun r w' => r = .returned (.bool true) ∧ Below w.heap.size w w' := by
  have hok := meas_ok he
  have hbl : by_.length ≤ 131072 := Nat.le_trans (sizes_len by_) hbs
  have hes : Ex.sizes e.args ≤ 131072 := by rw [Ex.size_mk] at he; omega
  have HA := hide (fun (W : World) (hW : Below w.heap.size w W) => Ex.all_later _ ha hW)
  have HBY := hide (fun (W : World) (hW : Below w.heap.size w W) => Ex.all_later _ hB hW)
  have HT := hide (fun (W : World) (hW : Below w.heap.size w W) => hT.later hW)
  have HC := hide (fun (W : World) (hW : Below w.heap.size w W) => hC.later hW)
  have HN : Hid ((aT = none → cT = 0) ∧ (aC = none → cC = 0) ∧ by_.length ≤ cB ∧ tt.length ≤ 1048576 ∧ cols.length ≤ 1048576 ∧ by_.length ≤ 131072) := ⟨hnT, hnC, hcB, ht, hc, hbl⟩
  have K4 := hide (fun (a : Option Addr) (c : Nat) (W : World) => cpe_any e (by omega) a c W)
  have K5 := hide (fun (l : List Ex) (h : Ex.sizes l ≤ 2097152) (a : Option Addr) (c : Nat) (W : World) => cpl_any l h a c W)
  have K6 := hide (fun (a : Option Addr) (c : Nat) (W : World) => fold_any e hf hok a c W)
  have K7 := hide (fun (W : World) (a : Option Addr) (c : Nat) => kall by_ hbs hbf W a c)
  have K8 := hide (fun (aB : Option Addr) (cB : Nat) (a : Option Addr) (c : Nat) (W : World) => put_one by_ hbf (by omega) aB cB e hf a c W)
  have K9 : Hid (∀ (aB : Option Addr) (cB : Nat) (a : Option Addr) (c : Nat) (W : World), Ex.all W a e.args → IntsAt W aB tt → Calls Tryz.prog 9 #[e.val a c, .slice aB tt.length cB] W (OneK W)) := fun aB cB a c W h1 h2 => (moved_any tt (by omega) aB cB e hf a c W h1 h2).mono fun r w' h => mov_one h
  have K10 : Hid (∀ (a : Option Addr) (c : Nat) (W : World), Ex.all W a e.args → Calls Tryz.prog 10 #[e.val a c] W fun r w' => ∃ a2 c2, r = .returned (.slice a2 (partsE e).length c2) ∧ ExK W.heap.size w' a2 c2 (partsE e) ∧ Below W.heap.size W w') := fun a c W h => (parts_any e hf hok a c W h).mono fun r w' h => h.exk
  have K11 := hide (fun (aC : Option Addr) (cC : Nat) (a : Option Addr) (c : Nat) (W : World) => strict_any cols e hf (by omega) aC cC a c W)
  obtain ⟨zs, hzl, k12⟩ := kcols e he hf
  have K12 := hide k12
  have HZL := hide hzl
  have HSZ : Hid (∀ (p m : Ex) (hp : p.size ≤ 400) (hm : m.size ≤ 400), Ex.sizes ([foldB e, allX by_, p, m] ++ partsE e) ≤ 2097152) := fun p m hp hm => fl_size he hbs hp hm
  have HPL : Hid (0 < (partsE e).length ∧ (partsE e).length ≤ 131072) := ⟨parts_some e, Nat.le_trans (parts_few e) he⟩
  unfold APost at K7
  obtain ⟨X, hX⟩ : ∃ X, foldB e = X := ⟨_, rfl⟩
  obtain ⟨Y, hY⟩ : ∃ Y, allX by_ = Y := ⟨_, rfl⟩
  obtain ⟨PS, hPS⟩ : ∃ PS, partsE e = PS := ⟨_, rfl⟩
  rw [hX] at K6
  rw [hY] at K7
  rw [hPS] at K10 HPL
  rw [hX, hY, hPS] at HSZ
  have HXY : Hid (X.size ≤ 131072 ∧ Y.size ≤ 262145) := ⟨by rw [← hX]; exact Nat.le_trans (foldB_le e) he, by rw [← hY]; exact Nat.le_trans (allX_le by_) (by omega)⟩
  clear hX hY hPS
  have HES : Hid (Ex.sizes e.args ≤ 131072 ∧ Ex.sizes by_ ≤ 131072 ∧ e.size ≤ 131072) := ⟨hes, hbs, he⟩
  clear ha hB hT hC hcB hnT hnC he hf hbs hbf ht hc hok hbl hes k12 hzl
  rw [Ex.val_open]
  go_enter Tryz.func3, Tryz.ntmps3
  go_upto_region 1 with fail
  obtain ⟨W0, hW0⟩ : ∃ W0, w.alloc (.cells #[.int .i64 e.op, .int .i64 e.n, .int .i64 e.v.k, .int .i64 e.v.n, .string e.v.s, .slice a e.args.length c] 26) = W0 := ⟨_, rfl⟩
  have HS := hide ((StO.nil w).box hW0)
  obtain ⟨b4, hb4⟩ : ∃ b4, w.heap.size = b4 := ⟨_, rfl⟩
  rw [hb4] at HS
  rw [hb4, hW0]
  clear hW0 hb4
  -- region 1: d, l, n, c
  obtain ⟨⟨q0, q1, q2, q3, q4, q5⟩, _⟩ : Box6 W0 b4 e a c := (unhide HS).get 0 rfl
  have K := hide (unhide K4 a c W0 (unhide HA W0 (unhide HS).bel))
  rw [Ex.val_open] at K
  go_upto_region 2 with (first
    | (go_at_call 4; refine (unhide K).mono ?_; rintro _ w1 ⟨ad, cd, rfl, hk1, hb1⟩; rw [Ex.val_open]; obtain ⟨Fd, hS1⟩ := (unhide HS).tree hb1 hk1; replace HS := hide hS1; clear hk1 hb1 hS1)
    | (go_at_call 5; refine (unhide K5 by_ (by have := (unhide HES).2.1; omega) aB cB _ (unhide HBY _ (unhide HS).bel)).mono ?_; rintro _ w2 ⟨al, cl, rfl, hk2, hb2⟩; obtain ⟨Fl, hS2⟩ := (unhide HS).tree hb2 hk2; replace HS := hide hS2; obtain ⟨an, cn, w3, hrun3, ho3, hb3⟩ := copyI w2 aT cT tt (unhide HT _ hS2.bel) (unhide HN).1 (by have := (unhide HN).2.2.2.1; omega); replace hrun3 := hide hrun3; replace HS := hide ((unhide HS).numbers hb3 ho3); obtain ⟨ac, cc, w4, hrun4, ho4, hb4⟩ := copyI w3 aC cC cols (unhide HC _ (unhide HS).bel) (unhide HN).2.1 (by have := (unhide HN).2.2.2.2.1; omega); replace hrun4 := hide hrun4; replace HS := hide ((unhide HS).numbers hb4 ho4); clear hk2 hb2 hS2 hb3 ho3 hb4 ho4)
    | (at_builtin; refine wpList_app_run rfl (.tmp 26) (.tmp 27) 27 rfl _ _ rfl rfl (unhide hrun3) ?_)
    | (at_builtin; refine wpList_app_run rfl (.tmp 29) (.tmp 30) 27 rfl _ _ rfl rfl (unhide hrun4) ?_))
  clear hrun3 hrun4 K q0 q1 q2 q3 q4 q5
  obtain ⟨W5, hW5⟩ : ∃ W5, w4.alloc (.cells #[.int .i64 e.op, .int .i64 e.n, .int .i64 e.v.k, .int .i64 e.v.n, .string e.v.s, .slice ad e.args.length cd] 26) = W5 := ⟨_, rfl⟩
  replace HS := hide ((unhide HS).box hW5)
  obtain ⟨b9, hb9⟩ : ∃ b9, w4.heap.size = b9 := ⟨_, rfl⟩
  rw [hb9] at HS
  rw [hb9, hW5]
  clear hW5 hb9
  -- box9 0, c 1, n 2, l 3, d 4, box4 5
  -- region 2: f
  obtain ⟨⟨q0, q1, q2, q3, q4, q5⟩, hfz⟩ : Box6 _ b9 e ad cd := (unhide HS).get 0 rfl
  clear hfz
  have K := hide (unhide K6 ad cd W5 ((show Ow _ _ _ _ _ from (unhide HS).get 4 rfl)).all)
  rw [Ex.val_open] at K
  go_upto_region 3 with (first
    | (go_at_call 6; refine (unhide K).mono ?_; rintro _ wA ⟨ax, cx, rfl, hkA, hbA⟩; rw [Ex.val_open]; obtain ⟨Fx, hSA⟩ := (unhide HS).tree hbA hkA; replace HS := hide hSA; clear hkA hbA hSA)
    | (go_at_call 7; refine (unhide K7 _ al cl ((show Ow _ _ _ _ _ from (unhide HS).get 4 rfl)).cap ((show Ow _ _ _ _ _ from (unhide HS).get 4 rfl)).all).mono ?_; rintro _ wB ⟨ay, cy, rfl, hkB, hbB⟩; rw [Ex.val_open]; obtain ⟨Fy, hSB⟩ := (unhide HS).tree hbB hkB; replace HS := hide hSB; clear hkB hbB hSB))
  obtain ⟨WC, hWC⟩ : ∃ WC, wB.alloc (.cells #[.int .i64 X.op, .int .i64 X.n, .int .i64 X.v.k, .int .i64 X.v.n, .string X.v.s, .slice ax X.args.length cx, .int .i64 Y.op, .int .i64 Y.n, .int .i64 Y.v.k, .int .i64 Y.v.n, .string Y.v.s, .slice ay Y.args.length cy] 26) = WC := ⟨_, rfl⟩
  obtain ⟨Ff, hSC⟩ := ((unhide HS).front 1 rfl).two hWC
  simp only [List.eraseIdx] at hSC
  replace HS := hide hSC
  obtain ⟨bf, hbf⟩ : ∃ bf, wB.heap.size = bf := ⟨_, rfl⟩
  rw [hbf] at HS
  rw [hbf, hWC]
  clear hWC hbf hSC K q0 q1 q2 q3 q4 q5
  -- f 0, box9 1, c 2, n 3, l 4, d 5, box4 6
  -- region 3: p
  obtain ⟨⟨q0, q1, q2, q3, q4, q5⟩, hfz⟩ : Box6 _ b9 e ad cd := (unhide HS).get 1 rfl
  clear hfz
  have K := hide (unhide K8 al cl ad cd WC ((show Ow _ _ _ _ _ from (unhide HS).get 5 rfl)).all ((show Ow _ _ _ _ _ from (unhide HS).get 4 rfl)).all)
  rw [Ex.val_open] at K
  go_upto_region 4 with (go_at_call 8; refine (unhide K).mono ?_; rintro _ wD ⟨p, ap, cp, ep, rfl, hkD, hpD, hbD⟩; rw [Ex.val_open]; obtain ⟨Fp, hSD⟩ := (unhide HS).tree hbD hkD; replace HS := hide hSD; have HPZ := hide hpD; clear hkD hbD hSD hpD)
  obtain ⟨WE, hWE⟩ : ∃ WE, wD.alloc (.cells #[.int .i64 p.op, .int .i64 p.n, .int .i64 p.v.k, .int .i64 p.v.n, .string p.v.s, .slice ap p.args.length cp] 26) = WE := ⟨_, rfl⟩
  replace HS := hide ((unhide HS).box hWE)
  obtain ⟨b14, hb14⟩ : ∃ b14, wD.heap.size = b14 := ⟨_, rfl⟩
  rw [hb14] at HS
  rw [hb14, hWE]
  clear hWE hb14 K q0 q1 q2 q3 q4 q5
  -- box14 0, p 1, f 2, box9 3, c 4, n 5, l 6, d 7, box4 8
  -- region 4: m
  obtain ⟨⟨q0, q1, q2, q3, q4, q5⟩, hfz⟩ : Box6 _ b9 e ad cd := (unhide HS).get 3 rfl
  clear hfz
  have K := hide (unhide K9 an cn ad cd WE ((show Ow _ _ _ _ _ from (unhide HS).get 7 rfl)).all (own_ints ((unhide HS).get 5 rfl).1))
  rw [Ex.val_open] at K
  go_upto_region 5 with (go_at_call 9; refine (unhide K).mono ?_; rintro _ wF ⟨m, am, cm, em, rfl, hkF, hmF, hbF⟩; rw [Ex.val_open]; obtain ⟨Fm, hSF⟩ := (unhide HS).tree hbF hkF; replace HS := hide hSF; have HMZ := hide hmF; clear hkF hbF hSF hmF)
  obtain ⟨WG, hWG⟩ : ∃ WG, wF.alloc (.cells #[.int .i64 m.op, .int .i64 m.n, .int .i64 m.v.k, .int .i64 m.v.n, .string m.v.s, .slice am m.args.length cm] 26) = WG := ⟨_, rfl⟩
  replace HS := hide ((unhide HS).box hWG)
  obtain ⟨b16, hb16⟩ : ∃ b16, wF.heap.size = b16 := ⟨_, rfl⟩
  rw [hb16] at HS
  rw [hb16, hWG]
  clear hWG hb16 K q0 q1 q2 q3 q4 q5
  -- box16 0, m 1, box14 2, p 3, f 4, box9 5, c 6, n 7, l 8, d 9, box4 10
  -- region 5: f with p, m
  obtain ⟨⟨q0, q1, q2, q3, q4, q5⟩, hfz⟩ : Box6 _ b14 p ap cp := (unhide HS).get 2 rfl
  clear hfz
  obtain ⟨⟨z0, z1, z2, z3, z4, z5⟩, hfz⟩ : Box6 _ b16 m am cm := (unhide HS).get 0 rfl
  clear hfz
  obtain ⟨WH, hWH⟩ : ∃ WH, WG.alloc (.cells #[.int .i64 p.op, .int .i64 p.n, .int .i64 p.v.k, .int .i64 p.v.n, .string p.v.s, .slice ap p.args.length cp, .int .i64 m.op, .int .i64 m.n, .int .i64 m.v.k, .int .i64 m.v.n, .string m.v.s, .slice am m.args.length cm] 26) = WH := ⟨_, rfl⟩
  obtain ⟨Fpm, hSH⟩ := (((unhide HS).front 1 rfl).front 3 rfl).two hWH
  simp only [List.eraseIdx] at hSH
  obtain ⟨af, cf, wI, Fg, hrun, hSI⟩ := (hSH.front 3 rfl).app22
  simp only [List.eraseIdx] at hSI
  rw [← hWH] at hrun
  replace HS := hide hSI
  replace hrun := hide hrun
  clear hSH hWH hSI
  go_upto_region 6 with (at_builtin; refine wpList_app_run rfl (.tmp 49) (.tmp 52) 24 rfl _ _ rfl rfl (unhide hrun) ?_)
  clear hrun q0 q1 q2 q3 q4 q5 z0 z1 z2 z3 z4 z5
  -- f 0, box16 1, box14 2, box9 3, c 4, n 5, l 6, d 7, box4 8
  -- region 6: f with parts
  obtain ⟨⟨q0, q1, q2, q3, q4, q5⟩, hfz⟩ : Box6 _ b9 e ad cd := (unhide HS).get 3 rfl
  clear hfz
  have K := hide (unhide K10 ad cd wI ((show Ow _ _ _ _ _ from (unhide HS).get 7 rfl)).all)
  rw [Ex.val_open] at K
  go_upto_region 7 with (first
    | (go_at_call 10; refine (unhide K).mono ?_; rintro _ wJ ⟨aq, cq, rfl, hkJ, hbJ⟩; obtain ⟨Fq, hSJ⟩ := (unhide HS).tree hbJ hkJ; obtain ⟨ag, cg, wK, Fk, hrun, hSK⟩ := (hSJ.front 1 rfl).app4 (unhide HPL).2 (unhide HPL).1; simp only [List.eraseIdx] at hSK; obtain ⟨FL, hFL⟩ : ∃ FL, [X, Y, p, m] ++ PS = FL := ⟨_, rfl⟩; rw [hFL] at hrun hSK; have HFE := hide hFL; clear hFL; replace HS := hide hSK; replace hrun := hide hrun; clear hkJ hbJ hSJ hSK)
    | (at_builtin; refine wpList_app_run rfl (.tmp 54) (.tmp 56) 24 rfl _ _ rfl rfl (unhide hrun) ?_))
  have HFL : Hid (Ex.sizes FL ≤ 2097152 ∧ FL[0]? = some X ∧ FL[1]? = some Y) := by
    rw [← unhide HFE]
    exact ⟨unhide HSZ p m (unhide HPZ) (unhide HMZ), rfl, rfl⟩
  clear hrun K HFE q0 q1 q2 q3 q4 q5
  -- region 7: Strict
  obtain ⟨⟨q0, q1, q2, q3, q4, q5⟩, hfz⟩ : Box6 _ b9 e ad cd := (unhide HS).get 3 rfl
  clear hfz
  have K := hide (unhide K11 ac cc ad cd wK (own_ints ((unhide HS).get 4 rfl).1) ((show Ow _ _ _ _ _ from (unhide HS).get 7 rfl)).all)
  rw [Ex.val_open] at K
  go_upto_region 8 with (go_at_call 11; refine (unhide K).mono ?_; rintro _ wL ⟨rfl, hbL⟩; replace HS := hide ((unhide HS).below hbL); clear hbL)
  clear K q0 q1 q2 q3 q4 q5
  -- region 8: is
  obtain ⟨⟨q0, q1, q2, q3, q4, q5⟩, hfz⟩ : Box6 _ b9 e ad cd := (unhide HS).get 3 rfl
  clear hfz
  have K := hide (unhide K12 wL ad cd ((show Ow _ _ _ _ _ from (unhide HS).get 7 rfl)).all)
  rw [Ex.val_open] at K
  go_upto_region 9 with (go_at_call 12; refine (unhide K).mono ?_; rintro _ wM ⟨ai, ci, rfl, hoM, hbM⟩; replace HS := hide ((unhide HS).numbers hbM hoM); have HNI := hide (own_nilI hoM); clear hbM hoM)
  clear K q0 q1 q2 q3 q4 q5
  -- region 9: was
  obtain ⟨aw, cw, wN, hrun, hoN, hbN⟩ := copyI wM ai ci zs (own_ints ((unhide HS).get 0 rfl).1) (unhide HNI) (by have := unhide HZL; omega)
  replace hrun := hide hrun
  replace HS := hide ((unhide HS).numbers hbN hoN)
  clear hoN hbN
  go_upto_region 10 with (at_builtin; refine wpList_app_run rfl (.tmp 63) (.tmp 64) 27 rfl _ _ rfl rfl (unhide hrun) ?_)
  clear hrun HNI
  -- region 10: keep
  have K := hide (unhide K5 FL (unhide HFL).1 ag cg wN ((show Ow _ _ _ _ _ from (unhide HS).get 2 rfl)).all)
  go_upto_region 11 with (go_at_call 5; refine (unhide K).mono ?_; rintro _ wO ⟨ak, ck, rfl, hkO, hbO⟩; obtain ⟨Fz, hSO⟩ := (unhide HS).tree hbO hkO; replace HS := hide hSO; clear hkO hbO hSO)
  clear K
  -- keep 0, was 1, is 2, f 3, box16 4, box14 5, box9 6, c 7, n 8, l 9, d 10, box4 11
  -- region 11: what was handed in is as it was
  obtain ⟨⟨q0, q1, q2, q3, q4, q5⟩, hfz⟩ : Box6 _ b9 e ad cd := (unhide HS).get 6 rfl
  clear hfz
  obtain ⟨⟨z0, z1, z2, z3, z4, z5⟩, hfz⟩ : Box6 _ b4 e a c := (unhide HS).get 11 rfl
  clear hfz
  have KS := hide (fun (x : Ex) (hx : x.size ≤ 1000000000) (a b : Option Addr) (c d : Nat) (W : World) => rsame_any x (short_ok x hx) a b c d W)
  have KL := hide (fun (l : List Ex) (hl : Ex.sizes l ≤ 2097152) (a b : Option Addr) (c d : Nat) (W : World) => sameexprs_one l (fun x hx => short_ok x (by have := Ex.size_mem hx; omega)) a b c d W (by have := sizes_len l; omega))
  have KN := hide (fun (l : List Int) (hl : l.length ≤ 1048576) (a b : Option Addr) (c d : Nat) (W : World) => samenums_one l a b c d W (by omega))
  have K := hide (unhide KS e (by have := (unhide HES).2.2; omega) ad a cd c wO ((show Ow _ _ _ _ _ from (unhide HS).get 10 rfl)).all (unhide HA _ (unhide HS).bel))
  rw [Ex.val_open, Ex.val_open] at K
  go_upto_region 13 with (first
    | (go_at_call 13; refine (unhide K).mono ?_; rintro _ wP ⟨rfl, hbP⟩; replace HS := hide ((unhide HS).below hbP); clear hbP)
    | (go_at_call 14; refine (unhide KL by_ (by have := (unhide HES).2.1; omega) al aB cl cB _ ((show Ow _ _ _ _ _ from (unhide HS).get 9 rfl)).all (unhide HBY _ (unhide HS).bel)).mono ?_; rintro _ wQ ⟨rfl, hbQ⟩; replace HS := hide ((unhide HS).below hbQ); clear hbQ)
    | (go_at_call_of 15 an; refine (unhide KN tt (unhide HN).2.2.2.1 an aT cn cT _ (own_ints ((unhide HS).get 8 rfl).1) (unhide HT _ (unhide HS).bel)).mono ?_; rintro _ wR ⟨rfl, hbR⟩; replace HS := hide ((unhide HS).below hbR); clear hbR)
    | (go_at_call_of 15 ac; refine (unhide KN cols (unhide HN).2.2.2.2.1 ac aC cc cC _ (own_ints ((unhide HS).get 7 rfl).1) (unhide HC _ (unhide HS).bel)).mono ?_; rintro _ wS ⟨rfl, hbS⟩; replace HS := hide ((unhide HS).below hbS); clear hbS))
  clear K q0 q1 q2 q3 q4 q5 z0 z1 z2 z3 z4 z5
  -- region 13: g
  obtain ⟨⟨q0, q1, q2, q3, q4, q5⟩, hfz⟩ : Box6 _ b9 e ad cd := (unhide HS).get 6 rfl
  clear hfz
  have K := hide (unhide K6 ad cd wS ((show Ow _ _ _ _ _ from (unhide HS).get 10 rfl)).all)
  rw [Ex.val_open] at K
  go_upto_region 14 with (first
    | (go_at_call 6; refine (unhide K).mono ?_; rintro _ wAg ⟨axg, cxg, rfl, hkA, hbA⟩; rw [Ex.val_open]; obtain ⟨Fxg, hSA⟩ := (unhide HS).tree hbA hkA; replace HS := hide hSA; clear hkA hbA hSA)
    | (go_at_call 7; refine (unhide K7 _ al cl ((show Ow _ _ _ _ _ from (unhide HS).get 10 rfl)).cap ((show Ow _ _ _ _ _ from (unhide HS).get 10 rfl)).all).mono ?_; rintro _ wBg ⟨ayg, cyg, rfl, hkB, hbB⟩; rw [Ex.val_open]; obtain ⟨Fyg, hSB⟩ := (unhide HS).tree hbB hkB; replace HS := hide hSB; clear hkB hbB hSB))
  obtain ⟨WCg, hWC⟩ : ∃ WC, wBg.alloc (.cells #[.int .i64 X.op, .int .i64 X.n, .int .i64 X.v.k, .int .i64 X.v.n, .string X.v.s, .slice axg X.args.length cxg, .int .i64 Y.op, .int .i64 Y.n, .int .i64 Y.v.k, .int .i64 Y.v.n, .string Y.v.s, .slice ayg Y.args.length cyg] 26) = WC := ⟨_, rfl⟩
  obtain ⟨Ffg, hSC⟩ := ((unhide HS).front 1 rfl).two hWC
  simp only [List.eraseIdx] at hSC
  replace HS := hide hSC
  obtain ⟨bfg, hbf⟩ : ∃ bf, wBg.heap.size = bf := ⟨_, rfl⟩
  rw [hbf] at HS
  rw [hbf, hWC]
  clear hWC hbf hSC K q0 q1 q2 q3 q4 q5
  -- g 0, keep 1, was 2, is 3, f 4, box16 5, box14 6, box9 7, c 8, n 9, l 10, d 11, box4 12
  -- region 14: p again
  obtain ⟨⟨q0, q1, q2, q3, q4, q5⟩, hfz⟩ : Box6 _ b9 e ad cd := (unhide HS).get 7 rfl
  clear hfz
  have K := hide (unhide K8 al cl ad cd WCg ((show Ow _ _ _ _ _ from (unhide HS).get 11 rfl)).all ((show Ow _ _ _ _ _ from (unhide HS).get 10 rfl)).all)
  rw [Ex.val_open] at K
  go_upto_region 15 with (go_at_call 8; refine (unhide K).mono ?_; rintro _ wT ⟨p2, ap2, cp2, ep2, rfl, hkD, hpD, hbD⟩; rw [Ex.val_open]; obtain ⟨Fp2, hSD⟩ := (unhide HS).tree hbD hkD; replace HS := hide hSD; have HRZ := hide hpD; obtain ⟨⟨z0, z1, z2, z3, z4, z5⟩, f0, f1, f2, f3, f4, f5⟩ : Box6 _ b14 p ap cp := (unhide HS).get 7 rfl; clear hkD hbD hSD hpD)
  obtain ⟨WU, hWU⟩ : ∃ WU, (((((wT.setCell ⟨b14, 0, none⟩ (.int .i64 p2.op)).setCell ⟨b14, 1, none⟩ (.int .i64 p2.n)).setCell ⟨b14, 2, none⟩ (.int .i64 p2.v.k)).setCell ⟨b14, 3, none⟩ (.int .i64 p2.v.n)).setCell ⟨b14, 4, none⟩ (.string p2.v.s)).setCell ⟨b14, 5, none⟩ (.slice ap2 p2.args.length cp2) = WU := ⟨_, rfl⟩
  have hSU := StO.put (f := p2) (a' := ap2) (c' := cp2) ((unhide HS).front 7 rfl)
  simp only [List.eraseIdx] at hSU
  rw [hWU] at hSU
  replace HS := hide hSU
  rw [hWU]
  clear hWU hSU K q0 q1 q2 q3 q4 q5 z0 z1 z2 z3 z4 z5 f0 f1 f2 f3 f4 f5
  -- box14 0, p2 1, g 2, keep 3, was 4, is 5, f 6, box16 7, box9 8, c 9, n 10, l 11, d 12, box4 13
  -- region 15: m again
  obtain ⟨⟨q0, q1, q2, q3, q4, q5⟩, hfz⟩ : Box6 _ b9 e ad cd := (unhide HS).get 8 rfl
  clear hfz
  have K := hide (unhide K9 an cn ad cd WU ((show Ow _ _ _ _ _ from (unhide HS).get 12 rfl)).all (own_ints ((unhide HS).get 10 rfl).1))
  rw [Ex.val_open] at K
  go_upto_region 16 with (go_at_call 9; refine (unhide K).mono ?_; rintro _ wV ⟨m2, am2, cm2, em2, rfl, hkF, hmF, hbF⟩; rw [Ex.val_open]; obtain ⟨Fm2, hSF⟩ := (unhide HS).tree hbF hkF; replace HS := hide hSF; have HNZ := hide hmF; obtain ⟨⟨z0, z1, z2, z3, z4, z5⟩, f0, f1, f2, f3, f4, f5⟩ : Box6 _ b16 m am cm := (unhide HS).get 8 rfl; clear hkF hbF hSF hmF)
  obtain ⟨WX, hWX⟩ : ∃ WX, (((((wV.setCell ⟨b16, 0, none⟩ (.int .i64 m2.op)).setCell ⟨b16, 1, none⟩ (.int .i64 m2.n)).setCell ⟨b16, 2, none⟩ (.int .i64 m2.v.k)).setCell ⟨b16, 3, none⟩ (.int .i64 m2.v.n)).setCell ⟨b16, 4, none⟩ (.string m2.v.s)).setCell ⟨b16, 5, none⟩ (.slice am2 m2.args.length cm2) = WX := ⟨_, rfl⟩
  have hSX := StO.put (f := m2) (a' := am2) (c' := cm2) ((unhide HS).front 8 rfl)
  simp only [List.eraseIdx] at hSX
  rw [hWX] at hSX
  replace HS := hide hSX
  rw [hWX]
  clear hWX hSX K q0 q1 q2 q3 q4 q5 z0 z1 z2 z3 z4 z5 f0 f1 f2 f3 f4 f5
  -- box16 0, m2 1, box14 2, p2 3, g 4, keep 5, was 6, is 7, f 8, box9 9, c 10, n 11, l 12, d 13, box4 14
  -- region 16
  obtain ⟨⟨q0, q1, q2, q3, q4, q5⟩, hfz⟩ : Box6 _ b14 p2 ap2 cp2 := (unhide HS).get 2 rfl
  clear hfz
  obtain ⟨⟨z0, z1, z2, z3, z4, z5⟩, hfz⟩ : Box6 _ b16 m2 am2 cm2 := (unhide HS).get 0 rfl
  clear hfz
  obtain ⟨WHg, hWH⟩ : ∃ WH, WX.alloc (.cells #[.int .i64 p2.op, .int .i64 p2.n, .int .i64 p2.v.k, .int .i64 p2.v.n, .string p2.v.s, .slice ap2 p2.args.length cp2, .int .i64 m2.op, .int .i64 m2.n, .int .i64 m2.v.k, .int .i64 m2.v.n, .string m2.v.s, .slice am2 m2.args.length cm2] 26) = WH := ⟨_, rfl⟩
  obtain ⟨Fpmg, hSH⟩ := (((unhide HS).front 1 rfl).front 3 rfl).two hWH
  simp only [List.eraseIdx] at hSH
  obtain ⟨afg, cfg, wIg, Fgg, hrun, hSI⟩ := (hSH.front 3 rfl).app22
  simp only [List.eraseIdx] at hSI
  rw [← hWH] at hrun
  replace HS := hide hSI
  replace hrun := hide hrun
  clear hSH hWH hSI
  go_upto_region 17 with (at_builtin; refine wpList_app_run rfl (.tmp 107) (.tmp 110) 24 rfl _ _ rfl rfl (unhide hrun) ?_)
  clear hrun q0 q1 q2 q3 q4 q5 z0 z1 z2 z3 z4 z5
  -- region 17
  obtain ⟨⟨q0, q1, q2, q3, q4, q5⟩, hfz⟩ : Box6 _ b9 e ad cd := (unhide HS).get 7 rfl
  clear hfz
  have K := hide (unhide K10 ad cd wIg ((show Ow _ _ _ _ _ from (unhide HS).get 11 rfl)).all)
  rw [Ex.val_open] at K
  go_upto_region 18 with (first
    | (go_at_call 10; refine (unhide K).mono ?_; rintro _ wJg ⟨aqg, cqg, rfl, hkJ, hbJ⟩; obtain ⟨Fqg, hSJ⟩ := (unhide HS).tree hbJ hkJ; obtain ⟨agg, cgg, wKg, Fkg, hrun, hSK⟩ := (hSJ.front 1 rfl).app4 (unhide HPL).2 (unhide HPL).1; simp only [List.eraseIdx] at hSK; obtain ⟨GL, hFL⟩ : ∃ FL, [X, Y, p2, m2] ++ PS = FL := ⟨_, rfl⟩; rw [hFL] at hrun hSK; have HFE := hide hFL; clear hFL; replace HS := hide hSK; replace hrun := hide hrun; clear hkJ hbJ hSJ hSK)
    | (at_builtin; refine wpList_app_run rfl (.tmp 112) (.tmp 114) 24 rfl _ _ rfl rfl (unhide hrun) ?_))
  have HGL : Hid (Ex.sizes GL ≤ 2097152 ∧ GL[0]? = some X ∧ GL[1]? = some Y) := by
    rw [← unhide HFE]
    exact ⟨unhide HSZ p2 m2 (unhide HRZ) (unhide HNZ), rfl, rfl⟩
  clear hrun K HFE q0 q1 q2 q3 q4 q5
  -- g 0, box16 1, box14 2, keep 3, was 4, is 5, f 6, box9 7, c 8, n 9, l 10, d 11, box4 12
  -- region 18: g is spoilt
  have K := hide (spx_all _ GL (Nat.le_refl _) (unhide HGL).1 agg cgg Fkg wKg ((unhide HS).get 0 rfl) fun b hb => ((unhide HS).in 0 rfl b hb).2)
  go_upto_region 19 with (go_at_call 16; refine (unhide K).mono ?_; rintro _ wY ⟨rfl, hkY⟩; replace HS := hide ((unhide HS).spoil hkY); clear hkY)
  clear K
  -- region 19: l is spoilt
  have K := hide (spx_all _ by_ (Nat.le_refl _) (by have := (unhide HES).2.1; omega) al cl Fl wY ((unhide HS).get 9 rfl) fun b hb => ((unhide HS).in 9 rfl b hb).2)
  go_upto_region 20 with (go_at_call 16; refine (unhide K).mono ?_; rintro _ wZ ⟨rfl, hkZ⟩; replace HS := hide (((unhide HS).front 9 rfl).spoil hkZ); clear hkZ)
  simp only [List.eraseIdx] at HS
  clear K
  -- box16 0, box14 1, keep 2, was 3, is 4, f 5, box9 6, c 7, n 8, d 9, box4 10
  -- region 20: d's list is spoilt
  replace HS := hide (unhide HS).drew
  have HEL : Hid (e.args.length ≤ 131072) := by have h1 := sizes_len e.args; have := (unhide HES).1; show _ ≤ _; omega
  have S0 : wZ.drew.cell? ⟨b9, 5, none⟩ = some (.slice ad e.args.length cd) := (show Box6 wZ.drew b9 e ad cd from (unhide HS).get 6 rfl).1.2.2.2.2.2
  have HM := hide mark_any
  go_region_held3 (fun w' => w'.cell? ⟨b9, 5, none⟩ = some (.slice ad e.args.length cd))
    (first | assumption)
    (first
      | (go_at_call 17; refine (unhide KSP).mono ?_; rintro _ wb ⟨rfl, hgb⟩; have hSb := ((unhide HSa).front 9 rfl).spoilL hgb; simp only [List.eraseIdx] at hSb; have HSb := hide hSb; have Sb : wb.cell? ⟨b9, 5, none⟩ = some (.slice ad e.args.length cd) := (show Box6 wb b9 e ad cd from (unhide HSb).get 6 rfl).1.2.2.2.2.2; clear hgb hSb)
      | (go_at_call 18; refine (unhide HM _).mono ?_; rintro _ wa ⟨rfl, hba⟩; have HSa := hide ((unhide HS).below hba); have Sa : wa.cell? ⟨b9, 5, none⟩ = some (.slice ad e.args.length cd) := (show Box6 wa b9 e ad cd from (unhide HSa).get 6 rfl).1.2.2.2.2.2; obtain ⟨L, K, oL, mL, _⟩ := Ow.open (show Ow wa e.args ad cd Fd from (unhide HSa).get 9 rfl); have hLL : L.length ≤ 2097152 := by have h1 := congrArg List.length mL; rw [List.length_map] at h1; have := unhide HEL; omega
         have KSP : Hid (Calls Tryz.prog 17 #[.slice ad e.args.length cd, .agg #[.int .i64 2, .int .i64 0, .int .i64 2, .int .i64 0, .string ⟨#[115, 112, 111, 105, 108, 116]⟩, .slice none 0 0]] wa fun r w' => r = .returned (.tuple #[]) ∧ wa.grownBy w' (Value.slice ad e.args.length cd).ownBlock) := spoiltE oL hLL mkN
         clear hba oL mL hLL))
  replace HS := HSb
  clear HSa HSb S0 Sa Sb KSP HM HEL
  -- box16 0, box14 1, keep 2, was 3, is 4, f 5, box9 6, c 7, n 8, box4 9
  -- region 21: n is spoilt
  have K := hide (spoiltI ((unhide HS).get 8 rfl).1 (by have := (unhide HN).2.2.2.1; omega) 9999)
  go_upto_region 22 with (go_at_call 19; refine (unhide K).mono ?_; rintro _ wc ⟨rfl, hgc⟩; replace HS := hide (((unhide HS).front 8 rfl).spoilI hgc); clear hgc)
  simp only [List.eraseIdx] at HS
  clear K
  -- region 22: Columns(e) is spoilt
  obtain ⟨⟨q0, q1, q2, q3, q4, q5⟩, hfz⟩ : Box6 _ b4 e a c := (unhide HS).get 8 rfl
  clear hfz
  have K := hide (unhide K12 wc a c (unhide HA _ (unhide HS).bel))
  rw [Ex.val_open] at K
  go_upto_region 23 with (first
    | (go_at_call 12; refine (unhide K).mono ?_; rintro _ wd ⟨ax2, cx2, rfl, hod, hbd⟩; replace HS := hide ((unhide HS).numbers hbd hod); have KI := hide (spoiltI hod (by have := unhide HZL; omega) 9999); clear hbd hod)
    | (go_at_call 19; refine (unhide KI).mono ?_; rintro _ we ⟨rfl, hge⟩; replace HS := hide ((unhide HS).spoilI hge); clear hge))
  clear K KI q0 q1 q2 q3 q4 q5
  -- box16 0, box14 1, keep 2, was 3, is 4, f 5, box9 6, c 7, box4 8
  -- region 23: what is answered
  obtain ⟨wr0, hwr0⟩ : ∃ W, we = W := ⟨_, rfl⟩
  have HF : Hid (∀ W, Below we.heap.size we W → Ex.all W ag FL) := fun W hW => Ex.all_later _ (show Ow we FL ag cg Fk from (unhide HS).get 5 rfl).all hW
  have HKp : Hid (∀ W, Below we.heap.size we W → Ex.all W ak FL) := fun W hW => Ex.all_later _ (show Ow we FL ak ck Fz from (unhide HS).get 2 rfl).all hW
  have HIs : Hid (∀ W, Below we.heap.size we W → IntsAt W ai zs) := fun W hW => (own_ints ((unhide HS).get 4 rfl).1).later hW
  have HWs : Hid (∀ W, Below we.heap.size we W → IntsAt W aw zs) := fun W hW => (own_ints ((unhide HS).get 3 rfl).1).later hW
  have HE0 : Hid (∀ W, Below we.heap.size we W → Ex.all W a e.args) := fun W hW => unhide HA W (below_step (unhide HS).bel hW)
  have HB0 : Hid (∀ W, Below we.heap.size we W → Ex.all W aB by_) := fun W hW => unhide HBY W (below_step (unhide HS).bel hW)
  have HBEL : Hid (∀ W, Below we.heap.size we W → Below w.heap.size w W) := fun W hW => below_step (unhide HS).bel hW
  obtain ⟨⟨q0, q1, q2, q3, q4, q5⟩, hfz⟩ : Box6 we b4 e a c := (unhide HS).get 8 rfl
  clear hfz
  obtain ⟨gk, ok, hak, hat0⟩ := Ex.all_get (show Ow we FL ak ck Fz from (unhide HS).get 2 rfl).all (unhide HFL).2.1
  obtain ⟨gk', ok', hak', hat1⟩ := Ex.all_get (show Ow we FL ak ck Fz from (unhide HS).get 2 rfl).all (unhide HFL).2.2
  rw [hak] at hak'
  injection hak' with hak'
  injection hak' with x1 x2
  subst x1 x2
  subst hak
  obtain ⟨a0, c0, ⟨u0, u1, u2, u3, u4, u5⟩, hal0⟩ := Ex.at_open hat0
  obtain ⟨a1, c1, ⟨v0, v1, v2, v3, v4, v5⟩, hal1⟩ := Ex.at_open hat1
  rw [Nat.zero_mul, Nat.add_zero] at u0 u1 u2 u3 u4 u5
  rw [Nat.one_mul] at v0 v1 v2 v3 v4 v5
  have HX0 : Hid (∀ W, Below we.heap.size we W → Ex.all W a0 X.args) := fun W hW => Ex.all_later _ hal0 hW
  have HY0 : Hid (∀ W, Below we.heap.size we W → Ex.all W a1 Y.args) := fun W hW => Ex.all_later _ hal1 hW
  clear hat0 hat1 hal0 hal1 hwr0
  have hlen : (1 : Int) < (FL.length : Int) := by have := (List.getElem?_eq_some_iff.1 (unhide HFL).2.2).1; omega
  have hlen0 : 0 < FL.length := by omega
  have hlen1 : FL ≠ [] := fun e => by rw [e] at hlen0; exact absurd hlen0 (by decide)
  have HSS : Hid (∀ W, Below we.heap.size we W → (W.cell? ⟨b4, 0, none⟩ = some (.int .i64 e.op) ∧ W.cell? ⟨b4, 1, none⟩ = some (.int .i64 e.n) ∧ W.cell? ⟨b4, 2, none⟩ = some (.int .i64 e.v.k) ∧ W.cell? ⟨b4, 3, none⟩ = some (.int .i64 e.v.n) ∧ W.cell? ⟨b4, 4, none⟩ = some (.string e.v.s) ∧ W.cell? ⟨b4, 5, none⟩ = some (.slice a e.args.length c)) ∧
      (W.cell? ⟨gk, ok, none⟩ = some (.int .i64 X.op) ∧ W.cell? ⟨gk, ok + 1, none⟩ = some (.int .i64 X.n) ∧ W.cell? ⟨gk, ok + 2, none⟩ = some (.int .i64 X.v.k) ∧ W.cell? ⟨gk, ok + 3, none⟩ = some (.int .i64 X.v.n) ∧ W.cell? ⟨gk, ok + 4, none⟩ = some (.string X.v.s) ∧ W.cell? ⟨gk, ok + 5, none⟩ = some (.slice a0 X.args.length c0)) ∧
      (W.cell? ⟨gk, ok + 6, none⟩ = some (.int .i64 Y.op) ∧ W.cell? ⟨gk, ok + 6 + 1, none⟩ = some (.int .i64 Y.n) ∧ W.cell? ⟨gk, ok + 6 + 2, none⟩ = some (.int .i64 Y.v.k) ∧ W.cell? ⟨gk, ok + 6 + 3, none⟩ = some (.int .i64 Y.v.n) ∧ W.cell? ⟨gk, ok + 6 + 4, none⟩ = some (.string Y.v.s) ∧ W.cell? ⟨gk, ok + 6 + 5, none⟩ = some (.slice a1 Y.args.length c1))) := fun W hW =>
    ⟨⟨clater q0 hW, clater q1 hW, clater q2 hW, clater q3 hW, clater q4 hW, clater q5 hW⟩, ⟨clater u0 hW, clater u1 hW, clater u2 hW, clater u3 hW, clater u4 hW, clater u5 hW⟩, ⟨clater v0 hW, clater v1 hW, clater v2 hW, clater v3 hW, clater v4 hW, clater v5 hW⟩⟩
  clear q0 q1 q2 q3 q4 q5 u0 u1 u2 u3 u4 u5 v0 v1 v2 v3 v4 v5 HS
  have B0 : Hid (Below we.heap.size we we.drew) := (Below.refl _ _).drew
  have S0 := unhide HSS _ (unhide B0)
  have K12a : Hid (∀ W, Below we.heap.size we W → Calls Tryz.prog 12 #[.agg #[.int .i64 e.op, .int .i64 e.n, .int .i64 e.v.k, .int .i64 e.v.n, .string e.v.s, .slice a e.args.length c]] W fun r w' => ∃ a' c', r = .returned (.slice a' zs.length c') ∧ IntsAt w' a' zs ∧ Below W.heap.size W w') := fun W hW => (unhide K12 W a c (unhide HE0 W hW)).mono fun r w' ⟨a', c', h1, h2, h3⟩ => ⟨a', c', h1, own_ints h2, h3⟩
  go_region_held3 (fun W => (W.cell? ⟨b4, 0, none⟩ = some (.int .i64 e.op) ∧ W.cell? ⟨b4, 1, none⟩ = some (.int .i64 e.n) ∧ W.cell? ⟨b4, 2, none⟩ = some (.int .i64 e.v.k) ∧ W.cell? ⟨b4, 3, none⟩ = some (.int .i64 e.v.n) ∧ W.cell? ⟨b4, 4, none⟩ = some (.string e.v.s) ∧ W.cell? ⟨b4, 5, none⟩ = some (.slice a e.args.length c)) ∧
      (W.cell? ⟨gk, ok, none⟩ = some (.int .i64 X.op) ∧ W.cell? ⟨gk, ok + 1, none⟩ = some (.int .i64 X.n) ∧ W.cell? ⟨gk, ok + 2, none⟩ = some (.int .i64 X.v.k) ∧ W.cell? ⟨gk, ok + 3, none⟩ = some (.int .i64 X.v.n) ∧ W.cell? ⟨gk, ok + 4, none⟩ = some (.string X.v.s) ∧ W.cell? ⟨gk, ok + 5, none⟩ = some (.slice a0 X.args.length c0)) ∧
      (W.cell? ⟨gk, ok + 6, none⟩ = some (.int .i64 Y.op) ∧ W.cell? ⟨gk, ok + 6 + 1, none⟩ = some (.int .i64 Y.n) ∧ W.cell? ⟨gk, ok + 6 + 2, none⟩ = some (.int .i64 Y.v.k) ∧ W.cell? ⟨gk, ok + 6 + 3, none⟩ = some (.int .i64 Y.v.n) ∧ W.cell? ⟨gk, ok + 6 + 4, none⟩ = some (.string Y.v.s) ∧ W.cell? ⟨gk, ok + 6 + 5, none⟩ = some (.slice a1 Y.args.length c1)))
    (first | assumption)
    (first
      | (go_at_call 14; refine (unhide KL FL (unhide HFL).1 ag (some ⟨gk, ok, none⟩) cg ck _ (unhide HF _ (unhide B0)) (unhide HKp _ (unhide B0))).mono ?_; rintro _ y1 ⟨rfl, hb1⟩; have B1 := hide (below_step (unhide B0) hb1); have S1 := unhide HSS _ (unhide B1); clear hb1)
      | (go_at_call_of 15 ai; refine (unhide KN zs (by have := unhide HZL; omega) ai aw ci cw _ (unhide HIs _ (unhide B1)) (unhide HWs _ (unhide B1))).mono ?_; rintro _ y2 ⟨rfl, hb2⟩; have B2 := hide (below_step (unhide B1) hb2); have S2 := unhide HSS _ (unhide B2); clear hb2)
      | (go_at_call 12; refine (unhide K12a _ (unhide B2)).mono ?_; rintro _ y3 ⟨az, cz, rfl, hiz, hb3⟩; have B3 := hide (below_step (unhide B2) hb3); have S3 := unhide HSS _ (unhide B3); have HIZ := hide hiz; clear hiz; clear hb3)
      | (go_at_call_of 15 az; refine (unhide KN zs (by have := unhide HZL; omega) az aw cz cw _ (unhide HIZ) (unhide HWs _ (unhide B3))).mono ?_; rintro _ y4 ⟨rfl, hb4⟩; have B4 := hide (below_step (unhide B3) hb4); have S4 := unhide HSS _ (unhide B4); clear hb4)
      | (go_at_call 6; refine (unhide K6 a c _ (unhide HE0 _ (unhide B4))).mono ?_; rintro _ y5 ⟨ax9, cx9, rfl, hk5, hb5⟩; have B5 := hide (below_step (unhide B4) hb5); have S5 := unhide HSS _ (unhide B5); rw [Ex.val_open]; have HX9 := hide hk5.now; clear hk5; clear hb5)
      | (go_at_call_of 13 (Value.int IntKind.i64 X.op); refine (unhide KS X (by have := (unhide HXY).1; omega) ax9 a0 cx9 c0 _ (unhide HX9) (unhide HX0 _ (unhide B5))).mono ?_; rintro _ y6 ⟨rfl, hb6⟩; have B6 := hide (below_step (unhide B5) hb6); have S6 := unhide HSS _ (unhide B6); clear hb6)
      | (go_at_call 7; refine (unhide K7 _ aB cB (unhide HN).2.2.1 (unhide HB0 _ (unhide B6))).mono ?_; rintro _ y7 ⟨ay9, cy9, rfl, hk7, hb7⟩; have B7 := hide (below_step (unhide B6) hb7); have S7 := unhide HSS _ (unhide B7); rw [Ex.val_open]; have HY9 := hide hk7.now; clear hk7; clear hb7)
      | (go_at_call_of 13 (Value.int IntKind.i64 Y.op); refine (unhide KS Y (by have := (unhide HXY).2; omega) ay9 a1 cy9 c1 _ (unhide HY9) (unhide HY0 _ (unhide B7))).mono ?_; rintro _ y8 ⟨rfl, hb8⟩; have B8 := hide (below_step (unhide B7) hb8); have S8 := unhide HSS _ (unhide B8); clear hb8)
      | (go_at_call 20; refine (seven_any _).mono ?_; rintro _ y9 ⟨rfl, hb9⟩; have B9 := hide (below_step (unhide B8) hb9); have S9 := unhide HSS _ (unhide B9); clear hb9))
  clear S0 S1 S2 S3 S4 S5 S6 S7 S8 S9
  go_wp2
  refine bodyPost_ret (v := .bool true) (by simp [results, Tryz.results3, go_sem]) rfl ?_
  exact ⟨rfl, unhide HBEL _ (unhide B9)⟩
end Go.Proofs.YtmagpdblacgneaaGreat

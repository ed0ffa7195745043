import Derived.Test.YtfnacpkodfhfoacRmM
import Derived.Test.YtfnacpkodfhfoacRmL
set_option linter.unusedSimpArgs false
set_option linter.unusedVariables false
namespace Go.Proofs.Ytfnacpkodfhfoac
open Go.RowKit Go.Sort

theorem Sd.empty {S : List Int} (h : Sd [] S) : S = [] := by
  cases S with
  | nil => rfl
  | cons x S => exact absurd ((h.2.1 x).2 (by simp)) (by simp)
set_option maxHeartbeats 2000000 in
set_option maxRecDepth 100000 in
/-- tallyref.Put (11). -/
theorem rput_any (by_ : List Ex) (hbf : Ex.fins by_) (hbl : by_.length ≤ 140737488355328) (aB : Option Addr) (cB : Nat) (e : Ex) (hf : e.fin) (a : Option Addr) (c : Nat) (w : World) (ha : Ex.all w a e.args) (hA : Ex.all w aB by_) :
    Calls Try.prog 11 #[e.val a c, .slice aB by_.length cB] w (PutPost2 by_ e w) := by
  have HBe := hide (fun (W : World) (hW : Below w.heap.size w W) => rbuilt_any e hf a c W (Ex.all_later _ ha hW))
  have HBx := hide (fun (x : Ex) (hx : x ∈ by_) (a' : Option Addr) (c' : Nat) (W : World) (h : Ex.all W a' x.args) => rbuilt_any x (Ex.fins_mem hbf hx) a' c' W h)
  have HCo := hide (fun (W : World) (hW : Below w.heap.size w W) => rcols_any e hf a c W (Ex.all_later _ ha hW))
  have HP := hide (fun (hb : ∀ x ∈ by_, builtE x = true) (hbe : builtE e = true) (hu : usesB e by_.length = true) (D : Nat) (W : World) (hW : Below w.heap.size w W) (hB : Box1 W (w.heap.size + 1) (.slice aB by_.length cB)) (hD : Box1 W D (F31 (w.heap.size + 1) D)) => put31_all by_ hb hbl (w.heap.size + 1) D aB cB e.size e (Nat.le_refl _) (meas_short soundE e 400 40 (by omega) hbe) (built_good hbe) hu a c W (Ex.all_later _ ha hW) ⟨hB, hD, Ex.all_later _ hA hW⟩)
  have HFB := hide (fun (hb : ∀ x ∈ by_, builtE x = true) (hbe : builtE e = true) (hu : usesB e by_.length = true) (a' : Option Addr) (c' : Nat) (W : World) (h : Ex.all W a' (madeE (putG by_) e).args) => rbuilt_any (madeE (putG by_) e) (put_fin by_ hb hbf e (built_good hbe) hu hf) a' c' W h)
  have HA := hide (fun (W : World) (hW : Below w.heap.size w W) => Ex.all_later _ hA hW)
  obtain ⟨wa, hwa⟩ : ∃ wa, wa = (((w.alloc (.cells #[.int .i64 e.op, .int .i64 e.n, .int .i64 e.v.k, .int .i64 e.v.n, .string e.v.s, .slice a e.args.length c] 26)).alloc (.cells #[.slice aB by_.length cB] 24)).alloc (.cells #[.int .i64 0, .int .i64 0, .int .i64 0, .int .i64 0, .string ⟨#[]⟩, .slice none 0 0] 26)) := ⟨_, rfl⟩
  have HBA : Hid (Below w.heap.size w wa) := by rw [hwa]; exact below_alloc (below_alloc (below_alloc (Below.refl _ w) _) _) _
  have H6 : Hid (Six wa w.heap.size e a c) := by rw [hwa]; exact (Six.new w e a c).later (below_alloc (below_alloc (Below.refl _ _) _) _)
  have HBX : Hid (wa.cell? ⟨w.heap.size + 1, 0, none⟩ = some (.slice aB by_.length cB)) := by rw [hwa]; show _ = _; simp [go_sem]
  have HZ : Hid (Box6 wa (w.heap.size + 2) zeroE none 0) := by
    have h := Box6.new ((w.alloc (.cells #[.int .i64 e.op, .int .i64 e.n, .int .i64 e.v.k, .int .i64 e.v.n, .string e.v.s, .slice a e.args.length c] 26)).alloc (.cells #[.slice aB by_.length cB] 24)) zeroE none 0
    rw [show ((w.alloc (.cells #[.int .i64 e.op, .int .i64 e.n, .int .i64 e.v.k, .int .i64 e.v.n, .string e.v.s, .slice a e.args.length c] 26)).alloc (.cells #[.slice aB by_.length cB] 24)).heap.size = w.heap.size + 2 by simp [go_sem]] at h
    rw [hwa]
    exact h
  have hsa : wa.heap.size = w.heap.size + 3 := by rw [hwa]; simp [go_sem]
  rw [Ex.val_open] at HBe HCo HP ⊢
  clear ha hA
  go_enter Try.func11, Try.ntmps11
  go_upto_region 1 with fail
  rw [← hwa]
  clear hwa
  have q0 := unhide HBX
  go_upto_region 2 with fail
  clear q0
  go_loopw [13] (fun i wr => ∃ k : Nat, k ≤ by_.length ∧ i = .int .i64 (k : Int) ∧ Hid (∀ (j : Nat) (y : Ex), j < k → by_[j]? = some y → builtE y = true) ∧ Hid (Below wa.heap.size wa wr)) (fun i _ => by_.length - (intOf i).toNat)
  case atStart => exact ⟨0, Nat.zero_le _, rfl, fun j y hj => absurd hj (by omega), Below.refl _ _⟩
  case round =>
    obtain ⟨k, hk, rfl, HAL, HB⟩ := hrel
    have HBr := hide (below_step (unhide HBA) (unhide HB))
    have H6r := hide ((unhide H6).later (unhide HB))
    have HBXr := hide (clater (unhide HBX) (unhide HB))
    have HZr := hide ((unhide HZ).later (unhide HB))
    have hsr := (unhide HB).size
    by_cases hlt : k < by_.length
    · have h9 : (k : Int) < (by_.length : Int) := by omega
      obtain ⟨x, hx⟩ : ∃ x, by_[k]? = some x := ⟨_, List.getElem?_eq_getElem hlt⟩
      obtain ⟨vb, vo, ea, hat⟩ := Ex.all_get (unhide HA wr (unhide HBr)) hx
      obtain ⟨a', c', ⟨d0, d1, d2, d3, d4, d5⟩, hal⟩ := Ex.at_open hat
      have HX := hide (unhide HBx x (List.mem_of_getElem? hx) a' c' (wr.alloc (.cells #[.int .i64 x.op, .int .i64 x.n, .int .i64 x.v.k, .int .i64 x.v.n, .string x.v.s, .slice a' x.args.length c'] 26)) (Ex.all_later _ hal (below_alloc (Below.refl _ _) _)))
      rw [Ex.val_open] at HX
      have HB1 := hide (below_alloc (Below.refl _ wr) (.cells #[.int .i64 x.op, .int .i64 x.n, .int .i64 x.v.k, .int .i64 x.v.n, .string x.v.s, .slice a' x.args.length c'] 26))
      have HXX := hide hx
      subst ea
      clear hx hat hal
      cases hbx : builtE x with
      | true =>
        rw [hbx] at HX
        have HAL2 : Hid (∀ (j : Nat) (y : Ex), j < k + 1 → by_[j]? = some y → builtE y = true) := fun j y hj hy => by
          by_cases ej : j = k
          · subst ej; rw [unhide HXX] at hy; injection hy with hy; rw [← hy]; exact hbx
          · exact unhide HAL j y (by omega) hy
        clear hbx HAL
        go_wp2_with (go_at_call 29; refine (unhide HX).mono ?_; rintro r w1 ⟨rfl, hb1⟩)
        exact ⟨⟨k + 1, by omega, by go_num, unhide HAL2, below_step (unhide HB) (below_step (unhide HB1) hb1)⟩, by simp [intOf]; omega⟩
      | false =>
        rw [hbx] at HX
        have HNO : Hid (by_.any (fun e => !builtE e) = true) := any_at (unhide HXX) (by rw [hbx]; rfl)
        clear hbx HAL
        go_wp2_with (go_at_call 29; refine (unhide HX).mono ?_; rintro r w1 ⟨rfl, hb1⟩; have hb01 := below_step (unhide HB1) hb1; obtain ⟨⟨z0, z1, z2, z3, z4, z5⟩, f0, f1, f2, f3, f4, f5⟩ := (unhide HZr).later hb01)
        refine bodyPost_ret (v := .tuple #[zeroE.val none 0, .int .i64 1]) (by simp [results, Try.results11, go_sem, Ex.val, Ex.op, Ex.n, Ex.v, Ex.args, Val.null, *]) rfl (.inr ⟨by unfold okP; rw [unhide HNO]; simp, by rw [show errP by_ e = 1 by unfold errP; rw [unhide HNO]; simp], ?_⟩)
        exact put6 (below_step (unhide HBr) hb01) (by omega) _ _ _ _ _ _
    · have h9 : ¬ (k : Int) < (by_.length : Int) := by omega
      have HALL : Hid (∀ x ∈ by_, builtE x = true) := fun x hx => by
        obtain ⟨j, hj⟩ := List.mem_iff_getElem?.1 hx
        exact unhide HAL j x (by have := (List.getElem?_eq_some_iff.1 hj).1; omega) hj
      have HNO : Hid (by_.any (fun e => !builtE e) = false) := by
        show _ = _
        rw [List.any_eq_false]
        intro x hx
        rw [unhide HALL x hx]
        simp
      have HC0 := hide (unhide HCo wr (unhide HBr))
      obtain ⟨b0, b1, b2, b3, b4, b5⟩ := unhide H6r
      clear HAL HBx HA HCo
      go_upto_region 8 with (go_at_call 30; refine (unhide HC0).mono ?_; rintro r wc ⟨vc, Lc, rfl, hO, hSd, hbc⟩; obtain ⟨ac, capc, rfl⟩ := hO.slice; have HO := hide hO; have HSD := hide hSd; have HBc := hide hbc; clear hO hSd hbc)
      have HBC := hide (below_step (unhide HBr) (unhide HBc))
      clear b0 b1 b2 b3 b4 b5
      obtain ⟨b0, b1, b2, b3, b4, b5⟩ := (unhide H6r).later (unhide HBc)
      have q0 := clater (unhide HBXr) (unhide HBc)
      have k0 := cell_regrown b0
      have k1 := cell_regrown b1
      have k2 := cell_regrown b2
      have k3 := cell_regrown b3
      have k4 := cell_regrown b4
      have k5 := cell_regrown b5
      have k6 := cell_regrown q0
      cases hb : builtE e with
      | false =>
        rw [hb] at HBe
        have HOK : Hid (okP by_ e = false) := by show _ = _; unfold okP; rw [hb]; rfl
        have HER : Hid (errP by_ e = 1) := by show _ = _; unfold errP; rw [hb]; simp
        clear hb HP HFB
        refine wp_region_quiet_below (by kernel_rfl) (by kernel_rfl) ?_
        repeat (go_big_quiet_step ((go_at_call 29; exact Calls.regrown_of (unhide HBe _ (below_step (unhide HBC) (below_regrown _ _ _))))))
        refine wpQuiet_nil ?_
        intro w' hw'
        have hB : Below wc.heap.size wc w' := by obtain ⟨p, rfl⟩ := hw'; exact below_regrown _ _ _
        clear hw' k0 k1 k2 k3 k4 k5 k6 b0 b1 b2 b3 b4 b5 q0
        obtain ⟨⟨z0, z1, z2, z3, z4, z5⟩, f0, f1, f2, f3, f4, f5⟩ := (unhide HZr).later (below_step (unhide HBc) hB)
        go_wp2
        refine bodyPost_ret (v := .tuple #[zeroE.val none 0, .int .i64 1]) (by simp [results, Try.results11, go_sem, Ex.val, Ex.op, Ex.n, Ex.v, Ex.args, Val.null, *]) rfl (.inr ⟨unhide HOK, by rw [unhide HER], ?_⟩)
        exact put6 (below_step (unhide HBC) hB) (by omega) _ _ _ _ _ _
      | true =>
        have hSd := unhide HSD hb
        rw [hb] at HBe
        have HBB1 := hide hb
        clear hb
        have hLc : Lc.length ≤ 1000 := Nat.le_trans hSd.2.2 (Nat.le_trans (cols_size e) (by have := (built_bounds (unhide HBB1)).1; omega))
        have HS := hide hSd
        clear hSd HSD
        by_cases hL : Lc = []
        · have HU : Hid (usesB e by_.length = true) := by
            have h := unhide HS
            rw [hL] at h
            show _ = _
            unfold usesB
            rw [h.empty]
            rfl
          have hl0 : Lc.length = 0 := by rw [hL]; rfl
          rw [hl0]
          clear hL hl0 HS
          refine wp_region_quiet_below (by kernel_rfl) (by kernel_rfl) ?_
          repeat (go_big_quiet_step ((go_at_call 29; exact Calls.regrown_of (unhide HBe _ (below_step (unhide HBC) (below_regrown _ _ _))))))
          refine wpQuiet_nil ?_
          intro w' hw'
          have hB : Below wc.heap.size wc w' := by obtain ⟨p, rfl⟩ := hw'; exact below_regrown _ _ _
          clear hw' k0 k1 k2 k3 k4 k5 k6 b0 b1 b2 b3 b4 b5 q0
          have HBD := hide (below_step (unhide HBC) hB)
          have H6d := hide ((unhide H6r).later (below_step (unhide HBc) hB))
          have HQd := hide (clater (unhide HBXr) (below_step (unhide HBc) hB))
          have HZd := hide ((unhide HZr).later (below_step (unhide HBc) hB))
          have hsd : w.heap.size + 3 ≤ w'.heap.size := by have := hB.size; have := (unhide HBc).size; omega
          clear hB
          go_upto_region 10 with fail
          obtain ⟨we, hwe⟩ : ∃ we, we = w'.alloc (.cells #[F31 (w.heap.size + 1) w'.heap.size] 40) := ⟨_, rfl⟩
          have HBE1 : Hid (Below w'.heap.size w' we) := by rw [hwe]; exact below_alloc (Below.refl _ _) _
          have hse : we.heap.size = w'.heap.size + 1 := by rw [hwe]; simp [go_sem]
          have HDD : Hid (Box1 we w'.heap.size (F31 (w.heap.size + 1) w'.heap.size)) := by rw [hwe]; show _ = _; simp [go_sem]
          have HM2 := hide (unhide HP (unhide HALL) (unhide HBB1) (unhide HU) w'.heap.size we (below_step (unhide HBD) (unhide HBE1)) (clater (unhide HQd) (unhide HBE1)) (unhide HDD))
          have HF2 := hide (unhide HFB (unhide HALL) (unhide HBB1) (unhide HU))
          obtain ⟨f, hfe⟩ : ∃ f, f = madeE (putG by_) e := ⟨_, rfl⟩
          unfold PPost PP at HM2
          rw [← hfe] at HM2 HF2
          have HFE := hide hfe
          clear hfe HP HFB
          unfold F31 at hwe
          go_upto_region 12 with fail
          rw [← hwe]
          clear hwe
          obtain ⟨b0, b1, b2, b3, b4, b5⟩ := (unhide H6d).later (unhide HBE1)
          have dd := unhide HDD
          unfold Box1 F31 at dd
          cases hbb : builtE f with
          | true =>
            rw [hbb] at HF2
            have HBB := hide hbb
            clear hbb
            go_wp2_with (first
              | (go_at_call 29; refine (unhide HF2 a2 c2 (w4.alloc (.cells #[.int .i64 f.op, .int .i64 f.n, .int .i64 f.v.k, .int .i64 f.v.n, .string f.v.s, .slice a2 f.args.length c2] 26)) (Ex.all_later _ (unhide HK4).now (below_alloc (Below.refl _ w4) _))).mono ?_; rintro r w5 ⟨rfl, hb5⟩; have hb45 := below_step (below_alloc (Below.refl _ w4) (.cells #[.int .i64 f.op, .int .i64 f.n, .int .i64 f.v.k, .int .i64 f.v.n, .string f.v.s, .slice a2 f.args.length c2] 26)) hb5; have hb15 := below_step (unhide HBE1) (below_step (unhide HB4) hb45); obtain ⟨g0, g1, g2, g3, g4, g5⟩ := (Six.new w4 f a2 c2).later hb5; obtain ⟨⟨z0, z1, z2, z3, z4, z5⟩, f0, f1, f2, f3, f4, f5⟩ := (unhide HZd).later hb15)
              | (go_at_call 31; refine (unhide HM2).mono ?_; rintro r w4 ⟨a2, c2, rfl, hK4, hb4⟩; have HK4 := hide hK4; have HB4 := hide hb4; clear hK4; rw [Ex.val_open]))
            have hE := put6 (below_step (unhide HBD) hb15) (B := w.heap.size + 2) (by omega) (.int .i64 f.op) (.int .i64 f.n) (.int .i64 f.v.k) (.int .i64 f.v.n) (.string f.v.s) (.slice a2 f.args.length c2)
            refine bodyPost_ret (v := .tuple #[f.val a2 c2, .int .i64 0]) (by simp [results, Try.results11, go_sem, Ex.val, *]) rfl (.inl ⟨unhide HBB1, unhide HALL, unhide HU, by rw [← unhide HFE]; exact unhide HBB, a2, c2, by rw [← unhide HFE], ?_, hE⟩)
            rw [← unhide HFE]
            refine ((((unhide HK4).on (Kept.of_below _ _ hb45)).on ((((((Kept.of_low _ _ _ _ ?_).trans (Kept.of_low _ _ _ _ ?_)).trans (Kept.of_low _ _ _ _ ?_)).trans (Kept.of_low _ _ _ _ ?_)).trans (Kept.of_low _ _ _ _ ?_)).trans (Kept.of_low _ _ _ _ ?_))).more ?_) <;> omega
          | false =>
            rw [hbb] at HF2
            have HBB := hide hbb
            clear hbb
            go_wp2_with (first
              | (go_at_call 29; refine (unhide HF2 a2 c2 (w4.alloc (.cells #[.int .i64 f.op, .int .i64 f.n, .int .i64 f.v.k, .int .i64 f.v.n, .string f.v.s, .slice a2 f.args.length c2] 26)) (Ex.all_later _ (unhide HK4).now (below_alloc (Below.refl _ w4) _))).mono ?_; rintro r w5 ⟨rfl, hb5⟩; have hb45 := below_step (below_alloc (Below.refl _ w4) (.cells #[.int .i64 f.op, .int .i64 f.n, .int .i64 f.v.k, .int .i64 f.v.n, .string f.v.s, .slice a2 f.args.length c2] 26)) hb5; have hb15 := below_step (unhide HBE1) (below_step (unhide HB4) hb45); obtain ⟨g0, g1, g2, g3, g4, g5⟩ := (Six.new w4 f a2 c2).later hb5; obtain ⟨⟨z0, z1, z2, z3, z4, z5⟩, f0, f1, f2, f3, f4, f5⟩ := (unhide HZd).later hb15)
              | (go_at_call 31; refine (unhide HM2).mono ?_; rintro r w4 ⟨a2, c2, rfl, hK4, hb4⟩; have HK4 := hide hK4; have HB4 := hide hb4; clear hK4; rw [Ex.val_open]))
            refine bodyPost_ret (v := .tuple #[zeroE.val none 0, .int .i64 3]) (by simp [results, Try.results11, go_sem, Ex.val, Ex.op, Ex.n, Ex.v, Ex.args, Val.null, *]) rfl (.inr ⟨okP_last (by rw [← unhide HFE]; exact unhide HBB), by rw [show errP by_ e = 3 by unfold errP; rw [unhide HBB1, unhide HNO, unhide HU]; rfl], ?_⟩)
            exact put6 (below_step (unhide HBD) hb15) (by omega) _ _ _ _ _ _
        · obtain ⟨m, hm⟩ : ∃ m, Lc[Lc.length - 1]? = some m := ⟨_, List.getElem?_eq_getElem (by have : 0 < Lc.length := List.length_pos_iff.2 hL; omega)⟩
          have hlp : 0 < Lc.length := List.length_pos_iff.2 hL
          have HUM : Hid (usesB e by_.length = decide (m < (by_.length : Int))) := (unhide HS).last hm
          obtain ⟨vb, vo, rfl, d0⟩ := (unhide HO).ints.get hm
          have k7 := cell_regrown d0
          obtain ⟨l1, hl1⟩ : ∃ l1, Lc.length = l1 + 1 := ⟨Lc.length - 1, by omega⟩
          rw [hl1, Nat.add_sub_cancel] at k7
          rw [hl1] at hLc ⊢
          have h8 : ((l1 + 1 : Nat) : Int) - 1 = (l1 : Int) := by omega
          have h7 : (0 : Int) < ((l1 + 1 : Nat) : Int) := by omega
          have h6 : (l1 : Int) < ((l1 + 1 : Nat) : Int) := by omega
          clear hm hL hlp hl1 d0 HS
          by_cases hmb : m < (by_.length : Int)
          · have HU : Hid (usesB e by_.length = true) := by show _ = _; rw [unhide HUM]; simpa using hmb
            have hge : decide ((by_.length : Int) ≤ m) = false := by simp; omega
            refine wp_region_quiet_below (by kernel_rfl) (by kernel_rfl) ?_
            repeat (go_big_quiet_step ((go_at_call 29; exact Calls.regrown_of (unhide HBe _ (below_step (unhide HBC) (below_regrown _ _ _))))))
            refine wpQuiet_nil ?_
            intro w' hw'
            have hB : Below wc.heap.size wc w' := by obtain ⟨p, rfl⟩ := hw'; exact below_regrown _ _ _
            clear hw' k7 k0 k1 k2 k3 k4 k5 k6 b0 b1 b2 b3 b4 b5 q0
            try rw [hge]
            clear hge
            have HBD := hide (below_step (unhide HBC) hB)
            have H6d := hide ((unhide H6r).later (below_step (unhide HBc) hB))
            have HQd := hide (clater (unhide HBXr) (below_step (unhide HBc) hB))
            have HZd := hide ((unhide HZr).later (below_step (unhide HBc) hB))
            have hsd : w.heap.size + 3 ≤ w'.heap.size := by have := hB.size; have := (unhide HBc).size; omega
            clear hB
            go_upto_region 10 with fail
            obtain ⟨we, hwe⟩ : ∃ we, we = w'.alloc (.cells #[F31 (w.heap.size + 1) w'.heap.size] 40) := ⟨_, rfl⟩
            have HBE1 : Hid (Below w'.heap.size w' we) := by rw [hwe]; exact below_alloc (Below.refl _ _) _
            have hse : we.heap.size = w'.heap.size + 1 := by rw [hwe]; simp [go_sem]
            have HDD : Hid (Box1 we w'.heap.size (F31 (w.heap.size + 1) w'.heap.size)) := by rw [hwe]; show _ = _; simp [go_sem]
            have HM2 := hide (unhide HP (unhide HALL) (unhide HBB1) (unhide HU) w'.heap.size we (below_step (unhide HBD) (unhide HBE1)) (clater (unhide HQd) (unhide HBE1)) (unhide HDD))
            have HF2 := hide (unhide HFB (unhide HALL) (unhide HBB1) (unhide HU))
            obtain ⟨f, hfe⟩ : ∃ f, f = madeE (putG by_) e := ⟨_, rfl⟩
            unfold PPost PP at HM2
            rw [← hfe] at HM2 HF2
            have HFE := hide hfe
            clear hfe HP HFB
            unfold F31 at hwe
            go_upto_region 12 with fail
            rw [← hwe]
            clear hwe
            obtain ⟨b0, b1, b2, b3, b4, b5⟩ := (unhide H6d).later (unhide HBE1)
            have dd := unhide HDD
            unfold Box1 F31 at dd
            cases hbb : builtE f with
            | true =>
              rw [hbb] at HF2
              have HBB := hide hbb
              clear hbb
              go_wp2_with (first
                | (go_at_call 29; refine (unhide HF2 a2 c2 (w4.alloc (.cells #[.int .i64 f.op, .int .i64 f.n, .int .i64 f.v.k, .int .i64 f.v.n, .string f.v.s, .slice a2 f.args.length c2] 26)) (Ex.all_later _ (unhide HK4).now (below_alloc (Below.refl _ w4) _))).mono ?_; rintro r w5 ⟨rfl, hb5⟩; have hb45 := below_step (below_alloc (Below.refl _ w4) (.cells #[.int .i64 f.op, .int .i64 f.n, .int .i64 f.v.k, .int .i64 f.v.n, .string f.v.s, .slice a2 f.args.length c2] 26)) hb5; have hb15 := below_step (unhide HBE1) (below_step (unhide HB4) hb45); obtain ⟨g0, g1, g2, g3, g4, g5⟩ := (Six.new w4 f a2 c2).later hb5; obtain ⟨⟨z0, z1, z2, z3, z4, z5⟩, f0, f1, f2, f3, f4, f5⟩ := (unhide HZd).later hb15)
                | (go_at_call 31; refine (unhide HM2).mono ?_; rintro r w4 ⟨a2, c2, rfl, hK4, hb4⟩; have HK4 := hide hK4; have HB4 := hide hb4; clear hK4; rw [Ex.val_open]))
              have hE := put6 (below_step (unhide HBD) hb15) (B := w.heap.size + 2) (by omega) (.int .i64 f.op) (.int .i64 f.n) (.int .i64 f.v.k) (.int .i64 f.v.n) (.string f.v.s) (.slice a2 f.args.length c2)
              refine bodyPost_ret (v := .tuple #[f.val a2 c2, .int .i64 0]) (by simp [results, Try.results11, go_sem, Ex.val, *]) rfl (.inl ⟨unhide HBB1, unhide HALL, unhide HU, by rw [← unhide HFE]; exact unhide HBB, a2, c2, by rw [← unhide HFE], ?_, hE⟩)
              rw [← unhide HFE]
              refine ((((unhide HK4).on (Kept.of_below _ _ hb45)).on ((((((Kept.of_low _ _ _ _ ?_).trans (Kept.of_low _ _ _ _ ?_)).trans (Kept.of_low _ _ _ _ ?_)).trans (Kept.of_low _ _ _ _ ?_)).trans (Kept.of_low _ _ _ _ ?_)).trans (Kept.of_low _ _ _ _ ?_))).more ?_) <;> omega
            | false =>
              rw [hbb] at HF2
              have HBB := hide hbb
              clear hbb
              go_wp2_with (first
                | (go_at_call 29; refine (unhide HF2 a2 c2 (w4.alloc (.cells #[.int .i64 f.op, .int .i64 f.n, .int .i64 f.v.k, .int .i64 f.v.n, .string f.v.s, .slice a2 f.args.length c2] 26)) (Ex.all_later _ (unhide HK4).now (below_alloc (Below.refl _ w4) _))).mono ?_; rintro r w5 ⟨rfl, hb5⟩; have hb45 := below_step (below_alloc (Below.refl _ w4) (.cells #[.int .i64 f.op, .int .i64 f.n, .int .i64 f.v.k, .int .i64 f.v.n, .string f.v.s, .slice a2 f.args.length c2] 26)) hb5; have hb15 := below_step (unhide HBE1) (below_step (unhide HB4) hb45); obtain ⟨g0, g1, g2, g3, g4, g5⟩ := (Six.new w4 f a2 c2).later hb5; obtain ⟨⟨z0, z1, z2, z3, z4, z5⟩, f0, f1, f2, f3, f4, f5⟩ := (unhide HZd).later hb15)
                | (go_at_call 31; refine (unhide HM2).mono ?_; rintro r w4 ⟨a2, c2, rfl, hK4, hb4⟩; have HK4 := hide hK4; have HB4 := hide hb4; clear hK4; rw [Ex.val_open]))
              refine bodyPost_ret (v := .tuple #[zeroE.val none 0, .int .i64 3]) (by simp [results, Try.results11, go_sem, Ex.val, Ex.op, Ex.n, Ex.v, Ex.args, Val.null, *]) rfl (.inr ⟨okP_last (by rw [← unhide HFE]; exact unhide HBB), by rw [show errP by_ e = 3 by unfold errP; rw [unhide HBB1, unhide HNO, unhide HU]; rfl], ?_⟩)
              exact put6 (below_step (unhide HBD) hb15) (by omega) _ _ _ _ _ _
          · have HU : Hid (usesB e by_.length = false) := by show _ = _; rw [unhide HUM]; simpa using hmb
            have hge : decide ((by_.length : Int) ≤ m) = true := by simp; omega
            have hge2 : (by_.length : Int) ≤ m := by omega
            have HOK : Hid (okP by_ e = false) := by show _ = _; unfold okP; rw [unhide HU]; simp
            have HER : Hid (errP by_ e = 1) := by show _ = _; unfold errP; rw [unhide HU]; simp
            clear HP HFB hmb
            refine wp_region_quiet_below (by kernel_rfl) (by kernel_rfl) ?_
            repeat (go_big_quiet_step ((go_at_call 29; exact Calls.regrown_of (unhide HBe _ (below_step (unhide HBC) (below_regrown _ _ _))))))
            refine wpQuiet_nil ?_
            intro w' hw'
            have hB : Below wc.heap.size wc w' := by obtain ⟨p, rfl⟩ := hw'; exact below_regrown _ _ _
            clear hw' k7 k0 k1 k2 k3 k4 k5 k6 b0 b1 b2 b3 b4 b5 q0
            try rw [hge]
            clear hge
            obtain ⟨⟨z0, z1, z2, z3, z4, z5⟩, f0, f1, f2, f3, f4, f5⟩ := (unhide HZr).later (below_step (unhide HBc) hB)
            go_wp2
            refine bodyPost_ret (v := .tuple #[zeroE.val none 0, .int .i64 1]) (by simp [results, Try.results11, go_sem, Ex.val, Ex.op, Ex.n, Ex.v, Ex.args, Val.null, *]) rfl (.inr ⟨unhide HOK, by rw [unhide HER], ?_⟩)
            exact put6 (below_step (unhide HBC) hB) (by omega) _ _ _ _ _ _
end Go.Proofs.Ytfnacpkodfhfoac

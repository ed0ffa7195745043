import Derived.Test.YtmjeiepljlepbacGreatFdB
import Derived.Test.YtmjeiepljlepbacGreatFdD
import Derived.Test.YtmjeiepljlepbacGreatFdA
import Derived.Test.YtmjeiepljlepbacGreatFoG
set_option linter.unusedSimpArgs false
set_option linter.unusedVariables false
set_option maxRecDepth 100000
namespace Go.Proofs.YtmjeiepljlepbacGreat
open Go.RowKit Go.Sort

/-- What the document's fold answers. -/
def FPost (e : Ex) (w : World) (r : Ending) (w' : World) : Prop := ∃ a2 c2, r = .returned ((foldE e).val a2 c2) ∧ ExK w.heap.size w' a2 (foldE e).args ∧ Below w.heap.size w w'
/-- While the parts are folded. -/
def RLoop (e : Ex) (a : Option Addr) (c : Nat) (w : World) (s i : Value) (wr : World) : Prop := ∃ (k : Nat) (v : Value) (L : List Nd) (kb : Bool), k ≤ e.args.length ∧ i = .int .i64 (k : Int) ∧ s = .bool kb ∧ Hid (Rnd e a c w v L wr) ∧ Hid (L.map (·.1) = (e.args.take k).map foldE) ∧ Hid (kb = !((L.map (·.1)).any notConst))
theorem need_same {e : Ex} (h : copyE e = e) : (needE e).op = e.op ∧ (needE e).n = e.n ∧ (needE e).v = e.v := by
  rw [copyE_eq] at h
  exact ⟨rfl, (congrArg Ex.n h : _), (congrArg Ex.v h : _)⟩
theorem any_push (l : List Ex) (y : Ex) : (!((l ++ [y]).any notConst)) = ((!(l.any notConst)) && (y.op == 2)) := by
  rw [List.any_append]
  show (!(l.any notConst || ((!(y.op == 2)) || false))) = _
  generalize l.any notConst = b1
  generalize (y.op == 2) = b2
  cases b1 <;> cases b2 <;> rfl
set_option maxHeartbeats 4000000 in
theorem rfold_step (e : Ex) (hf : e.fin) (hg : goodE e) (hc : copyE e = e) (a : Option Addr) (c : Nat) (w : World) (ha : Ex.all w a e.args)
    (IH : ∀ (i : Nat) (x : Ex), e.args[i]? = some x → ∀ (a' : Option Addr) (c' : Nat) (W : World), Ex.all W a' x.args → Calls Tryz.prog 84 #[x.val a' c'] W (FPost x W)) :
    Calls Tryz.prog 84 #[e.val a c] w (FPost e w) := by
  have HIH := hide IH
  have hl3 : e.args.length ≤ 3 := by
    rcases shape (good_open hg).1 with ⟨_, h, _⟩ | ⟨_, h⟩ | ⟨x, h, _⟩ | ⟨x, y, h, _, _⟩ | ⟨x, y, z, h, _⟩ <;> rw [h] <;> simp
  have HA := hide ha
  have HG := hide hg
  have HFI := hide hf
  have HND := hide (need_same hc)
  have H6 : Hid (Six (w.alloc (.cells #[.int .i64 e.op, .int .i64 e.n, .int .i64 e.v.k, .int .i64 e.v.n, .string e.v.s, .slice a e.args.length c] 59)) w.heap.size e a c) := Six.new w e a c
  have HB0 := hide (below_alloc (Below.refl _ w) (.cells #[.int .i64 e.op, .int .i64 e.n, .int .i64 e.v.k, .int .i64 e.v.n, .string e.v.s, .slice a e.args.length c] 59))
  have hsz : (w.alloc (.cells #[.int .i64 e.op, .int .i64 e.n, .int .i64 e.v.k, .int .i64 e.v.n, .string e.v.s, .slice a e.args.length c] 59)).heap.size = w.heap.size + 1 := by simp [go_sem]
  rw [Ex.val_open]
  clear IH ha hf hg hc
  go_enter Tryz.func84, Tryz.ntmps84
  go_upto_region 2 with fail
  obtain ⟨wa, hwa⟩ : ∃ wa, wa = ((w.alloc (.cells #[.int .i64 e.op, .int .i64 e.n, .int .i64 e.v.k, .int .i64 e.v.n, .string e.v.s, .slice a e.args.length c] 59)).alloc (.cells #[.int .i64 0, .int .i64 0, .int .i64 0, .int .i64 0, .string ⟨#[]⟩, .slice none 0 0] 59)).alloc (.cells #[.int .i64 e.op, .int .i64 e.n, .int .i64 e.v.k, .int .i64 e.v.n, .string e.v.s, .slice none 0 0] 59) := ⟨_, rfl⟩
  have HR0 : Hid (Rnd e a c w (.slice none 0 0) [] wa) := by
    have hsa : wa.heap.size = w.heap.size + 3 := by rw [hwa]; simp [go_sem]
    have h6 : Six wa w.heap.size e a c := by rw [hwa]; exact ((unhide H6).later (below_alloc (Below.refl _ _) _)).later (below_alloc (Below.refl _ _) _)
    have hz : Box6 wa (w.heap.size + 1) zeroE none 0 := by
      have h := Box6.new (w.alloc (.cells #[.int .i64 e.op, .int .i64 e.n, .int .i64 e.v.k, .int .i64 e.v.n, .string e.v.s, .slice a e.args.length c] 59)) zeroE none 0
      rw [hsz] at h
      rw [hwa]
      exact h.later (below_alloc (Below.refl _ _) _)
    have ho : Box6 wa (w.heap.size + 2) (.mk e.op e.n e.v []) none 0 := by
      have h := Box6.new ((w.alloc (.cells #[.int .i64 e.op, .int .i64 e.n, .int .i64 e.v.k, .int .i64 e.v.n, .string e.v.s, .slice a e.args.length c] 59)).alloc (.cells #[.int .i64 0, .int .i64 0, .int .i64 0, .int .i64 0, .string ⟨#[]⟩, .slice none 0 0] 59)) (.mk e.op e.n e.v []) none 0
      rw [show ((w.alloc (.cells #[.int .i64 e.op, .int .i64 e.n, .int .i64 e.v.k, .int .i64 e.v.n, .string e.v.s, .slice a e.args.length c] 59)).alloc (.cells #[.int .i64 0, .int .i64 0, .int .i64 0, .int .i64 0, .string ⟨#[]⟩, .slice none 0 0] 59)).heap.size = w.heap.size + 2 by simp [go_sem]] at h
      rw [hwa]
      exact h
    obtain ⟨⟨t0, t1, t2, t3, t4, t5⟩, u0, u1, u2, u3, u4, u5⟩ := ho
    obtain ⟨n0, n1, n2⟩ := unhide HND
    exact ⟨⟨h6, hz, by rw [n0]; exact t0, by rw [n1]; exact t1, by rw [n2]; exact t2, by rw [n2]; exact t3, by rw [n2]; exact t4, t5, u5⟩, NInv.nil _ _, by rw [hwa]; exact below_alloc (below_alloc (unhide HB0) _) _, by omega⟩
  rw [← hwa]
  clear hwa HB0 H6 hsz
  obtain ⟨s0, s1, s2, s3, s4, s5⟩ := (unhide HR0).1.six
  go_wp2
  go_loopw [4, 20] (fun s i wr => RLoop e a c w s i wr) (fun _ i _ => e.args.length - (intOf i).toNat)
  case atStart => exact ⟨0, _, [], true, Nat.zero_le _, rfl, rfl, unhide HR0, (by show _ = _; simp), rfl⟩
  case round =>
    obtain ⟨k, v, L, kb, hk, rfl, rfl, HR, HM, HKB⟩ := hrel
    clear s0 s1 s2 s3 s4 s5 HR0
    by_cases hlt : k < e.args.length
    · have h9 : (k : Int) < (e.args.length : Int) := by omega
      obtain ⟨x, hx⟩ : ∃ x, e.args[k]? = some x := ⟨_, List.getElem?_eq_getElem hlt⟩
      obtain ⟨vb, vo, ea, hat⟩ := Ex.all_get (Ex.all_later _ (unhide HA) (unhide HR).2.2.1) hx
      obtain ⟨a', c', ⟨d0, d1, d2, d3, d4, d5⟩, hal⟩ := Ex.at_open hat
      obtain ⟨W1, hW1⟩ : ∃ W1, W1 = wr.alloc (.cells #[.int .i64 x.op, .int .i64 x.n, .int .i64 x.v.k, .int .i64 x.v.n, .string x.v.s, .slice a' x.args.length c'] 59) := ⟨_, rfl⟩
      have HB1 : Hid (Below wr.heap.size wr W1) := by rw [hW1]; exact below_alloc (Below.refl _ _) _
      have H1 : Hid (Six W1 wr.heap.size x a' c') := by rw [hW1]; exact Six.new wr x a' c'
      have HC := hide (unhide HIH k x hx a' c' W1 (Ex.all_later _ hal (unhide HB1)))
      unfold FPost at HC
      rw [Ex.val_open] at HC
      have HTK : Hid ((e.args.take (k + 1)).map foldE = (e.args.take k).map foldE ++ [foldE x]) := map_take foldE hx
      generalize foldE x = y at *
      subst ea
      clear hx hat hal HIH
      go_upto_region 6 with fail
      rw [← hW1]
      clear hW1 d0 d1 d2 d3 d4 d5
      obtain ⟨e0, e1, e2, e3, e4, e5⟩ := unhide H1
      go_upto_region 7 with (go_at_call 84; refine (unhide HC).mono ?_; rintro r w3 ⟨a2, c2, rfl, hK3, hb3⟩; rw [Ex.val_open])
      obtain ⟨b7, hb7⟩ : ∃ b7, b7 = w3.heap.size := ⟨_, rfl⟩
      refine enter_with (fun wx => Below wr.heap.size wr wx ∧ ExK wr.heap.size wx a2 y.args ∧ Six wx b7 y a2 c2) ?_ ?_
      · have hal3 := below_alloc (Below.refl _ w3) (.cells #[.int .i64 y.op, .int .i64 y.n, .int .i64 y.v.k, .int .i64 y.v.n, .string y.v.s, .slice a2 y.args.length c2] 59)
        exact ⟨below_alloc (below_step (unhide HB1) hb3) _, (hK3.on (Kept.of_below _ _ hal3)).more (unhide HB1).size, by rw [hb7]; exact Six.new w3 y a2 c2⟩
      intro wx HX
      rw [← hb7]
      clear hb7 hK3 hb3 e0 e1 e2 e3 e4 e5 HC H1 HB1
      obtain ⟨e0, e1, e2, e3, e4, e5⟩ := (unhide HX).2.2
      go_cut [4] (fun s wz => s = .bool (kb && (y.op == 2)) ∧ wx = wz)
      case first =>
        cases kb
        · go_wp2
          go_meet
          exact ⟨rfl, rfl⟩
        · go_wp2
          go_meet
          exact ⟨by simp, rfl⟩
      case rest =>
        obtain ⟨rfl, rfl⟩ := hcut
        clear e0 e1 e2 e3 e4 e5
        generalize hkb2 : (kb && (y.op == 2)) = kb2
        have HKB2 := hide hkb2
        clear hkb2
        go_upto_region 8 with fail
        have HE1 : Hid ((L ++ [(y, a2, c2)]).map (·.1) = (e.args.take (k + 1)).map foldE) := by
          show _ = _
          rw [List.map_append, unhide HM, unhide HTK]
          rfl
        have HE2 : Hid (kb2 = !(((L ++ [(y, a2, c2)]).map (·.1)).any notConst)) := by
          show _ = _
          rw [List.map_append]
          show _ = !((L.map (·.1) ++ [y]).any notConst)
          rw [any_push, ← unhide HKB2, unhide HKB]
        obtain ⟨aL, cL, rfl⟩ := (unhide HR).2.1.1.slice
        have hLl : L.length ≤ 3 := by have h := congrArg List.length (unhide HM); rw [List.length_map, List.length_map, List.length_take] at h; omega
        have HFx := hide ((unhide HR).1.below ((unhide HX).1.mono (unhide HR).2.2.2) (Nat.le_refl _))
        have H5 := hide (unhide HFx).o5
        have H7 := hide (unhide HX).2.2
        have hwx : w.heap.size + 3 ≤ wx.heap.size := by have h1 := (unhide HR).2.2.2; have h2 := (unhide HX).1.size; omega
        have HS0 := hide ((Below.refl wx.heap.size wx).drew)
        refine wp_region_noPanic ?_
        refine wp_region_G (S := fun w' : World => Below wx.heap.size wx w') (k := 5) (by kernel_rfl) ?_
        refine anyG_takel (i := 0) (v := (.pointer (some ⟨w.heap.size + 2, 5, none⟩))) [5] rfl (by kernel_rfl) (by kernel_rfl) (by kernel_rfl) (by kernel_rfl) (fun _ _ _ h => h) (Or.inl ⟨by rfl, fun w' hSw => ?_⟩) (unhide HS0) ?_
        · go_simp
        try simp only [Act.put, List.setIfInBounds_toArray, List.set_cons_zero, List.set_cons_succ]
        refine anyG_takel (i := 1) (v := .slice aL L.length cL) [5] rfl (by kernel_rfl) (by kernel_rfl) (by kernel_rfl) (by kernel_rfl) (fun _ _ _ h => h) (Or.inl ⟨by rfl, fun w' hSw => ?_⟩) (unhide HS0) ?_
        · have e5 := clater (unhide H5) hSw
          go_simp
        try simp only [Act.put, List.setIfInBounds_toArray, List.set_cons_zero, List.set_cons_succ]
        refine anyG_takel (i := 2) (v := .agg #[.int .i64 y.op, .int .i64 y.n, .int .i64 y.v.k, .int .i64 y.v.n, .string y.v.s, .slice a2 y.args.length c2]) [5] rfl (by kernel_rfl) (by kernel_rfl) (by kernel_rfl) (by kernel_rfl) (fun _ _ _ h => h) (Or.inl ⟨by rfl, fun w' hSw => ?_⟩) (unhide HS0) ?_
        · obtain ⟨e0, e1, e2, e3, e4, e5⟩ := (unhide H7).later hSw
          go_simp
        try simp only [Act.put, List.setIfInBounds_toArray, List.set_cons_zero, List.set_cons_succ]
        refine anyG_takel (i := 3) (v := .int .i64 (L.length : Int)) [5] rfl (by kernel_rfl) (by kernel_rfl) (by kernel_rfl) (by kernel_rfl) (fun _ _ _ h => h) (Or.inl ⟨by rfl, fun w' hSw => ?_⟩) (unhide HS0) ?_
        · go_simp
        try simp only [Act.put, List.setIfInBounds_toArray, List.set_cons_zero, List.set_cons_succ]
        refine anyG_one (i := 4) (by kernel_rfl) ?_
        refine wpOp_lit rfl (by rfl) fun K' hK' => ?_
        go_simp
        refine unhide hK' _ _ ⟨fun _ => below_alloc (unhide HS0) _, ?_⟩
        clear hK' K'
        refine anyG_one (i := 5) (by kernel_rfl) ?_
        refine wpOp_lit rfl (by rfl) fun K' hK' => ?_
        have hbx := below_step (unhide HX).1 (unhide HS0)
        refine op_append_nodesR (.tmp 33) (.tmp 36) rfl (w.heap.size + 3) _ (.slice aL L.length cL) L [(zeroE, none, 0)] rfl ((unhide HR).2.1.1.later (below_alloc hbx _)) _ 1 rfl (own_oneR _ _ (Nat.le_refl _) (zeroE, none, 0)) (by show L.length + 1 ≤ _; omega) (by have h1 := (below_alloc (unhide HS0) (.cells #[.int .i64 zeroE.op, .int .i64 zeroE.n, .int .i64 zeroE.v.k, .int .i64 zeroE.v.n, .string zeroE.v.s, .slice none zeroE.args.length 0] 59)).size; exact Nat.le_trans hwx h1) ?_
        intro v4 w4 hO4 hg4 hv4
        obtain ⟨g4, cap4, rfl, hge4⟩ : ∃ g cap, v4 = .slice (some ⟨g, 0, none⟩) (L.length + 1) cap ∧ w.heap.size + 3 ≤ g := by
          obtain ⟨a4, c4, rfl⟩ := hO4.slice
          obtain ⟨g, rfl, h1, _⟩ := hO4.some (by simp)
          exact ⟨g, c4, by rw [List.length_append]; rfl, h1⟩
        refine unhide hK' _ _ ⟨fun hh => absurd hh (by decide), ?_⟩
        clear hK' K'
        try simp only [Act.put, List.setIfInBounds_toArray, List.set_cons_zero, List.set_cons_succ]
        have HPD := hide (push_doneA (q := (y, a2, c2)) (unhide HR) hbx ((unhide HX).2.1.on (Kept.of_below _ _ (unhide HS0))) hO4 hg4 hv4)
        obtain ⟨⟨g0, g1, g2, g3, g5, g6⟩, f0, f1, f2, f3, f4, f5⟩ := hO4.facts (j := L.length) (x := (zeroE, none, 0)) (by rw [List.getElem?_append_right (Nat.le_refl _), Nat.sub_self]; rfl)
        have HB4 : Hid (Below (w.heap.size + 3) wr w4) := ((below_alloc hbx _).mono (unhide HR).2.2.2).trans (grown_below hg4 (by have h1 := (below_alloc (unhide HS0) (.cells #[.int .i64 zeroE.op, .int .i64 zeroE.n, .int .i64 zeroE.v.k, .int .i64 zeroE.v.n, .string zeroE.v.s, .slice none zeroE.args.length 0] 59)).size; exact Nat.le_trans hwx h1) (fun g hg => (own_in (unhide HR).2.1.1 g hg).1))
        have HF4 := hide ((unhide HR).1.below (unhide HB4) (Nat.le_refl _))
        have o5 := (unhide HF4).o5
        have of := (unhide HF4).of
        have hix : (L.length : Int) < (L.length : Int) + 1 := by omega
        have hn1 : ¬ (g4 = w.heap.size + 2) := by omega
        have hn2 : ¬ (w.heap.size + 2 = g4) := by omega
        clear hO4 hg4 hv4 hbx HFx
        refine anyG_many [6, 8] (by kernel_rfl) (by simp) ?_
        intro i hi
        simp only [List.mem_cons, List.not_mem_nil, or_false] at hi
        rcases hi with rfl | rfl
        · refine wpOp_lit rfl (by rfl) fun K' hK' => ?_
          go_simp
          refine unhide hK' _ _ ⟨fun hh => absurd hh (by decide), ?_⟩
          clear hK' K'
          refine anyG_many [7, 8] (by kernel_rfl) (by simp) ?_
          intro i hi
          simp only [List.mem_cons, List.not_mem_nil, or_false] at hi
          rcases hi with rfl | rfl
          · refine wpOp_lit rfl (by rfl) fun K' hK' => ?_
            go_simp
            refine unhide hK' _ _ ⟨fun hh => absurd hh (by decide), ?_⟩
            clear hK' K'
            refine anyG_one (i := 8) (by kernel_rfl) ?_
            refine wpOp_lit rfl (by rfl) fun K' hK' => ?_
            go_simp
            refine unhide hK' _ _ ⟨fun hh => absurd hh (by decide), ?_⟩
            clear hK' K'
            refine anyG_one (i := 9) (by kernel_rfl) ?_
            refine wpOp_lit rfl (by rfl) fun K' hK' => ?_
            go_simp
            refine unhide hK' _ _ ⟨fun hh => absurd hh (by decide), ?_⟩
            clear hK' K'
            refine anyG_done (by kernel_rfl) ?_ _
            refine NoPanic.normal ?_
            go_wp2
            exact ⟨⟨k + 1, _, L ++ [(y, a2, c2)], kb2, by omega, by go_num, rfl, (unhide HPD).1, unhide HE1, unhide HE2⟩, by simp [intOf]; omega⟩
          · refine wpOp_lit rfl (by rfl) fun K' hK' => ?_
            go_simp
            refine unhide hK' _ _ ⟨fun hh => absurd hh (by decide), ?_⟩
            clear hK' K'
            refine anyG_many [7, 9] (by kernel_rfl) (by simp) ?_
            intro i hi
            simp only [List.mem_cons, List.not_mem_nil, or_false] at hi
            rcases hi with rfl | rfl
            · refine wpOp_lit rfl (by rfl) fun K' hK' => ?_
              go_simp
              refine unhide hK' _ _ ⟨fun hh => absurd hh (by decide), ?_⟩
              clear hK' K'
              refine anyG_one (i := 9) (by kernel_rfl) ?_
              refine wpOp_lit rfl (by rfl) fun K' hK' => ?_
              go_simp
              refine unhide hK' _ _ ⟨fun hh => absurd hh (by decide), ?_⟩
              clear hK' K'
              refine anyG_done (by kernel_rfl) ?_ _
              refine NoPanic.normal ?_
              go_wp2
              exact ⟨⟨k + 1, _, L ++ [(y, a2, c2)], kb2, by omega, by go_num, rfl, (unhide HPD).1, unhide HE1, unhide HE2⟩, by simp [intOf]; omega⟩
            · refine wpOp_lit rfl (by rfl) fun K' hK' => ?_
              go_simp
              refine unhide hK' _ _ ⟨fun hh => absurd hh (by decide), ?_⟩
              clear hK' K'
              refine anyG_one (i := 7) (by kernel_rfl) ?_
              refine wpOp_lit rfl (by rfl) fun K' hK' => ?_
              go_simp
              refine unhide hK' _ _ ⟨fun hh => absurd hh (by decide), ?_⟩
              clear hK' K'
              refine anyG_done (by kernel_rfl) ?_ _
              refine NoPanic.normal ?_
              go_wp2
              exact ⟨⟨k + 1, _, L ++ [(y, a2, c2)], kb2, by omega, by go_num, rfl, (unhide HPD).2, unhide HE1, unhide HE2⟩, by simp [intOf]; omega⟩
        · refine wpOp_lit rfl (by rfl) fun K' hK' => ?_
          go_simp
          refine unhide hK' _ _ ⟨fun hh => absurd hh (by decide), ?_⟩
          clear hK' K'
          refine anyG_many [6, 9] (by kernel_rfl) (by simp) ?_
          intro i hi
          simp only [List.mem_cons, List.not_mem_nil, or_false] at hi
          rcases hi with rfl | rfl
          · refine wpOp_lit rfl (by rfl) fun K' hK' => ?_
            go_simp
            refine unhide hK' _ _ ⟨fun hh => absurd hh (by decide), ?_⟩
            clear hK' K'
            refine anyG_many [7, 9] (by kernel_rfl) (by simp) ?_
            intro i hi
            simp only [List.mem_cons, List.not_mem_nil, or_false] at hi
            rcases hi with rfl | rfl
            · refine wpOp_lit rfl (by rfl) fun K' hK' => ?_
              go_simp
              refine unhide hK' _ _ ⟨fun hh => absurd hh (by decide), ?_⟩
              clear hK' K'
              refine anyG_one (i := 9) (by kernel_rfl) ?_
              refine wpOp_lit rfl (by rfl) fun K' hK' => ?_
              go_simp
              refine unhide hK' _ _ ⟨fun hh => absurd hh (by decide), ?_⟩
              clear hK' K'
              refine anyG_done (by kernel_rfl) ?_ _
              refine NoPanic.normal ?_
              go_wp2
              exact ⟨⟨k + 1, _, L ++ [(y, a2, c2)], kb2, by omega, by go_num, rfl, (unhide HPD).1, unhide HE1, unhide HE2⟩, by simp [intOf]; omega⟩
            · refine wpOp_lit rfl (by rfl) fun K' hK' => ?_
              go_simp
              refine unhide hK' _ _ ⟨fun hh => absurd hh (by decide), ?_⟩
              clear hK' K'
              refine anyG_one (i := 7) (by kernel_rfl) ?_
              refine wpOp_lit rfl (by rfl) fun K' hK' => ?_
              go_simp
              refine unhide hK' _ _ ⟨fun hh => absurd hh (by decide), ?_⟩
              clear hK' K'
              refine anyG_done (by kernel_rfl) ?_ _
              refine NoPanic.normal ?_
              go_wp2
              exact ⟨⟨k + 1, _, L ++ [(y, a2, c2)], kb2, by omega, by go_num, rfl, (unhide HPD).2, unhide HE1, unhide HE2⟩, by simp [intOf]; omega⟩
          · refine wpOp_lit rfl (by rfl) fun K' hK' => ?_
            go_simp
            refine unhide hK' _ _ ⟨fun hh => absurd hh (by decide), ?_⟩
            clear hK' K'
            refine anyG_one (i := 6) (by kernel_rfl) ?_
            refine wpOp_lit rfl (by rfl) fun K' hK' => ?_
            go_simp
            refine unhide hK' _ _ ⟨fun hh => absurd hh (by decide), ?_⟩
            clear hK' K'
            refine anyG_one (i := 7) (by kernel_rfl) ?_
            refine wpOp_lit rfl (by rfl) fun K' hK' => ?_
            go_simp
            refine unhide hK' _ _ ⟨fun hh => absurd hh (by decide), ?_⟩
            clear hK' K'
            refine anyG_done (by kernel_rfl) ?_ _
            refine NoPanic.normal ?_
            go_wp2
            exact ⟨⟨k + 1, _, L ++ [(y, a2, c2)], kb2, by omega, by go_num, rfl, (unhide HPD).2, unhide HE1, unhide HE2⟩, by simp [intOf]; omega⟩
    · have h9 : ¬ (k : Int) < (e.args.length : Int) := by omega
      obtain rfl : k = e.args.length := by omega
      have hm := unhide HM
      rw [List.take_length] at hm
      obtain ⟨a2, c2, rfl, hK⟩ := (unhide HR).2.1.all (lo' := w.heap.size + 3) (Nat.le_refl _)
      rw [hm] at hK
      have hLl : L.length = e.args.length := by have h := congrArg List.length hm; simpa using h
      have hs3 := (unhide HR).2.2.2
      have HFr : Hid (∀ W, Below wr.heap.size wr W → Fr w.heap.size e a c (.slice a2 e.args.length c2) W) := fun W hW => by
        rw [← hLl]
        exact (unhide HR).1.below (hW.mono hs3) (Nat.le_refl _)
      have HKx := hide (fun (W : World) (hW : Below wr.heap.size wr W) => hK.on (Kept.of_below _ _ hW))
      have HBw := hide (fun (W : World) (hW : Below wr.heap.size wr W) => below_step (unhide HR).2.2.1 hW)
      have HKN : Hid (kb = !((e.args.map foldE).any notConst)) := by rw [← hm]; exact unhide HKB
      have HPU := hide (fun (W : World) (hW : Below wr.heap.size wr W) (u0 u1 u2 u3 u4 u5 : Value) => put6 (B := w.heap.size + 1) (unhide HBw W hW) (by omega) u0 u1 u2 u3 u4 u5)
      have HKP := hide (fun (W : World) (hW : Below wr.heap.size wr W) (u0 u1 u2 u3 u4 u5 : Value) => (exk_put6 (g := w.heap.size + 1) (unhide HKx W hW) (by omega) u0 u1 u2 u3 u4 u5).more (show w.heap.size ≤ w.heap.size + 3 by omega))
      have HOUT : Hid (foldE e = nodeG simpE e → ∀ (W : World) (hW : Below wr.heap.size wr W) (u0 u1 u2 u3 u4 u5 : Value), FPost e w (.returned (.agg #[.int .i64 (needE e).op, .int .i64 (needE e).n, .int .i64 (needE e).v.k, .int .i64 (needE e).v.n, .string (needE e).v.s, .slice a2 e.args.length c2])) ((((((W.setCell ⟨w.heap.size + 1, 0, none⟩ u0).setCell ⟨w.heap.size + 1, 1, none⟩ u1).setCell ⟨w.heap.size + 1, 2, none⟩ u2).setCell ⟨w.heap.size + 1, 3, none⟩ u3).setCell ⟨w.heap.size + 1, 4, none⟩ u4).setCell ⟨w.heap.size + 1, 5, none⟩ u5)) := fun hE W hW u0 u1 u2 u3 u4 u5 => by
        unfold FPost
        rw [hE]
        exact ⟨a2, c2, by rw [nd_val], by rw [nd_args]; exact unhide HKP W hW u0 u1 u2 u3 u4 u5, unhide HPU W hW u0 u1 u2 u3 u4 u5⟩
      have HCON : Hid (∀ V : Val, foldE e = conE V → ∀ (W : World) (hW : Below wr.heap.size wr W) (u0 u1 u2 u3 u4 u5 : Value), FPost e w (.returned ((conE V).val none 0)) ((((((W.setCell ⟨w.heap.size + 1, 0, none⟩ u0).setCell ⟨w.heap.size + 1, 1, none⟩ u1).setCell ⟨w.heap.size + 1, 2, none⟩ u2).setCell ⟨w.heap.size + 1, 3, none⟩ u3).setCell ⟨w.heap.size + 1, 4, none⟩ u4).setCell ⟨w.heap.size + 1, 5, none⟩ u5)) := fun V hE W hW u0 u1 u2 u3 u4 u5 => by
        unfold FPost
        rw [hE]
        exact ⟨none, 0, rfl, exk_nilR _ _ _, unhide HPU W hW u0 u1 u2 u3 u4 u5⟩
      have HCH : Hid (∀ Y : Ex, foldE e = Y → ∀ (W : World) (hW : Below wr.heap.size wr W) (aY : Option Addr) (cY : Nat), ExK (w.heap.size + 3) W aY Y.args → ∀ u0 u1 u2 u3 u4 u5 : Value, FPost e w (.returned (Y.val aY cY)) ((((((W.setCell ⟨w.heap.size + 1, 0, none⟩ u0).setCell ⟨w.heap.size + 1, 1, none⟩ u1).setCell ⟨w.heap.size + 1, 2, none⟩ u2).setCell ⟨w.heap.size + 1, 3, none⟩ u3).setCell ⟨w.heap.size + 1, 4, none⟩ u4).setCell ⟨w.heap.size + 1, 5, none⟩ u5)) := fun Y hE W hW aY cY hY u0 u1 u2 u3 u4 u5 => by
        unfold FPost
        rw [hE]
        exact ⟨aY, cY, rfl, (exk_put6 (g := w.heap.size + 1) hY (by omega) u0 u1 u2 u3 u4 u5).more (by omega), unhide HPU W hW u0 u1 u2 u3 u4 u5⟩
      have hmf : ∀ (fn : Fn) (first cap : Array Value) (w : World), (Instr.makeFunc fn first cap).run Tryz.prog w = .ok (.func fn first cap) w := fun _ _ _ _ => rfl
      have HKall := hide hK
      clear hK hm HM HKB HR HIH HA HND hLl HBw HPU HKP
      rcases shape (good_open (unhide HG)).1 with ⟨_, hA, _⟩ | ⟨_, hA⟩ | ⟨x, hA, ho⟩ | ⟨x, y, hA, ho1, ho2⟩ | ⟨x, y, z, hA, ho⟩
      · have HE := hide (unhide HOUT (fold_nil (unhide HG) hA))
        have hl : e.args.length = 0 := by rw [hA]; rfl
        rw [hl] at h9 HFr HE ⊢
        obtain ⟨⟨s0, s1, s2, s3, s4, s5⟩, ⟨⟨z0, z1, z2, z3, z4, z5⟩, f0, f1, f2, f3, f4, f5⟩, o0, o1, o2, o3, o4, o5, of⟩ := unhide HFr wr (Below.refl _ _)
        rw [hl] at s5
        clear hA HCON HKN HOUT HCH HKall HKx
        go_wp2
        exact bodyPost_ret (v := .agg #[.int .i64 (needE e).op, .int .i64 (needE e).n, .int .i64 (needE e).v.k, .int .i64 (needE e).v.n, .string (needE e).v.s, .slice a2 0 c2]) (by simp [results, Tryz.results84, go_sem, *]) rfl (unhide HE wr (Below.refl _ _) _ _ _ _ _ _)
      · have HE := hide (unhide HOUT (fold_nil (unhide HG) hA))
        have hl : e.args.length = 0 := by rw [hA]; rfl
        rw [hl] at h9 HFr HE ⊢
        obtain ⟨⟨s0, s1, s2, s3, s4, s5⟩, ⟨⟨z0, z1, z2, z3, z4, z5⟩, f0, f1, f2, f3, f4, f5⟩, o0, o1, o2, o3, o4, o5, of⟩ := unhide HFr wr (Below.refl _ _)
        rw [hl] at s5
        clear hA HCON HKN HOUT HCH HKall HKx
        go_wp2
        exact bodyPost_ret (v := .agg #[.int .i64 (needE e).op, .int .i64 (needE e).n, .int .i64 (needE e).v.k, .int .i64 (needE e).v.n, .string (needE e).v.s, .slice a2 0 c2]) (by simp [results, Tryz.results84, go_sem, *]) rfl (unhide HE wr (Below.refl _ _) _ _ _ _ _ _)
      · have hl : e.args.length = 1 := by rw [hA]; rfl
        have h0 : e.args.length ≠ 0 ∨ 1 = 0 := by rw [hl]; decide
        rw [hl] at h9 HFr ⊢
        obtain ⟨⟨s0, s1, s2, s3, s4, s5⟩, ⟨⟨z0, z1, z2, z3, z4, z5⟩, f0, f1, f2, f3, f4, f5⟩, o0, o1, o2, o3, o4, o5, of⟩ := unhide HFr wr (Below.refl _ _)
        rw [hl] at s5
        have hne : e.args ≠ [] := by rw [hA]; simp
        cases kb with
        | true =>
          have hk : (e.args.map foldE).any notConst = false := by have h := unhide HKN; revert h; cases (e.args.map foldE).any notConst <;> simp
          have HE := hide (unhide HCON _ (fold_known (unhide HG) hne hk))
          have HEV : Hid (∀ W, Below wr.heap.size wr W → Calls Tryz.prog 73 #[.agg #[.int .i64 (needE e).op, .int .i64 (needE e).n, .int .i64 (needE e).v.k, .int .i64 (needE e).v.n, .string (needE e).v.s, .slice a2 1 c2], .slice none 0 0] W fun r w' => r = .returned (evalE [] (nodeG simpE e)).v ∧ Below W.heap.size W w') := fun W hW => by
            have h := reval_any [] (by simp) (by simp) none 0 (nodeG simpE e) (node_fin e (unhide HFI) fun y hy => fold_fin y (goodL_mem (good_open (unhide HG)).2 hy) (Ex.fins_mem (Ex.fin_open (unhide HFI)).2 hy)) (fold_node e (unhide HG)) a2 c2 W (by rw [nd_args]; exact (unhide HKx W hW).now) (.inl rfl)
            rw [nd_val, hl] at h
            exact h
          have HCN := hide (fun W => rcon_any (evalE [] (nodeG simpE e)) W)
          generalize evalE [] (nodeG simpE e) = V at *
          rw [Val.open_] at HEV HCN
          clear hA HCON HKN HOUT HCH HKall HKx hk
          go_wp2_with (first
            | (go_at_call 128; refine (unhide HCN _).mono ?_; rintro r w2 ⟨rfl, hb2⟩; rw [Ex.val_open]; have hB2 := below_step hb1 hb2; obtain ⟨⟨s0, s1, s2, s3, s4, s5⟩, ⟨⟨z0, z1, z2, z3, z4, z5⟩, f0, f1, f2, f3, f4, f5⟩, o0, o1, o2, o3, o4, o5, of⟩ := unhide HFr w2 (hB2))
            | (go_at_call 73; refine (unhide HEV wr (Below.refl _ _)).mono ?_; rintro r w1 ⟨rfl, hb1⟩))
          exact bodyPost_ret (v := (conE V).val none 0) (by rw [Ex.val_open]; simp [results, Tryz.results84, go_sem, *]) rfl (unhide HE w2 hB2 _ _ _ _ _ _)
        | false =>
          have hk : (e.args.map foldE).any notConst = true := by have h := unhide HKN; revert h; cases (e.args.map foldE).any notConst <;> simp
          have e19 : (e.op == 19) = false := by rcases ho with h | h | h | h <;> rw [h] <;> rfl
          have e20 : (e.op == 20) = false := by rcases ho with h | h | h | h <;> rw [h] <;> rfl
          have e21 : (e.op == 21) = false := by rcases ho with h | h | h | h <;> rw [h] <;> rfl
          clear ho
          have HE := hide (unhide HOUT (fold_else (unhide HG) hne hk e19 e20 e21))
          rw [hl] at HE
          clear hA HCON HKN HOUT HCH HKall HKx hk
          go_wp2
          exact bodyPost_ret (v := .agg #[.int .i64 (needE e).op, .int .i64 (needE e).n, .int .i64 (needE e).v.k, .int .i64 (needE e).v.n, .string (needE e).v.s, .slice a2 1 c2]) (by simp [results, Tryz.results84, go_sem, *]) rfl (unhide HE wr (Below.refl _ _) _ _ _ _ _ _)
      · have hl : e.args.length = 2 := by rw [hA]; rfl
        have h0 : e.args.length ≠ 0 ∨ 2 = 0 := by rw [hl]; decide
        rw [hl] at h9 HFr ⊢
        obtain ⟨⟨s0, s1, s2, s3, s4, s5⟩, ⟨⟨z0, z1, z2, z3, z4, z5⟩, f0, f1, f2, f3, f4, f5⟩, o0, o1, o2, o3, o4, o5, of⟩ := unhide HFr wr (Below.refl _ _)
        rw [hl] at s5
        have hne : e.args ≠ [] := by rw [hA]; simp
        cases kb with
        | true =>
          clear ho1 ho2
          have hk : (e.args.map foldE).any notConst = false := by have h := unhide HKN; revert h; cases (e.args.map foldE).any notConst <;> simp
          have HE := hide (unhide HCON _ (fold_known (unhide HG) hne hk))
          have HEV : Hid (∀ W, Below wr.heap.size wr W → Calls Tryz.prog 73 #[.agg #[.int .i64 (needE e).op, .int .i64 (needE e).n, .int .i64 (needE e).v.k, .int .i64 (needE e).v.n, .string (needE e).v.s, .slice a2 2 c2], .slice none 0 0] W fun r w' => r = .returned (evalE [] (nodeG simpE e)).v ∧ Below W.heap.size W w') := fun W hW => by
            have h := reval_any [] (by simp) (by simp) none 0 (nodeG simpE e) (node_fin e (unhide HFI) fun y hy => fold_fin y (goodL_mem (good_open (unhide HG)).2 hy) (Ex.fins_mem (Ex.fin_open (unhide HFI)).2 hy)) (fold_node e (unhide HG)) a2 c2 W (by rw [nd_args]; exact (unhide HKx W hW).now) (.inl rfl)
            rw [nd_val, hl] at h
            exact h
          have HCN := hide (fun W => rcon_any (evalE [] (nodeG simpE e)) W)
          generalize evalE [] (nodeG simpE e) = V at *
          rw [Val.open_] at HEV HCN
          clear hA HCON HKN HOUT HCH HKall HKx hk
          go_wp2_with (first
            | (go_at_call 128; refine (unhide HCN _).mono ?_; rintro r w2 ⟨rfl, hb2⟩; rw [Ex.val_open]; have hB2 := below_step hb1 hb2; obtain ⟨⟨s0, s1, s2, s3, s4, s5⟩, ⟨⟨z0, z1, z2, z3, z4, z5⟩, f0, f1, f2, f3, f4, f5⟩, o0, o1, o2, o3, o4, o5, of⟩ := unhide HFr w2 (hB2))
            | (go_at_call 73; refine (unhide HEV wr (Below.refl _ _)).mono ?_; rintro r w1 ⟨rfl, hb1⟩))
          exact bodyPost_ret (v := (conE V).val none 0) (by rw [Ex.val_open]; simp [results, Tryz.results84, go_sem, *]) rfl (unhide HE w2 hB2 _ _ _ _ _ _)
        | false =>
          have hk : (e.args.map foldE).any notConst = true := by have h := unhide HKN; revert h; cases (e.args.map foldE).any notConst <;> simp
          have e21 : (e.op == 21) = false := by have h : e.op ≠ 21 := by omega
                                                simpa using h
          by_cases h19 : e.op = 19
          · have e19 : (e.op == 19) = true := by rw [h19]; rfl
            have e20 : (e.op == 20) = false := by rw [h19]; rfl
            clear ho1 ho2 hne
            have hF := fold_and (unhide HG) hA h19 hk
            have HI0 : Hid (∀ W, Below wr.heap.size wr W → Calls Tryz.prog 127 #[.int .i64 0, .int .i64 0, .pointer (some ⟨w.heap.size + 2, 0, none⟩)] W fun r w' => r = .returned (.bool (isR (foldE x) true)) ∧ Below W.heap.size W w') := fun W hW => ris_any [foldE x, foldE y] 0 (foldE x) rfl 0 (w.heap.size + 2) a2 c2 W (by simp) (unhide HFr W hW).o5 (by have h := (unhide HKx W hW).now; rw [hA] at h; exact h)
            have HI1 : Hid (∀ W, Below wr.heap.size wr W → Calls Tryz.prog 127 #[.int .i64 1, .int .i64 0, .pointer (some ⟨w.heap.size + 2, 0, none⟩)] W fun r w' => r = .returned (.bool (isR (foldE y) true)) ∧ Below W.heap.size W w') := fun W hW => ris_any [foldE x, foldE y] 1 (foldE y) rfl 0 (w.heap.size + 2) a2 c2 W (by simp) (unhide HFr W hW).o5 (by have h := (unhide HKx W hW).now; rw [hA] at h; exact h)
            have HN : Hid (∀ W : World, Calls Tryz.prog 105 #[.int .i64 0] W fun r w' => r = .returned (Val.num 0).v ∧ Below W.heap.size W w') := fun W => rnum_any 0 W
            have HCN := hide (fun W => rcon_any (.num 0) W)
            rw [Val.open_] at HN HCN
            generalize isR (foldE x) true = r0 at *
            generalize isR (foldE y) true = r1 at *
            clear hA HKN HKall HKx hk HCH
            cases r0 with
            | true =>
              have HE := hide (unhide HCON _ (by rw [hF]; rfl))
              clear hF HCON HOUT HI1
              go_wp2_with (first
                | (go_at_call 128; refine (unhide HCN _).mono ?_; rintro r w3 ⟨rfl, hb3⟩; rw [Ex.val_open]; have hB3 := below_step hB2 hb3; obtain ⟨⟨s0, s1, s2, s3, s4, s5⟩, ⟨⟨z0, z1, z2, z3, z4, z5⟩, f0, f1, f2, f3, f4, f5⟩, o0, o1, o2, o3, o4, o5, of⟩ := unhide HFr w3 (hB3))
                | (go_at_call 105; refine (unhide HN _).mono ?_; rintro r w2 ⟨rfl, hb2⟩; have hB2 := below_step hb1 hb2)
                | (go_at_call 127; refine (unhide HI0 wr (Below.refl _ _)).mono ?_; rintro r w1 ⟨rfl, hb1⟩))
              exact bodyPost_ret (v := (conE (.num 0)).val none 0) (by rw [Ex.val_open]; simp [results, Tryz.results84, go_sem, *]) rfl (unhide HE w3 hB3 _ _ _ _ _ _)
            | false =>
              cases r1 with
              | true =>
                have HE := hide (unhide HCON _ (by rw [hF]; rfl))
                clear hF HCON HOUT
                go_wp2_with (first
                  | (go_at_call 128; refine (unhide HCN _).mono ?_; rintro r w3 ⟨rfl, hb3⟩; rw [Ex.val_open]; have hB3 := below_step hB2 hb3; obtain ⟨⟨s0, s1, s2, s3, s4, s5⟩, ⟨⟨z0, z1, z2, z3, z4, z5⟩, f0, f1, f2, f3, f4, f5⟩, o0, o1, o2, o3, o4, o5, of⟩ := unhide HFr w3 (hB3))
                  | (go_at_call 105; refine (unhide HN _).mono ?_; rintro r w2 ⟨rfl, hb2⟩; have hB2 := below_step hBy hb2)
                  | (go_at_call 127; refine (unhide HI1 w1 hb1).mono ?_; rintro r wy ⟨rfl, hby⟩; have hBy := below_step hb1 hby)
                  | (go_at_call 127; refine (unhide HI0 wr (Below.refl _ _)).mono ?_; rintro r w1 ⟨rfl, hb1⟩))
                exact bodyPost_ret (v := (conE (.num 0)).val none 0) (by rw [Ex.val_open]; simp [results, Tryz.results84, go_sem, *]) rfl (unhide HE w3 hB3 _ _ _ _ _ _)
              | false =>
                have HE := hide (unhide HOUT (by rw [hF]; rfl))
                rw [hl] at HE
                clear hF HCON HOUT HN HCN
                go_wp2_with (first
                  | (go_at_call 127; refine (unhide HI1 w1 hb1).mono ?_; rintro r wy ⟨rfl, hby⟩; have hBy := below_step hb1 hby; obtain ⟨⟨s0, s1, s2, s3, s4, s5⟩, ⟨⟨z0, z1, z2, z3, z4, z5⟩, f0, f1, f2, f3, f4, f5⟩, o0, o1, o2, o3, o4, o5, of⟩ := unhide HFr wy (hBy))
                  | (go_at_call 127; refine (unhide HI0 wr (Below.refl _ _)).mono ?_; rintro r w1 ⟨rfl, hb1⟩))
                exact bodyPost_ret (v := .agg #[.int .i64 (needE e).op, .int .i64 (needE e).n, .int .i64 (needE e).v.k, .int .i64 (needE e).v.n, .string (needE e).v.s, .slice a2 2 c2]) (by simp [results, Tryz.results84, go_sem, *]) rfl (unhide HE wy hBy _ _ _ _ _ _)
          · have e19 : (e.op == 19) = false := by simpa using h19
            by_cases h20 : e.op = 20
            · have e20 : (e.op == 20) = true := by rw [h20]; rfl
              clear ho1 ho2 hne h19
              have hF := fold_or (unhide HG) hA h20 hk
              have HI0 : Hid (∀ W, Below wr.heap.size wr W → Calls Tryz.prog 127 #[.int .i64 0, .int .i64 1, .pointer (some ⟨w.heap.size + 2, 0, none⟩)] W fun r w' => r = .returned (.bool (isR (foldE x) false)) ∧ Below W.heap.size W w') := fun W hW => ris_any [foldE x, foldE y] 0 (foldE x) rfl 1 (w.heap.size + 2) a2 c2 W (by simp) (unhide HFr W hW).o5 (by have h := (unhide HKx W hW).now; rw [hA] at h; exact h)
              have HI1 : Hid (∀ W, Below wr.heap.size wr W → Calls Tryz.prog 127 #[.int .i64 1, .int .i64 1, .pointer (some ⟨w.heap.size + 2, 0, none⟩)] W fun r w' => r = .returned (.bool (isR (foldE y) false)) ∧ Below W.heap.size W w') := fun W hW => ris_any [foldE x, foldE y] 1 (foldE y) rfl 1 (w.heap.size + 2) a2 c2 W (by simp) (unhide HFr W hW).o5 (by have h := (unhide HKx W hW).now; rw [hA] at h; exact h)
              have HN : Hid (∀ W : World, Calls Tryz.prog 105 #[.int .i64 1] W fun r w' => r = .returned (Val.num 1).v ∧ Below W.heap.size W w') := fun W => rnum_any 1 W
              have HCN := hide (fun W => rcon_any (.num 1) W)
              rw [Val.open_] at HN HCN
              generalize isR (foldE x) false = r0 at *
              generalize isR (foldE y) false = r1 at *
              clear hA HKN HKall HKx hk HCH
              cases r0 with
              | true =>
                have HE := hide (unhide HCON _ (by rw [hF]; rfl))
                clear hF HCON HOUT HI1
                go_wp2_with (first
                  | (go_at_call 128; refine (unhide HCN _).mono ?_; rintro r w3 ⟨rfl, hb3⟩; rw [Ex.val_open]; have hB3 := below_step hB2 hb3; obtain ⟨⟨s0, s1, s2, s3, s4, s5⟩, ⟨⟨z0, z1, z2, z3, z4, z5⟩, f0, f1, f2, f3, f4, f5⟩, o0, o1, o2, o3, o4, o5, of⟩ := unhide HFr w3 (hB3))
                  | (go_at_call 105; refine (unhide HN _).mono ?_; rintro r w2 ⟨rfl, hb2⟩; have hB2 := below_step hb1 hb2)
                  | (go_at_call 127; refine (unhide HI0 wr (Below.refl _ _)).mono ?_; rintro r w1 ⟨rfl, hb1⟩))
                exact bodyPost_ret (v := (conE (.num 1)).val none 0) (by rw [Ex.val_open]; simp [results, Tryz.results84, go_sem, *]) rfl (unhide HE w3 hB3 _ _ _ _ _ _)
              | false =>
                cases r1 with
                | true =>
                  have HE := hide (unhide HCON _ (by rw [hF]; rfl))
                  clear hF HCON HOUT
                  go_wp2_with (first
                    | (go_at_call 128; refine (unhide HCN _).mono ?_; rintro r w3 ⟨rfl, hb3⟩; rw [Ex.val_open]; have hB3 := below_step hB2 hb3; obtain ⟨⟨s0, s1, s2, s3, s4, s5⟩, ⟨⟨z0, z1, z2, z3, z4, z5⟩, f0, f1, f2, f3, f4, f5⟩, o0, o1, o2, o3, o4, o5, of⟩ := unhide HFr w3 (hB3))
                    | (go_at_call 105; refine (unhide HN _).mono ?_; rintro r w2 ⟨rfl, hb2⟩; have hB2 := below_step hBy hb2)
                    | (go_at_call 127; refine (unhide HI1 w1 hb1).mono ?_; rintro r wy ⟨rfl, hby⟩; have hBy := below_step hb1 hby)
                    | (go_at_call 127; refine (unhide HI0 wr (Below.refl _ _)).mono ?_; rintro r w1 ⟨rfl, hb1⟩))
                  exact bodyPost_ret (v := (conE (.num 1)).val none 0) (by rw [Ex.val_open]; simp [results, Tryz.results84, go_sem, *]) rfl (unhide HE w3 hB3 _ _ _ _ _ _)
                | false =>
                  have HE := hide (unhide HOUT (by rw [hF]; rfl))
                  rw [hl] at HE
                  clear hF HCON HOUT HN HCN
                  go_wp2_with (first
                    | (go_at_call 127; refine (unhide HI1 w1 hb1).mono ?_; rintro r wy ⟨rfl, hby⟩; have hBy := below_step hb1 hby; obtain ⟨⟨s0, s1, s2, s3, s4, s5⟩, ⟨⟨z0, z1, z2, z3, z4, z5⟩, f0, f1, f2, f3, f4, f5⟩, o0, o1, o2, o3, o4, o5, of⟩ := unhide HFr wy (hBy))
                    | (go_at_call 127; refine (unhide HI0 wr (Below.refl _ _)).mono ?_; rintro r w1 ⟨rfl, hb1⟩))
                  exact bodyPost_ret (v := .agg #[.int .i64 (needE e).op, .int .i64 (needE e).n, .int .i64 (needE e).v.k, .int .i64 (needE e).v.n, .string (needE e).v.s, .slice a2 2 c2]) (by simp [results, Tryz.results84, go_sem, *]) rfl (unhide HE wy hBy _ _ _ _ _ _)
            · have e20 : (e.op == 20) = false := by simpa using h20
              clear ho1 ho2
              have HE := hide (unhide HOUT (fold_else (unhide HG) hne hk e19 e20 e21))
              rw [hl] at HE
              clear hA HCON HKN HOUT HCH HKall HKx hk
              go_wp2
              exact bodyPost_ret (v := .agg #[.int .i64 (needE e).op, .int .i64 (needE e).n, .int .i64 (needE e).v.k, .int .i64 (needE e).v.n, .string (needE e).v.s, .slice a2 2 c2]) (by simp [results, Tryz.results84, go_sem, *]) rfl (unhide HE wr (Below.refl _ _) _ _ _ _ _ _)
      · have hl : e.args.length = 3 := by rw [hA]; rfl
        have h0 : e.args.length ≠ 0 ∨ 3 = 0 := by rw [hl]; decide
        rw [hl] at h9 HFr ⊢
        obtain ⟨⟨s0, s1, s2, s3, s4, s5⟩, ⟨⟨z0, z1, z2, z3, z4, z5⟩, f0, f1, f2, f3, f4, f5⟩, o0, o1, o2, o3, o4, o5, of⟩ := unhide HFr wr (Below.refl _ _)
        rw [hl] at s5
        have hne : e.args ≠ [] := by rw [hA]; simp
        cases kb with
        | true =>
          have hk : (e.args.map foldE).any notConst = false := by have h := unhide HKN; revert h; cases (e.args.map foldE).any notConst <;> simp
          have HE := hide (unhide HCON _ (fold_known (unhide HG) hne hk))
          have HEV : Hid (∀ W, Below wr.heap.size wr W → Calls Tryz.prog 73 #[.agg #[.int .i64 (needE e).op, .int .i64 (needE e).n, .int .i64 (needE e).v.k, .int .i64 (needE e).v.n, .string (needE e).v.s, .slice a2 3 c2], .slice none 0 0] W fun r w' => r = .returned (evalE [] (nodeG simpE e)).v ∧ Below W.heap.size W w') := fun W hW => by
            have h := reval_any [] (by simp) (by simp) none 0 (nodeG simpE e) (node_fin e (unhide HFI) fun y hy => fold_fin y (goodL_mem (good_open (unhide HG)).2 hy) (Ex.fins_mem (Ex.fin_open (unhide HFI)).2 hy)) (fold_node e (unhide HG)) a2 c2 W (by rw [nd_args]; exact (unhide HKx W hW).now) (.inl rfl)
            rw [nd_val, hl] at h
            exact h
          have HCN := hide (fun W => rcon_any (evalE [] (nodeG simpE e)) W)
          generalize evalE [] (nodeG simpE e) = V at *
          rw [Val.open_] at HEV HCN
          clear hA HCON HKN HOUT HCH HKall HKx hk
          go_wp2_with (first
            | (go_at_call 128; refine (unhide HCN _).mono ?_; rintro r w2 ⟨rfl, hb2⟩; rw [Ex.val_open]; have hB2 := below_step hb1 hb2; obtain ⟨⟨s0, s1, s2, s3, s4, s5⟩, ⟨⟨z0, z1, z2, z3, z4, z5⟩, f0, f1, f2, f3, f4, f5⟩, o0, o1, o2, o3, o4, o5, of⟩ := unhide HFr w2 (hB2))
            | (go_at_call 73; refine (unhide HEV wr (Below.refl _ _)).mono ?_; rintro r w1 ⟨rfl, hb1⟩))
          exact bodyPost_ret (v := (conE V).val none 0) (by rw [Ex.val_open]; simp [results, Tryz.results84, go_sem, *]) rfl (unhide HE w2 hB2 _ _ _ _ _ _)
        | false =>
          have hk : (e.args.map foldE).any notConst = true := by have h := unhide HKN; revert h; cases (e.args.map foldE).any notConst <;> simp
          have e19 : (e.op == 19) = false := by rw [ho]; rfl
          have e20 : (e.op == 20) = false := by rw [ho]; rfl
          have e21 : (e.op == 21) = true := by rw [ho]; rfl
          have hF := fold_if (unhide HG) hA ho hk
          obtain ⟨vb, vo, ea, _⟩ := Ex.all_get (i := 0) (e := foldE x) (unhide HKall).now (by rw [hA]; rfl)
          subst ea
          have HKl : Hid (∀ W, Below wr.heap.size wr W → ExK (w.heap.size + 3) W (some ⟨vb, vo, none⟩) [foldE x, foldE y, foldE z]) := fun W hW => by have h := unhide HKx W hW; rw [hA] at h; exact h
          obtain ⟨aX, cX, hcX, _⟩ := child_at (unhide HKl wr (Below.refl _ _)) (i := 0) (x := foldE x) rfl
          obtain ⟨x0, x1, x2, x3, x4, x5⟩ := hcX
          dsimp only at x0 x1 x2 x3 x4 x5
          rw [Nat.zero_mul, Nat.add_zero] at x0 x1 x2 x3 x4 x5
          have HT : Hid (∀ W : World, Calls Tryz.prog 111 #[(foldE x).v.v] W fun r w' => r = .returned (.bool (trueB (foldE x).v)) ∧ Below W.heap.size W w') := fun W => rtrue_any (foldE x).v W
          rw [Val.open_] at HT
          generalize foldE x = X at *
          generalize foldE y = Y at *
          generalize foldE z = Z at *
          clear hA HKN HKall HKx hk HCON
          rcases Bool.eq_false_or_eq_true (X.op == 2) with h2 | h2
          · generalize trueB X.v = tb at *
            cases tb with
            | true =>
              have HE := hide (unhide HCH Y (by rw [hF, h2]; rfl))
              clear hF HOUT HCH
              go_wp2_with (go_at_call 111; refine (unhide HT _).mono ?_; rintro r w1 ⟨rfl, hb1⟩; obtain ⟨⟨s0, s1, s2, s3, s4, s5⟩, ⟨⟨z0, z1, z2, z3, z4, z5⟩, f0, f1, f2, f3, f4, f5⟩, o0, o1, o2, o3, o4, o5, of⟩ := unhide HFr w1 (hb1); obtain ⟨aY, cY, hcY, hKY⟩ := child_at (unhide HKl w1 hb1) (i := 1) (x := Y) rfl; obtain ⟨y0, y1, y2, y3, y4, y5⟩ := hcY; dsimp only at y0 y1 y2 y3 y4 y5; rw [Nat.one_mul] at y0 y1 y2 y3 y4 y5)
              exact bodyPost_ret (v := Y.val aY cY) (by rw [Ex.val_open]; simp [results, Tryz.results84, go_sem, *]) rfl (unhide HE w1 hb1 aY cY hKY _ _ _ _ _ _)
            | false =>
              have HE := hide (unhide HCH Z (by rw [hF, h2]; rfl))
              clear hF HOUT HCH
              go_wp2_with (go_at_call 111; refine (unhide HT _).mono ?_; rintro r w1 ⟨rfl, hb1⟩; obtain ⟨⟨s0, s1, s2, s3, s4, s5⟩, ⟨⟨z0, z1, z2, z3, z4, z5⟩, f0, f1, f2, f3, f4, f5⟩, o0, o1, o2, o3, o4, o5, of⟩ := unhide HFr w1 (hb1); obtain ⟨aY, cY, hcY, hKY⟩ := child_at (unhide HKl w1 hb1) (i := 2) (x := Z) rfl; obtain ⟨y0, y1, y2, y3, y4, y5⟩ := hcY; dsimp only at y0 y1 y2 y3 y4 y5; rw [show 2 * 6 = 12 from rfl] at y0 y1 y2 y3 y4 y5)
              exact bodyPost_ret (v := Z.val aY cY) (by rw [Ex.val_open]; simp [results, Tryz.results84, go_sem, *]) rfl (unhide HE w1 hb1 aY cY hKY _ _ _ _ _ _)
          · have HE := hide (unhide HOUT (by rw [hF, h2]; rfl))
            rw [hl] at HE
            clear hF HOUT HCH HT
            go_wp2
            exact bodyPost_ret (v := .agg #[.int .i64 (needE e).op, .int .i64 (needE e).n, .int .i64 (needE e).v.k, .int .i64 (needE e).v.n, .string (needE e).v.s, .slice (some ⟨vb, vo, none⟩) 3 c2]) (by simp [results, Tryz.results84, go_sem, *]) rfl (unhide HE wr (Below.refl _ _) _ _ _ _ _ _)
end Go.Proofs.YtmjeiepljlepbacGreat

import Derived.Test.YtmjeiepljlepbacGreatRmC
set_option linter.unusedSimpArgs false
set_option linter.unusedVariables false
set_option maxRecDepth 100000
namespace Go.Proofs.YtmjeiepljlepbacGreat
open Go.RowKit Go.Sort

theorem enter_with {P : Program} {code : Code} {Q : Exit → Act → World → Prop} {act : Act} {wa : World} (R : World → Prop) (h : R wa) (k : ∀ wx, Hid (R wx) → code.wp P Q act wx) : code.wp P Q act wa := k wa h
theorem need_n (e : Ex) : (needE e).n = if e.op == 1 then e.n else 0 := rfl
theorem need_v (e : Ex) : (needE e).v = if e.op == 2 then cleanV e.v else .null := rfl
theorem fr_none {b : Nat} {e : Ex} {a : Option Addr} {c : Nat} {wa : World} (h6 : Six wa b e a c) (hz : Box6 wa (b + 1) zeroE none 0) (ho : Box6 wa (b + 2) (.mk e.op 0 .null []) none 0) (h2 : (e.op == 2) = false) (h1 : (e.op == 1) = false) : Fr b e a c (.slice none 0 0) wa := by
  obtain ⟨⟨t0, t1, t2, t3, t4, t5⟩, u0, u1, u2, u3, u4, u5⟩ := ho
  refine ⟨h6, hz, t0, ?_, ?_, ?_, ?_, t5, u5⟩
  · rw [need_n, h1]; exact t1
  · rw [need_v, h2]; exact t2
  · rw [need_v, h2]; exact t3
  · rw [need_v, h2]; exact t4
theorem six_put {b : Nat} {e : Ex} {a : Option Addr} {c : Nat} {w : World} (h : Six w b e a c) (g o : Nat) (u : Value) (hg : b ≠ g) : Six (w.setCell ⟨g, o, none⟩ u) b e a c := by
  obtain ⟨s0, s1, s2, s3, s4, s5⟩ := h
  have hne : ∀ o', (⟨b, o', none⟩ : Addr) ≠ ⟨g, o, none⟩ := fun o' h => by injection h with h; exact hg h
  exact ⟨by rw [cell_set_ne _ _ _ _ _ _ (hne _)]; exact s0, by rw [cell_set_ne _ _ _ _ _ _ (hne _)]; exact s1, by rw [cell_set_ne _ _ _ _ _ _ (hne _)]; exact s2, by rw [cell_set_ne _ _ _ _ _ _ (hne _)]; exact s3, by rw [cell_set_ne _ _ _ _ _ _ (hne _)]; exact s4, by rw [cell_set_ne _ _ _ _ _ _ (hne _)]; exact s5⟩
theorem box_put {b : Nat} {e : Ex} {a : Option Addr} {c : Nat} {w : World} (h : Box6 w b e a c) (g o : Nat) (u : Value) (hg : b ≠ g) : Box6 (w.setCell ⟨g, o, none⟩ u) b e a c := by
  obtain ⟨h1, h2⟩ := h
  refine ⟨six_put h1 g o u hg, ?_⟩
  simp only [frozen_set]
  exact h2
theorem cell_set_at {w : World} {b o : Nat} {u v : Value} (h : w.cell? ⟨b, o, none⟩ = some v) : (w.setCell ⟨b, o, none⟩ u).cell? ⟨b, o, none⟩ = some u := by
  simp [go_sem, h]
theorem fr_col {b : Nat} {e : Ex} {a : Option Addr} {c : Nat} {wa : World} (h6 : Six wa b e a c) (hz : Box6 wa (b + 1) zeroE none 0) (ho : Box6 wa (b + 2) (.mk e.op 0 .null []) none 0) (h1 : (e.op == 1) = true) : Fr b e a c (.slice none 0 0) (wa.setCell ⟨b + 1 + 1, 1, none⟩ (.int .i64 e.n)) := by
  have h2 : (e.op == 2) = false := by rw [beq_iff_eq] at h1; rw [h1]; rfl
  obtain ⟨⟨t0, t1, t2, t3, t4, t5⟩, u0, u1, u2, u3, u4, u5⟩ := ho
  refine ⟨six_put h6 _ _ _ (by omega), box_put hz _ _ _ (by omega), ?_, ?_, ?_, ?_, ?_, ?_, ?_⟩
  · rw [cell_set_ne _ _ _ _ _ _ (by simp)]; exact t0
  · rw [need_n, h1]; exact cell_set_at t1
  · rw [cell_set_ne _ _ _ _ _ _ (by simp), need_v, h2]; exact t2
  · rw [cell_set_ne _ _ _ _ _ _ (by simp), need_v, h2]; exact t3
  · rw [cell_set_ne _ _ _ _ _ _ (by simp), need_v, h2]; exact t4
  · rw [cell_set_ne _ _ _ _ _ _ (by simp)]; exact t5
  · rw [frozen_set]; exact u5
theorem fr_const {b : Nat} {e : Ex} {a : Option Addr} {c : Nat} {wa : World} (h6 : Six wa b e a c) (hz : Box6 wa (b + 1) zeroE none 0) (ho : Box6 wa (b + 2) (.mk e.op 0 .null []) none 0) (h2 : (e.op == 2) = true) : Fr b e a c (.slice none 0 0) (((wa.setCell ⟨b + 1 + 1, 2, none⟩ (.int .i64 (cleanV e.v).k)).setCell ⟨b + 1 + 1, 3, none⟩ (.int .i64 (cleanV e.v).n)).setCell ⟨b + 1 + 1, 4, none⟩ (.string (cleanV e.v).s)) := by
  have h1 : (e.op == 1) = false := by rw [beq_iff_eq] at h2; rw [h2]; rfl
  obtain ⟨⟨t0, t1, t2, t3, t4, t5⟩, u0, u1, u2, u3, u4, u5⟩ := ho
  refine ⟨six_put (six_put (six_put h6 _ _ _ (by omega)) _ _ _ (by omega)) _ _ _ (by omega), box_put (box_put (box_put hz _ _ _ (by omega)) _ _ _ (by omega)) _ _ _ (by omega), ?_, ?_, ?_, ?_, ?_, ?_, ?_⟩
  · rw [cell_set_ne _ _ _ _ _ _ (by simp), cell_set_ne _ _ _ _ _ _ (by simp), cell_set_ne _ _ _ _ _ _ (by simp)]; exact t0
  · rw [cell_set_ne _ _ _ _ _ _ (by simp), cell_set_ne _ _ _ _ _ _ (by simp), cell_set_ne _ _ _ _ _ _ (by simp), need_n, h1]; exact t1
  · rw [cell_set_ne _ _ _ _ _ _ (by simp), cell_set_ne _ _ _ _ _ _ (by simp), need_v, h2]; exact cell_set_at t2
  · rw [cell_set_ne _ _ _ _ _ _ (by simp), need_v, h2]; exact cell_set_at (by rw [cell_set_ne _ _ _ _ _ _ (by simp)]; exact t3)
  · rw [need_v, h2]; exact cell_set_at (by rw [cell_set_ne _ _ _ _ _ _ (by simp), cell_set_ne _ _ _ _ _ _ (by simp)]; exact t4)
  · rw [cell_set_ne _ _ _ _ _ _ (by simp), cell_set_ne _ _ _ _ _ _ (by simp), cell_set_ne _ _ _ _ _ _ (by simp)]; exact t5
  · rw [frozen_set, frozen_set, frozen_set]; exact u5
/-- While Neat's parts are made. -/
def NLoop (e : Ex) (a : Option Addr) (c : Nat) (w : World) (i : Value) (wr : World) : Prop := ∃ (k : Nat) (v : Value) (L : List Nd), k ≤ e.args.length ∧ i = .int .i64 (k : Int) ∧ Hid (Fr w.heap.size e a c v wr) ∧ Hid (NInv (w.heap.size + 3) v L wr) ∧ Hid (L.map (·.1) = (e.args.take k).map copyE) ∧ Hid (Below w.heap.size w wr) ∧ w.heap.size + 3 ≤ wr.heap.size
/-- What Neat answers. -/
def NPost (e : Ex) (w : World) (r : Ending) (w' : World) : Prop := ∃ a2 c2, r = .returned ((copyE e).val a2 c2) ∧ ExK w.heap.size w' a2 (copyE e).args ∧ Below w.heap.size w w'
set_option maxHeartbeats 1000000 in
set_option maxRecDepth 100000 in
theorem neat_step (e : Ex) (hs : e.short) (a : Option Addr) (c : Nat) (w : World) (ha : Ex.all w a e.args)
    (IH : ∀ (i : Nat) (x : Ex), e.args[i]? = some x → ∀ (a' : Option Addr) (c' : Nat) (W : World), Ex.all W a' x.args → Calls Tryz.prog 79 #[x.val a' c'] W (NPost x W)) :
    Calls Tryz.prog 79 #[e.val a c] w (NPost e w) := by
  have HIH := hide IH
  obtain ⟨hl, _⟩ := Ex.short_open hs
  have HA := hide ha
  have HCL := hide (fun W => rclean_any e.v W)
  rw [Val.open_] at HCL
  have H6 : Hid (Six (w.alloc (.cells #[.int .i64 e.op, .int .i64 e.n, .int .i64 e.v.k, .int .i64 e.v.n, .string e.v.s, .slice a e.args.length c] 59)) w.heap.size e a c) := Six.new w e a c
  have HB0 := hide (below_alloc (Below.refl _ w) (.cells #[.int .i64 e.op, .int .i64 e.n, .int .i64 e.v.k, .int .i64 e.v.n, .string e.v.s, .slice a e.args.length c] 59))
  have hsz : (w.alloc (.cells #[.int .i64 e.op, .int .i64 e.n, .int .i64 e.v.k, .int .i64 e.v.n, .string e.v.s, .slice a e.args.length c] 59)).heap.size = w.heap.size + 1 := by simp [go_sem]
  rw [Ex.val_open]
  clear IH ha hs
  go_enter Tryz.func79, Tryz.ntmps79
  go_upto_region 2 with fail
  obtain ⟨wa, hwa⟩ : ∃ wa, wa = ((w.alloc (.cells #[.int .i64 e.op, .int .i64 e.n, .int .i64 e.v.k, .int .i64 e.v.n, .string e.v.s, .slice a e.args.length c] 59)).alloc (.cells #[.int .i64 0, .int .i64 0, .int .i64 0, .int .i64 0, .string ⟨#[]⟩, .slice none 0 0] 59)).alloc (.cells #[.int .i64 e.op, .int .i64 0, .int .i64 0, .int .i64 0, .string ⟨#[]⟩, .slice none 0 0] 59) := ⟨_, rfl⟩
  have hsa : wa.heap.size = w.heap.size + 3 := by rw [hwa]; simp [go_sem]
  have HBA : Hid (Below w.heap.size w wa) := by rw [hwa]; exact below_alloc (below_alloc (unhide HB0) _) _
  have HSX : Hid (Six wa w.heap.size e a c) := by rw [hwa]; exact ((unhide H6).later (below_alloc (Below.refl _ _) _)).later (below_alloc (Below.refl _ _) _)
  have HZR : Hid (Box6 wa (w.heap.size + 1) zeroE none 0) := by
    have h := Box6.new (w.alloc (.cells #[.int .i64 e.op, .int .i64 e.n, .int .i64 e.v.k, .int .i64 e.v.n, .string e.v.s, .slice a e.args.length c] 59)) zeroE none 0
    rw [hsz] at h
    rw [hwa]
    exact h.later (below_alloc (Below.refl _ _) _)
  have HOU : Hid (Box6 wa (w.heap.size + 2) (.mk e.op 0 .null []) none 0) := by
    have h := Box6.new ((w.alloc (.cells #[.int .i64 e.op, .int .i64 e.n, .int .i64 e.v.k, .int .i64 e.v.n, .string e.v.s, .slice a e.args.length c] 59)).alloc (.cells #[.int .i64 0, .int .i64 0, .int .i64 0, .int .i64 0, .string ⟨#[]⟩, .slice none 0 0] 59)) (.mk e.op 0 .null []) none 0
    rw [show ((w.alloc (.cells #[.int .i64 e.op, .int .i64 e.n, .int .i64 e.v.k, .int .i64 e.v.n, .string e.v.s, .slice a e.args.length c] 59)).alloc (.cells #[.int .i64 0, .int .i64 0, .int .i64 0, .int .i64 0, .string ⟨#[]⟩, .slice none 0 0] 59)).heap.size = w.heap.size + 2 by simp [go_sem]] at h
    rw [hwa]
    exact h
  rw [← hwa]
  clear hwa HB0 H6 hsz
  obtain ⟨s0, s1, s2, s3, s4, s5⟩ := unhide HSX
  obtain ⟨⟨t0, t1, t2, t3, t4, t5⟩, u0, u1, u2, u3, u4, u5⟩ := unhide HOU
  go_upto_region 8 with (go_at_call 97; refine (unhide HCL _).mono ?_; rintro r w3 ⟨rfl, hb3⟩; rw [Val.open_]; obtain ⟨⟨t0, t1, t2, t3, t4, t5⟩, u0, u1, u2, u3, u4, u5⟩ := (unhide HOU).later hb3; obtain ⟨s0, s1, s2, s3, s4, s5⟩ := (unhide HSX).later hb3)
  all_goals refine enter_with (fun wx => Fr w.heap.size e a c (.slice none 0 0) wx ∧ Below w.heap.size w wx ∧ w.heap.size + 3 ≤ wx.heap.size) ?_ ?_
  all_goals first
    | exact ⟨fr_none (unhide HSX) (unhide HZR) (unhide HOU) (by assumption) (by assumption), unhide HBA, by omega⟩
    | exact ⟨fr_col (unhide HSX) (unhide HZR) (unhide HOU) (by assumption), (unhide HBA).setCell (by show w.heap.size ≤ w.heap.size + 1 + 1; omega) _, by simp only [World.setCell]; simp; omega⟩
    | exact ⟨fr_const ((unhide HSX).later hb3) ((unhide HZR).later hb3) ((unhide HOU).later hb3) (by assumption), (((below_step (unhide HBA) hb3).setCell (by show w.heap.size ≤ w.heap.size + 1 + 1; omega) _).setCell (by show w.heap.size ≤ w.heap.size + 1 + 1; omega) _).setCell (by show w.heap.size ≤ w.heap.size + 1 + 1; omega) _, by have := hb3.size; simp only [World.setCell]; simp; omega⟩
    | skip
  all_goals
    intro wx HR
    try rw [show (e.op == 1) = true by assumption]
    try rw [show (e.op == 1) = false by assumption]
    try rw [show (e.op == 2) = true by assumption]
    try rw [show (e.op == 2) = false by assumption]
    clear s0 s1 s2 s3 s4 s5 t0 t1 t2 t3 t4 t5 u0 u1 u2 u3 u4 u5 HSX HZR HOU HBA HCL
    go_loopw [25] (fun i wr => NLoop e a c w i wr) (fun i _ => e.args.length - (intOf i).toNat)
    case atStart => exact ⟨0, _, [], Nat.zero_le _, rfl, (unhide HR).1, NInv.nil _ _, (by show _ = _; simp), (unhide HR).2.1, (unhide HR).2.2⟩
    case round =>
      obtain ⟨k, v, L, hk, rfl, HF, HN, HM, HB, hsr⟩ := hrel
      by_cases hlt : k < e.args.length
      · have h9 : (k : Int) < (e.args.length : Int) := by omega
        obtain ⟨x, hx⟩ : ∃ x, e.args[k]? = some x := ⟨_, List.getElem?_eq_getElem hlt⟩
        obtain ⟨vb, vo, ea, hat⟩ := Ex.all_get (Ex.all_later _ (unhide HA) (unhide HB)) hx
        obtain ⟨a', c', ⟨d0, d1, d2, d3, d4, d5⟩, hal⟩ := Ex.at_open hat
        obtain ⟨W1, hW1⟩ : ∃ W1, W1 = wr.alloc (.cells #[.int .i64 x.op, .int .i64 x.n, .int .i64 x.v.k, .int .i64 x.v.n, .string x.v.s, .slice a' x.args.length c'] 59) := ⟨_, rfl⟩
        have HB1 : Hid (Below wr.heap.size wr W1) := by rw [hW1]; exact below_alloc (Below.refl _ _) _
        have hs1 : W1.heap.size = wr.heap.size + 1 := by rw [hW1]; simp [go_sem]
        have H1 : Hid (Six W1 wr.heap.size x a' c') := by rw [hW1]; exact Six.new wr x a' c'
        have HC := hide (fun (W : World) (hW : Below W1.heap.size W1 W) => unhide HIH k x hx a' c' W (Ex.all_later _ hal (below_step (unhide HB1) hW)))
        rw [Ex.val_open] at HC
        subst ea
        have HX := hide hx
        clear hx hat hal HIH
        go_upto_region 9 with fail
        rw [← hW1]
        have HW1 := hide hW1
        clear hW1 d0 d1 d2 d3 d4 d5
        have H5 := hide ((unhide HF).below ((unhide HB1).mono hsr) (Nat.le_refl _)).o5
        have HS0 := hide ((Below.refl W1.heap.size W1).drew)
        refine wp_region_noPanic ?_
        refine wp_region_G (S := fun w' : World => Below W1.heap.size W1 w') (k := 5) (by kernel_rfl) ?_
        refine anyG_takel (i := 0) (v := (.pointer (some ⟨w.heap.size + 2, 5, none⟩))) [1, 5] rfl (by kernel_rfl) (by kernel_rfl) (by kernel_rfl) (by kernel_rfl) (fun _ _ _ h => h) (Or.inl ⟨by rfl, fun w' hSw => ?_⟩) (unhide HS0) ?_
        · go_simp
        try simp only [Act.put, List.setIfInBounds_toArray, List.set_cons_zero, List.set_cons_succ]
        refine anyG_takel (i := 1) (v := v) [5] rfl (by kernel_rfl) (by kernel_rfl) (by kernel_rfl) (by kernel_rfl) (fun _ _ _ h => h) (Or.inl ⟨by rfl, fun w' hSw => ?_⟩) (unhide HS0) ?_
        · have e5 := clater (unhide H5) hSw
          go_simp
        try simp only [Act.put, List.setIfInBounds_toArray, List.set_cons_zero, List.set_cons_succ]
        refine anyG_takel (i := 2) (v := .agg #[.int .i64 x.op, .int .i64 x.n, .int .i64 x.v.k, .int .i64 x.v.n, .string x.v.s, .slice a' x.args.length c']) [3, 4, 5] rfl (by kernel_rfl) (by kernel_rfl) (by kernel_rfl) (by kernel_rfl) (fun _ _ _ h => h) (Or.inl ⟨by rfl, fun w' hSw => ?_⟩) (unhide HS0) ?_
        · obtain ⟨e0, e1, e2, e3, e4, e5⟩ := (unhide H1).later hSw
          go_simp
        try simp only [Act.put, List.setIfInBounds_toArray, List.set_cons_zero, List.set_cons_succ]
        refine anyG_one (i := 3) (by kernel_rfl) ?_
        refine wpOp_lit rfl (by rfl) fun K' hK' => ?_
        go_simp
        refine (unhide HC _ (unhide HS0)).mono ?_
        rintro r w3 ⟨a2, c2, rfl, hK3, hb3⟩
        go_simp
        have hS3 : Below W1.heap.size W1 w3 := below_step (unhide HS0) hb3
        refine unhide hK' _ _ ⟨fun _ => hS3, ?_⟩
        clear hK' K'
        rw [Ex.val_open]
        refine anyG_one (i := 4) (by kernel_rfl) ?_
        refine wpOp_lit rfl (by rfl) fun K' hK' => ?_
        go_simp
        refine unhide hK' _ _ ⟨fun _ => below_alloc hS3 _, ?_⟩
        clear hK' K'
        have HB3 := hide (below_alloc (below_step (unhide HB1) hS3) (.cells #[.int .i64 (copyE x).op, .int .i64 (copyE x).n, .int .i64 (copyE x).v.k, .int .i64 (copyE x).v.n, .string (copyE x).v.s, .slice a2 (copyE x).args.length c2] 59))
        have hLk : L.length = k := by have h := congrArg List.length (unhide HM); rw [List.length_map, List.length_map, List.length_take] at h; omega
        refine anyG_one (i := 5) (by kernel_rfl) ?_
        refine wpOp_lit rfl (by rfl) fun K' hK' => ?_
        refine op_append_nodesR (.tmp 30) (.tmp 33) rfl (w.heap.size + 3) w3.heap.size v L [(copyE x, a2, c2)] rfl ((unhide HN).1.later (unhide HB3)) w3.heap.size 1 rfl (own_oneR w3 w3.heap.size (Nat.le_refl _) (copyE x, a2, c2)) (by rw [hLk]; show k + 1 ≤ _; omega) (by have := (unhide HB3).size; omega) ?_
        intro v4 w4 hO4 hg4 hv4
        obtain ⟨a4, n4, cap4, rfl⟩ : ∃ a n c, v4 = .slice a n c := by obtain ⟨a4, c4, h⟩ := hO4.slice; exact ⟨_, _, _, h⟩
        refine unhide hK' _ _ ⟨fun hh => absurd hh (by decide), ?_⟩
        clear hK' K'
        try simp only [Act.put, List.setIfInBounds_toArray, List.set_cons_zero, List.set_cons_succ]
        have HB4 : Hid (Below (w.heap.size + 3) wr w4) := ((unhide HB3).mono hsr).trans (grown_below hg4 (by have := (unhide HB3).size; omega) (fun g hg => (own_in (unhide HN).1 g hg).1))
        have HF4 := hide ((unhide HF).below (unhide HB4) (Nat.le_refl _))
        have o5 := (unhide HF4).o5
        have of := (unhide HF4).of
        have HN4 := hide (fun (w5 : World) (e5 : w5 = w4.setCell ⟨w.heap.size + 2, 5, none⟩ (.slice a4 n4 cap4)) => (unhide HN).step (q := (copyE x, a2, c2)) (unhide HB1) hS3 hK3 _ hO4 hg4 hv4 (by omega : w.heap.size + 2 < w.heap.size + 3) hsr e5)
        clear hO4 hg4 hv4 hK3 hS3 hb3
        refine anyG_one (i := 6) (by kernel_rfl) ?_
        refine wpOp_lit rfl (by rfl) fun K' hK' => ?_
        go_simp
        refine unhide hK' _ _ ⟨fun hh => absurd hh (by decide), ?_⟩
        clear hK' K'
        refine anyG_one (i := 7) (by kernel_rfl) ?_
        refine wpOp_lit rfl (by rfl) fun K' hK' => ?_
        go_simp
        refine unhide hK' _ _ ⟨fun hh => absurd hh (by decide), ?_⟩
        clear hK' K'
        refine anyG_done (by kernel_rfl) ?_ _
        refine NoPanic.normal ?_
        go_wp2
        refine ⟨⟨k + 1, .slice a4 n4 cap4, L ++ [(copyE x, a2, c2)], by omega, by go_num, (unhide HF4).put _, unhide HN4 _ rfl, ?_, ?_, ?_⟩, by simp [intOf]; omega⟩
        · show _ = _
          rw [List.map_append, unhide HM, List.take_add_one, unhide HX, List.map_append]
          rfl
        · exact (((unhide HB).trans ((unhide HB4).mono (by omega))).setCell (by show w.heap.size ≤ w.heap.size + 2; omega) _)
        · have := (unhide HB4).size
          simp only [World.setCell]
          simp
          omega
      · have h9 : ¬ (k : Int) < (e.args.length : Int) := by omega
        obtain rfl : k = e.args.length := by omega
        have hm := unhide HM
        rw [List.take_length] at hm
        obtain ⟨a2, c2, rfl, hK⟩ := (unhide HN).all (lo' := w.heap.size + 3) (Nat.le_refl _)
        rw [hm] at hK
        have HK := hide hK
        have HVL : Hid ((copyE e).val a2 c2 = .agg #[.int .i64 (needE e).op, .int .i64 (needE e).n, .int .i64 (needE e).v.k, .int .i64 (needE e).v.n, .string (needE e).v.s, .slice a2 L.length c2]) := by
          have h1 := congrArg List.length hm
          rw [List.length_map] at h1
          show _ = _
          rw [Ex.val_open, copy_args, copyE_eq, ← h1]
          rfl
        obtain ⟨_, ⟨⟨z0, z1, z2, z3, z4, z5⟩, f0, f1, f2, f3, f4, f5⟩, o0, o1, o2, o3, o4, o5, of⟩ := unhide HF
        clear hK hm HM HIH HA HN
        go_wp2
        refine bodyPost_ret (v := (copyE e).val a2 c2) (by rw [unhide HVL]; simp [results, Tryz.results79, go_sem, *]) rfl ⟨a2, c2, rfl, ?_, ?_⟩
        · rw [copy_args]
          exact (((unhide HK).on ((((((Kept.of_low _ _ _ _ (by omega)).trans (Kept.of_low _ _ _ _ (by omega))).trans (Kept.of_low _ _ _ _ (by omega))).trans (Kept.of_low _ _ _ _ (by omega))).trans (Kept.of_low _ _ _ _ (by omega))).trans (Kept.of_low _ _ _ _ (by omega)))).more (by omega))
        · exact put6 (unhide HB) (by omega) _ _ _ _ _ _
/-- Neat (32): a copy with no more than is needed. -/
theorem neat_all : ∀ (k : Nat) (e : Ex), e.size ≤ k → e.short → ∀ (a : Option Addr) (c : Nat) (w : World), Ex.all w a e.args → Calls Tryz.prog 79 #[e.val a c] w (NPost e w)
  | 0, e, hs, _, _, _, _, _ => by rw [Ex.size_mk] at hs; omega
  | k + 1, e, hs, hf, a, c, w, ha => neat_step e hf a c w ha fun i x hx a' c' W hW => neat_all k x (by have := Ex.size_arg hx; omega) (Ex.short_arg hf hx) a' c' W hW
theorem neat_any (e : Ex) (hs : e.short) (a : Option Addr) (c : Nat) (w : World) (ha : Ex.all w a e.args) : Calls Tryz.prog 79 #[e.val a c] w (NPost e w) := neat_all e.size e (Nat.le_refl _) hs a c w ha
end Go.Proofs.YtmjeiepljlepbacGreat

import Derived.Test.YtmjeiepljlepbacGreatLongQ
set_option linter.unusedSimpArgs false
set_option linter.unusedVariables false
set_option maxRecDepth 100000
namespace Go.Proofs.YtmjeiepljlepbacGreat
open Go.RowKit Go.Sort

set_option maxHeartbeats 16000000 in
set_option maxRecDepth 100000 in
theorem rreckon_any (op : Int) (a b : Val) (ha : In64 a.n) (hb : In64 b.n) (w : World) :
    Calls Tryz.prog 104 #[.int .i64 op, a.v, b.v] w fun e w' => e = .returned (reckV op a b).v ∧ Below w.heap.size w w' := by
  rw [a.open_, b.open_, reck_clean]
  have HA := hide (rclean_any a)
  have HB := hide (rclean_any b)
  have IA := hide (clean_inL ha)
  have IB := hide (clean_inL hb)
  clear ha hb
  generalize cleanV a = ca at *
  generalize cleanV b = cb at *
  generalize hr : (if (ca.k == 1 && cb.k == 1) = true then optV (reck op ca.n cb.n) else Val.null) = r at *
  have HR := hide hr
  clear hr
  go_enter Tryz.func104, Tryz.ntmps104
  go_upto_region 1 with fail
  go_cut [] (fun wx => BoxAt wx w.heap.size ca ∧ BoxAt wx (w.heap.size + 1) cb ∧ ZeroAt wx (w.heap.size + 1 + 1) ∧ Below w.heap.size w wx)
  case first =>
    go_region_with (first
      | (go_at_call_of 97 (Value.agg #[Value.int IntKind.i64 a.k, Value.int IntKind.i64 a.n, Value.string a.s]); refine (unhide HA _).mono ?_; rintro e w1 ⟨rfl, hb1⟩; rw [Val.open_]; have B1 := below_step (boxes3_drew w a b) hb1; obtain ⟨⟨a0, a1, a2⟩, ⟨b0, b1, b2⟩, ⟨f0, f1, f2⟩, ⟨g0, g1, g2⟩, ⟨z0, z1, z2, z3, z4, z5⟩, hz⟩ := boxes3_facts B1)
      | (go_at_call_of 97 (Value.agg #[Value.int IntKind.i64 b.k, Value.int IntKind.i64 b.n, Value.string b.s]); refine (unhide HB _).mono ?_; rintro e w2 ⟨rfl, hb2⟩; rw [Val.open_]; have B2 := below_step B1 hb2; obtain ⟨⟨a0, a1, a2⟩, ⟨b0, b1, b2⟩, ⟨f0, f1, f2⟩, ⟨g0, g1, g2⟩, ⟨z0, z1, z2, z3, z4, z5⟩, hz⟩ := boxes3_facts B2))
    all_goals
      go_wp2_with fail
      go_meet
      exact put_two3 ca cb B2
  case rest =>
    obtain ⟨hBA, hBB, hZ, hbel⟩ := hcut
    have hz := hZ
    obtain ⟨z0, z1, z2, z3, z4, z5⟩ := hz
    have ha := hBA
    have hb := hBB
    obtain ⟨a0, a1, a2⟩ := ha
    obtain ⟨b0, b1, b2⟩ := hb
    clear HA HB
    rename World => wa
    have hsz : w.heap.size ≤ wa.heap.size := hbel.size
    by_cases ka : (ca.k == 1) = true
    · have ka2 : (ca.k != 1) = false := by simpa using ka
      by_cases kb : (cb.k == 1) = true
      · have kb2 : (cb.k != 1) = false := by simpa using kb
        have E : Hid (optV (reck op ca.n cb.n) = r) := by have := unhide HR; rw [ka, kb] at this; exact this
        have HBA := hide hBA
        have HBB := hide hBB
        have HZ := hide hZ
        have HBEL := hide hbel
        clear HR hBA hBB hZ
        go_upto_region 4 with fail
        clear ka2 kb2 ka kb
        have ia := unhide IA
        have ib := unhide IB
        obtain ⟨x, hx⟩ : ∃ x, x = ca.n := ⟨_, rfl⟩
        obtain ⟨y, hy⟩ : ∃ y, y = cb.n := ⟨_, rfl⟩
        have HLX := hide (longOf_any x)
        have HLY := hide (longOf_any y)
        rw [← hx] at ia a1
        rw [← hy] at ib b1
        have HX := hide hx
        have HY := hide hy
        have IX := hide ia
        have IY := hide ib
        clear hx hy IA IB ia ib a0 a2 b0 b2 z0 z1 z2 z3 z4 z5 hbel
        go_cut [7, 8] (fun s7 s8 wx => ∃ b7 b8 xa xl xc ya yl yc ux uy, s7 = .pointer (some ⟨b7, 0, none⟩) ∧ s8 = .pointer (some ⟨b8, 0, none⟩) ∧ Bx wx b7 (decide (x < 0)) (.slice xa xl xc) ∧ Bx wx b8 (decide (y < 0)) (.slice ya yl yc) ∧ LongS wx (.slice xa xl xc) ux ∧ LongS wx (.slice ya yl yc) uy ∧ Hid (ux = x ∨ ux = -x) ∧ Hid (uy = y ∨ uy = -y) ∧ b7 ≠ b8 ∧ wa.heap.size ≤ b7 ∧ wa.heap.size ≤ b8 ∧ Below wa.heap.size wa wx)
        case first =>
          rename_i K0 aK0 J1 K1 aJ aM
          clear aK0 K0
          have HS := hide (RS.start wa)
          have hS0 : (fun w' : World => w'.cell? ⟨w.heap.size, 1, none⟩ = some (.int .i64 x) ∧ w'.cell? ⟨w.heap.size + 1, 1, none⟩ = some (.int .i64 y)) wa.drew := ⟨a1, b1⟩
          refine wp_region_noPanic ?_
          refine wp_region_G (S := fun w' : World => w'.cell? ⟨w.heap.size, 1, none⟩ = some (.int .i64 x) ∧ w'.cell? ⟨w.heap.size + 1, 1, none⟩ = some (.int .i64 y)) (k := 8) (by kernel_rfl) ?_
          refine anyG_takel (i := 0) (v := .pointer (some ⟨w.heap.size, 1, none⟩)) [1, 2, 8] rfl (by kernel_rfl) (by kernel_rfl) (by kernel_rfl) (by kernel_rfl) (fun _ _ _ h => h) (Or.inl ⟨by rfl, fun w' hSw => ?_⟩) hS0 ?_
          · go_simp
          try simp only [Act.put, List.setIfInBounds_toArray, List.set_cons_zero, List.set_cons_succ]
          refine anyG_takel (i := 1) (v := .int .i64 x) [2, 8] rfl (by kernel_rfl) (by kernel_rfl) (by kernel_rfl) (by kernel_rfl) (fun _ _ _ h => h) (Or.inl ⟨by rfl, fun w' hSw => ?_⟩) hS0 ?_
          · dsimp only at hSw; obtain ⟨c1, c2⟩ := hSw; go_simp
          try simp only [Act.put, List.setIfInBounds_toArray, List.set_cons_zero, List.set_cons_succ]
          refine anyG_takel (i := 3) (v := .pointer (some ⟨w.heap.size + 1, 1, none⟩)) [4, 5, 8] rfl (by kernel_rfl) (by kernel_rfl) (by kernel_rfl) (by kernel_rfl) (fun _ _ _ h => h) (Or.inl ⟨by rfl, fun w' hSw => ?_⟩) hS0 ?_
          · go_simp
          try simp only [Act.put, List.setIfInBounds_toArray, List.set_cons_zero, List.set_cons_succ]
          refine anyG_takel (i := 4) (v := .int .i64 y) [5, 8] rfl (by kernel_rfl) (by kernel_rfl) (by kernel_rfl) (by kernel_rfl) (fun _ _ _ h => h) (Or.inl ⟨by rfl, fun w' hSw => ?_⟩) hS0 ?_
          · dsimp only at hSw; obtain ⟨c1, c2⟩ := hSw; go_simp
          try simp only [Act.put, List.setIfInBounds_toArray, List.set_cons_zero, List.set_cons_succ]
          clear hS0
          refine anyG_many [2, 6, 7] (by kernel_rfl) (by simp) ?_
          intro i hi
          simp only [List.mem_cons, List.not_mem_nil, or_false] at hi
          rcases hi with rfl | rfl | rfl
          · refine wpOp_lit rfl (by rfl) fun K hK => ?_
            go_simp
            refine (unhide HLX _ (unhide IX)).mono ?_
            rintro e w5 ⟨v5, rfl, hv5, hb5⟩
            obtain ⟨xa, xl, xc, ux, rfl, hs5, hu5⟩ := hv5.parts
            go_simp
            replace HS := hide ((unhide HS).call hb5 hs5)
            have HUX := hide hu5
            clear hb5 hs5 hu5 hv5
            refine unhide hK _ _ ⟨fun _ => ⟨cell_later (unhide HS).below a1, cell_later (unhide HS).below b1⟩, ?_⟩
            clear hK K
            refine anyG_many [5, 6, 7] (by kernel_rfl) (by simp) ?_
            intro i hi
            simp only [List.mem_cons, List.not_mem_nil, or_false] at hi
            rcases hi with rfl | rfl | rfl
            · refine wpOp_lit rfl (by rfl) fun K hK => ?_
              go_simp
              refine (unhide HLY _ (unhide IY)).mono ?_
              rintro e w6 ⟨v6, rfl, hv6, hb6⟩
              obtain ⟨ya, yl, yc, uy, rfl, hs6, hu6⟩ := hv6.parts
              go_simp
              replace HS := hide ((unhide HS).call hb6 hs6)
              have HUY := hide hu6
              clear hb6 hs6 hu6 hv6
              refine unhide hK _ _ ⟨fun _ => ⟨cell_later (unhide HS).below a1, cell_later (unhide HS).below b1⟩, ?_⟩
              clear hK K
              refine anyG_many [6, 7] (by kernel_rfl) (by simp) ?_
              intro i hi
              simp only [List.mem_cons, List.not_mem_nil, or_false] at hi
              rcases hi with rfl | rfl
              · refine wpOp_lit rfl (by rfl) fun K hK => ?_
                go_simp
                replace HS := hide (unhide HS).alloc
                refine unhide hK _ _ ⟨fun _ => ⟨cell_later (unhide HS).below a1, cell_later (unhide HS).below b1⟩, ?_⟩
                clear hK K
                refine anyG_many [7] (by kernel_rfl) (by simp) ?_
                intro i hi
                simp only [List.mem_cons, List.not_mem_nil, or_false] at hi
                subst hi
                refine wpOp_lit rfl (by rfl) fun K hK => ?_
                go_simp
                replace HS := hide (unhide HS).alloc
                refine unhide hK _ _ ⟨fun _ => ⟨cell_later (unhide HS).below a1, cell_later (unhide HS).below b1⟩, ?_⟩
                clear hK K
                try simp only [World.size_alloc, World.size_drew] at HS
                refine leafA HS ?_
                clear HS
                intro WZ HS
                have c1 := box2_facts ((unhide HS).box _ List.mem_cons_self).1.1
                have c2 := box2_facts ((unhide HS).box _ (List.mem_cons_of_mem _ List.mem_cons_self)).1.1
                have n1 := List.rel_of_pairwise_cons (unhide HS).apart List.mem_cons_self
                have n2 := Ne.symm n1
                obtain ⟨c10, c11, c12, c13⟩ := c1
                obtain ⟨c20, c21, c22, c23⟩ := c2
                refine anyG_one (i := 8) (by kernel_rfl) ?_
                refine wpOp_lit rfl (by rfl) fun K hK => ?_
                go_simp
                refine unhide hK _ _ ⟨fun hh => absurd hh (by decide), ?_⟩
                clear hK K
                refine anyG_one (i := 9) (by kernel_rfl) ?_
                refine wpOp_lit rfl (by rfl) fun K hK => ?_
                go_simp
                refine unhide hK _ _ ⟨fun hh => absurd hh (by decide), ?_⟩
                clear hK K
                refine anyG_done (by kernel_rfl) ?_ _
                refine NoPanic.normal ?_
                go_wp2
                go_meet
                refine ⟨_, _, xa, xl, xc, ya, yl, yc, ux, uy, rfl, rfl, ?_⟩
                exact (unhide HS).done (by simp) (by simp) (by first | exact n1 | exact n2) (by simp) (by simp) HUX HUY
              · refine wpOp_lit rfl (by rfl) fun K hK => ?_
                go_simp
                replace HS := hide (unhide HS).alloc
                refine unhide hK _ _ ⟨fun _ => ⟨cell_later (unhide HS).below a1, cell_later (unhide HS).below b1⟩, ?_⟩
                clear hK K
                refine anyG_many [6] (by kernel_rfl) (by simp) ?_
                intro i hi
                simp only [List.mem_cons, List.not_mem_nil, or_false] at hi
                subst hi
                refine wpOp_lit rfl (by rfl) fun K hK => ?_
                go_simp
                replace HS := hide (unhide HS).alloc
                refine unhide hK _ _ ⟨fun _ => ⟨cell_later (unhide HS).below a1, cell_later (unhide HS).below b1⟩, ?_⟩
                clear hK K
                try simp only [World.size_alloc, World.size_drew] at HS
                refine leafA HS ?_
                clear HS
                intro WZ HS
                have c1 := box2_facts ((unhide HS).box _ List.mem_cons_self).1.1
                have c2 := box2_facts ((unhide HS).box _ (List.mem_cons_of_mem _ List.mem_cons_self)).1.1
                have n1 := List.rel_of_pairwise_cons (unhide HS).apart List.mem_cons_self
                have n2 := Ne.symm n1
                obtain ⟨c10, c11, c12, c13⟩ := c1
                obtain ⟨c20, c21, c22, c23⟩ := c2
                refine anyG_one (i := 8) (by kernel_rfl) ?_
                refine wpOp_lit rfl (by rfl) fun K hK => ?_
                go_simp
                refine unhide hK _ _ ⟨fun hh => absurd hh (by decide), ?_⟩
                clear hK K
                refine anyG_one (i := 9) (by kernel_rfl) ?_
                refine wpOp_lit rfl (by rfl) fun K hK => ?_
                go_simp
                refine unhide hK _ _ ⟨fun hh => absurd hh (by decide), ?_⟩
                clear hK K
                refine anyG_done (by kernel_rfl) ?_ _
                refine NoPanic.normal ?_
                go_wp2
                go_meet
                refine ⟨_, _, xa, xl, xc, ya, yl, yc, ux, uy, rfl, rfl, ?_⟩
                exact (unhide HS).done (by simp) (by simp) (by first | exact n1 | exact n2) (by simp) (by simp) HUX HUY
            · refine wpOp_lit rfl (by rfl) fun K hK => ?_
              go_simp
              replace HS := hide (unhide HS).alloc
              refine unhide hK _ _ ⟨fun _ => ⟨cell_later (unhide HS).below a1, cell_later (unhide HS).below b1⟩, ?_⟩
              clear hK K
              refine anyG_many [5, 7] (by kernel_rfl) (by simp) ?_
              intro i hi
              simp only [List.mem_cons, List.not_mem_nil, or_false] at hi
              rcases hi with rfl | rfl
              · refine wpOp_lit rfl (by rfl) fun K hK => ?_
                go_simp
                refine (unhide HLY _ (unhide IY)).mono ?_
                rintro e w6 ⟨v6, rfl, hv6, hb6⟩
                obtain ⟨ya, yl, yc, uy, rfl, hs6, hu6⟩ := hv6.parts
                go_simp
                replace HS := hide ((unhide HS).call hb6 hs6)
                have HUY := hide hu6
                clear hb6 hs6 hu6 hv6
                refine unhide hK _ _ ⟨fun _ => ⟨cell_later (unhide HS).below a1, cell_later (unhide HS).below b1⟩, ?_⟩
                clear hK K
                refine anyG_many [7] (by kernel_rfl) (by simp) ?_
                intro i hi
                simp only [List.mem_cons, List.not_mem_nil, or_false] at hi
                subst hi
                refine wpOp_lit rfl (by rfl) fun K hK => ?_
                go_simp
                replace HS := hide (unhide HS).alloc
                refine unhide hK _ _ ⟨fun _ => ⟨cell_later (unhide HS).below a1, cell_later (unhide HS).below b1⟩, ?_⟩
                clear hK K
                try simp only [World.size_alloc, World.size_drew] at HS
                refine leafA HS ?_
                clear HS
                intro WZ HS
                have c1 := box2_facts ((unhide HS).box _ List.mem_cons_self).1.1
                have c2 := box2_facts ((unhide HS).box _ (List.mem_cons_of_mem _ List.mem_cons_self)).1.1
                have n1 := List.rel_of_pairwise_cons (unhide HS).apart List.mem_cons_self
                have n2 := Ne.symm n1
                obtain ⟨c10, c11, c12, c13⟩ := c1
                obtain ⟨c20, c21, c22, c23⟩ := c2
                refine anyG_one (i := 8) (by kernel_rfl) ?_
                refine wpOp_lit rfl (by rfl) fun K hK => ?_
                go_simp
                refine unhide hK _ _ ⟨fun hh => absurd hh (by decide), ?_⟩
                clear hK K
                refine anyG_one (i := 9) (by kernel_rfl) ?_
                refine wpOp_lit rfl (by rfl) fun K hK => ?_
                go_simp
                refine unhide hK _ _ ⟨fun hh => absurd hh (by decide), ?_⟩
                clear hK K
                refine anyG_done (by kernel_rfl) ?_ _
                refine NoPanic.normal ?_
                go_wp2
                go_meet
                refine ⟨_, _, xa, xl, xc, ya, yl, yc, ux, uy, rfl, rfl, ?_⟩
                exact (unhide HS).done (by simp) (by simp) (by first | exact n1 | exact n2) (by simp) (by simp) HUX HUY
              · refine wpOp_lit rfl (by rfl) fun K hK => ?_
                go_simp
                replace HS := hide (unhide HS).alloc
                refine unhide hK _ _ ⟨fun _ => ⟨cell_later (unhide HS).below a1, cell_later (unhide HS).below b1⟩, ?_⟩
                clear hK K
                refine anyG_many [5] (by kernel_rfl) (by simp) ?_
                intro i hi
                simp only [List.mem_cons, List.not_mem_nil, or_false] at hi
                subst hi
                refine wpOp_lit rfl (by rfl) fun K hK => ?_
                go_simp
                refine (unhide HLY _ (unhide IY)).mono ?_
                rintro e w6 ⟨v6, rfl, hv6, hb6⟩
                obtain ⟨ya, yl, yc, uy, rfl, hs6, hu6⟩ := hv6.parts
                go_simp
                replace HS := hide ((unhide HS).call hb6 hs6)
                have HUY := hide hu6
                clear hb6 hs6 hu6 hv6
                refine unhide hK _ _ ⟨fun _ => ⟨cell_later (unhide HS).below a1, cell_later (unhide HS).below b1⟩, ?_⟩
                clear hK K
                try simp only [World.size_alloc, World.size_drew] at HS
                refine leafA HS ?_
                clear HS
                intro WZ HS
                have c1 := box2_facts ((unhide HS).box _ List.mem_cons_self).1.1
                have c2 := box2_facts ((unhide HS).box _ (List.mem_cons_of_mem _ List.mem_cons_self)).1.1
                have n1 := List.rel_of_pairwise_cons (unhide HS).apart List.mem_cons_self
                have n2 := Ne.symm n1
                obtain ⟨c10, c11, c12, c13⟩ := c1
                obtain ⟨c20, c21, c22, c23⟩ := c2
                refine anyG_one (i := 8) (by kernel_rfl) ?_
                refine wpOp_lit rfl (by rfl) fun K hK => ?_
                go_simp
                refine unhide hK _ _ ⟨fun hh => absurd hh (by decide), ?_⟩
                clear hK K
                refine anyG_one (i := 9) (by kernel_rfl) ?_
                refine wpOp_lit rfl (by rfl) fun K hK => ?_
                go_simp
                refine unhide hK _ _ ⟨fun hh => absurd hh (by decide), ?_⟩
                clear hK K
                refine anyG_done (by kernel_rfl) ?_ _
                refine NoPanic.normal ?_
                go_wp2
                go_meet
                refine ⟨_, _, xa, xl, xc, ya, yl, yc, ux, uy, rfl, rfl, ?_⟩
                exact (unhide HS).done (by simp) (by simp) (by first | exact n1 | exact n2) (by simp) (by simp) HUX HUY
            · refine wpOp_lit rfl (by rfl) fun K hK => ?_
              go_simp
              replace HS := hide (unhide HS).alloc
              refine unhide hK _ _ ⟨fun _ => ⟨cell_later (unhide HS).below a1, cell_later (unhide HS).below b1⟩, ?_⟩
              clear hK K
              refine anyG_many [5, 6] (by kernel_rfl) (by simp) ?_
              intro i hi
              simp only [List.mem_cons, List.not_mem_nil, or_false] at hi
              rcases hi with rfl | rfl
              · refine wpOp_lit rfl (by rfl) fun K hK => ?_
                go_simp
                refine (unhide HLY _ (unhide IY)).mono ?_
                rintro e w6 ⟨v6, rfl, hv6, hb6⟩
                obtain ⟨ya, yl, yc, uy, rfl, hs6, hu6⟩ := hv6.parts
                go_simp
                replace HS := hide ((unhide HS).call hb6 hs6)
                have HUY := hide hu6
                clear hb6 hs6 hu6 hv6
                refine unhide hK _ _ ⟨fun _ => ⟨cell_later (unhide HS).below a1, cell_later (unhide HS).below b1⟩, ?_⟩
                clear hK K
                refine anyG_many [6] (by kernel_rfl) (by simp) ?_
                intro i hi
                simp only [List.mem_cons, List.not_mem_nil, or_false] at hi
                subst hi
                refine wpOp_lit rfl (by rfl) fun K hK => ?_
                go_simp
                replace HS := hide (unhide HS).alloc
                refine unhide hK _ _ ⟨fun _ => ⟨cell_later (unhide HS).below a1, cell_later (unhide HS).below b1⟩, ?_⟩
                clear hK K
                try simp only [World.size_alloc, World.size_drew] at HS
                refine leafA HS ?_
                clear HS
                intro WZ HS
                have c1 := box2_facts ((unhide HS).box _ List.mem_cons_self).1.1
                have c2 := box2_facts ((unhide HS).box _ (List.mem_cons_of_mem _ List.mem_cons_self)).1.1
                have n1 := List.rel_of_pairwise_cons (unhide HS).apart List.mem_cons_self
                have n2 := Ne.symm n1
                obtain ⟨c10, c11, c12, c13⟩ := c1
                obtain ⟨c20, c21, c22, c23⟩ := c2
                refine anyG_one (i := 8) (by kernel_rfl) ?_
                refine wpOp_lit rfl (by rfl) fun K hK => ?_
                go_simp
                refine unhide hK _ _ ⟨fun hh => absurd hh (by decide), ?_⟩
                clear hK K
                refine anyG_one (i := 9) (by kernel_rfl) ?_
                refine wpOp_lit rfl (by rfl) fun K hK => ?_
                go_simp
                refine unhide hK _ _ ⟨fun hh => absurd hh (by decide), ?_⟩
                clear hK K
                refine anyG_done (by kernel_rfl) ?_ _
                refine NoPanic.normal ?_
                go_wp2
                go_meet
                refine ⟨_, _, xa, xl, xc, ya, yl, yc, ux, uy, rfl, rfl, ?_⟩
                exact (unhide HS).done (by simp) (by simp) (by first | exact n1 | exact n2) (by simp) (by simp) HUX HUY
              · refine wpOp_lit rfl (by rfl) fun K hK => ?_
                go_simp
                replace HS := hide (unhide HS).alloc
                refine unhide hK _ _ ⟨fun _ => ⟨cell_later (unhide HS).below a1, cell_later (unhide HS).below b1⟩, ?_⟩
                clear hK K
                refine anyG_many [5] (by kernel_rfl) (by simp) ?_
                intro i hi
                simp only [List.mem_cons, List.not_mem_nil, or_false] at hi
                subst hi
                refine wpOp_lit rfl (by rfl) fun K hK => ?_
                go_simp
                refine (unhide HLY _ (unhide IY)).mono ?_
                rintro e w6 ⟨v6, rfl, hv6, hb6⟩
                obtain ⟨ya, yl, yc, uy, rfl, hs6, hu6⟩ := hv6.parts
                go_simp
                replace HS := hide ((unhide HS).call hb6 hs6)
                have HUY := hide hu6
                clear hb6 hs6 hu6 hv6
                refine unhide hK _ _ ⟨fun _ => ⟨cell_later (unhide HS).below a1, cell_later (unhide HS).below b1⟩, ?_⟩
                clear hK K
                try simp only [World.size_alloc, World.size_drew] at HS
                refine leafA HS ?_
                clear HS
                intro WZ HS
                have c1 := box2_facts ((unhide HS).box _ List.mem_cons_self).1.1
                have c2 := box2_facts ((unhide HS).box _ (List.mem_cons_of_mem _ List.mem_cons_self)).1.1
                have n1 := List.rel_of_pairwise_cons (unhide HS).apart List.mem_cons_self
                have n2 := Ne.symm n1
                obtain ⟨c10, c11, c12, c13⟩ := c1
                obtain ⟨c20, c21, c22, c23⟩ := c2
                refine anyG_one (i := 8) (by kernel_rfl) ?_
                refine wpOp_lit rfl (by rfl) fun K hK => ?_
                go_simp
                refine unhide hK _ _ ⟨fun hh => absurd hh (by decide), ?_⟩
                clear hK K
                refine anyG_one (i := 9) (by kernel_rfl) ?_
                refine wpOp_lit rfl (by rfl) fun K hK => ?_
                go_simp
                refine unhide hK _ _ ⟨fun hh => absurd hh (by decide), ?_⟩
                clear hK K
                refine anyG_done (by kernel_rfl) ?_ _
                refine NoPanic.normal ?_
                go_wp2
                go_meet
                refine ⟨_, _, xa, xl, xc, ya, yl, yc, ux, uy, rfl, rfl, ?_⟩
                exact (unhide HS).done (by simp) (by simp) (by first | exact n1 | exact n2) (by simp) (by simp) HUX HUY
          · refine wpOp_lit rfl (by rfl) fun K hK => ?_
            go_simp
            replace HS := hide (unhide HS).alloc
            refine unhide hK _ _ ⟨fun _ => ⟨cell_later (unhide HS).below a1, cell_later (unhide HS).below b1⟩, ?_⟩
            clear hK K
            refine anyG_many [2, 7] (by kernel_rfl) (by simp) ?_
            intro i hi
            simp only [List.mem_cons, List.not_mem_nil, or_false] at hi
            rcases hi with rfl | rfl
            · refine wpOp_lit rfl (by rfl) fun K hK => ?_
              go_simp
              refine (unhide HLX _ (unhide IX)).mono ?_
              rintro e w5 ⟨v5, rfl, hv5, hb5⟩
              obtain ⟨xa, xl, xc, ux, rfl, hs5, hu5⟩ := hv5.parts
              go_simp
              replace HS := hide ((unhide HS).call hb5 hs5)
              have HUX := hide hu5
              clear hb5 hs5 hu5 hv5
              refine unhide hK _ _ ⟨fun _ => ⟨cell_later (unhide HS).below a1, cell_later (unhide HS).below b1⟩, ?_⟩
              clear hK K
              refine anyG_many [5, 7] (by kernel_rfl) (by simp) ?_
              intro i hi
              simp only [List.mem_cons, List.not_mem_nil, or_false] at hi
              rcases hi with rfl | rfl
              · refine wpOp_lit rfl (by rfl) fun K hK => ?_
                go_simp
                refine (unhide HLY _ (unhide IY)).mono ?_
                rintro e w6 ⟨v6, rfl, hv6, hb6⟩
                obtain ⟨ya, yl, yc, uy, rfl, hs6, hu6⟩ := hv6.parts
                go_simp
                replace HS := hide ((unhide HS).call hb6 hs6)
                have HUY := hide hu6
                clear hb6 hs6 hu6 hv6
                refine unhide hK _ _ ⟨fun _ => ⟨cell_later (unhide HS).below a1, cell_later (unhide HS).below b1⟩, ?_⟩
                clear hK K
                refine anyG_many [7] (by kernel_rfl) (by simp) ?_
                intro i hi
                simp only [List.mem_cons, List.not_mem_nil, or_false] at hi
                subst hi
                refine wpOp_lit rfl (by rfl) fun K hK => ?_
                go_simp
                replace HS := hide (unhide HS).alloc
                refine unhide hK _ _ ⟨fun _ => ⟨cell_later (unhide HS).below a1, cell_later (unhide HS).below b1⟩, ?_⟩
                clear hK K
                try simp only [World.size_alloc, World.size_drew] at HS
                refine leafA HS ?_
                clear HS
                intro WZ HS
                have c1 := box2_facts ((unhide HS).box _ List.mem_cons_self).1.1
                have c2 := box2_facts ((unhide HS).box _ (List.mem_cons_of_mem _ List.mem_cons_self)).1.1
                have n1 := List.rel_of_pairwise_cons (unhide HS).apart List.mem_cons_self
                have n2 := Ne.symm n1
                obtain ⟨c10, c11, c12, c13⟩ := c1
                obtain ⟨c20, c21, c22, c23⟩ := c2
                refine anyG_one (i := 8) (by kernel_rfl) ?_
                refine wpOp_lit rfl (by rfl) fun K hK => ?_
                go_simp
                refine unhide hK _ _ ⟨fun hh => absurd hh (by decide), ?_⟩
                clear hK K
                refine anyG_one (i := 9) (by kernel_rfl) ?_
                refine wpOp_lit rfl (by rfl) fun K hK => ?_
                go_simp
                refine unhide hK _ _ ⟨fun hh => absurd hh (by decide), ?_⟩
                clear hK K
                refine anyG_done (by kernel_rfl) ?_ _
                refine NoPanic.normal ?_
                go_wp2
                go_meet
                refine ⟨_, _, xa, xl, xc, ya, yl, yc, ux, uy, rfl, rfl, ?_⟩
                exact (unhide HS).done (by simp) (by simp) (by first | exact n1 | exact n2) (by simp) (by simp) HUX HUY
              · refine wpOp_lit rfl (by rfl) fun K hK => ?_
                go_simp
                replace HS := hide (unhide HS).alloc
                refine unhide hK _ _ ⟨fun _ => ⟨cell_later (unhide HS).below a1, cell_later (unhide HS).below b1⟩, ?_⟩
                clear hK K
                refine anyG_many [5] (by kernel_rfl) (by simp) ?_
                intro i hi
                simp only [List.mem_cons, List.not_mem_nil, or_false] at hi
                subst hi
                refine wpOp_lit rfl (by rfl) fun K hK => ?_
                go_simp
                refine (unhide HLY _ (unhide IY)).mono ?_
                rintro e w6 ⟨v6, rfl, hv6, hb6⟩
                obtain ⟨ya, yl, yc, uy, rfl, hs6, hu6⟩ := hv6.parts
                go_simp
                replace HS := hide ((unhide HS).call hb6 hs6)
                have HUY := hide hu6
                clear hb6 hs6 hu6 hv6
                refine unhide hK _ _ ⟨fun _ => ⟨cell_later (unhide HS).below a1, cell_later (unhide HS).below b1⟩, ?_⟩
                clear hK K
                try simp only [World.size_alloc, World.size_drew] at HS
                refine leafA HS ?_
                clear HS
                intro WZ HS
                have c1 := box2_facts ((unhide HS).box _ List.mem_cons_self).1.1
                have c2 := box2_facts ((unhide HS).box _ (List.mem_cons_of_mem _ List.mem_cons_self)).1.1
                have n1 := List.rel_of_pairwise_cons (unhide HS).apart List.mem_cons_self
                have n2 := Ne.symm n1
                obtain ⟨c10, c11, c12, c13⟩ := c1
                obtain ⟨c20, c21, c22, c23⟩ := c2
                refine anyG_one (i := 8) (by kernel_rfl) ?_
                refine wpOp_lit rfl (by rfl) fun K hK => ?_
                go_simp
                refine unhide hK _ _ ⟨fun hh => absurd hh (by decide), ?_⟩
                clear hK K
                refine anyG_one (i := 9) (by kernel_rfl) ?_
                refine wpOp_lit rfl (by rfl) fun K hK => ?_
                go_simp
                refine unhide hK _ _ ⟨fun hh => absurd hh (by decide), ?_⟩
                clear hK K
                refine anyG_done (by kernel_rfl) ?_ _
                refine NoPanic.normal ?_
                go_wp2
                go_meet
                refine ⟨_, _, xa, xl, xc, ya, yl, yc, ux, uy, rfl, rfl, ?_⟩
                exact (unhide HS).done (by simp) (by simp) (by first | exact n1 | exact n2) (by simp) (by simp) HUX HUY
            · refine wpOp_lit rfl (by rfl) fun K hK => ?_
              go_simp
              replace HS := hide (unhide HS).alloc
              refine unhide hK _ _ ⟨fun _ => ⟨cell_later (unhide HS).below a1, cell_later (unhide HS).below b1⟩, ?_⟩
              clear hK K
              refine anyG_many [2] (by kernel_rfl) (by simp) ?_
              intro i hi
              simp only [List.mem_cons, List.not_mem_nil, or_false] at hi
              subst hi
              refine wpOp_lit rfl (by rfl) fun K hK => ?_
              go_simp
              refine (unhide HLX _ (unhide IX)).mono ?_
              rintro e w5 ⟨v5, rfl, hv5, hb5⟩
              obtain ⟨xa, xl, xc, ux, rfl, hs5, hu5⟩ := hv5.parts
              go_simp
              replace HS := hide ((unhide HS).call hb5 hs5)
              have HUX := hide hu5
              clear hb5 hs5 hu5 hv5
              refine unhide hK _ _ ⟨fun _ => ⟨cell_later (unhide HS).below a1, cell_later (unhide HS).below b1⟩, ?_⟩
              clear hK K
              refine anyG_many [5] (by kernel_rfl) (by simp) ?_
              intro i hi
              simp only [List.mem_cons, List.not_mem_nil, or_false] at hi
              subst hi
              refine wpOp_lit rfl (by rfl) fun K hK => ?_
              go_simp
              refine (unhide HLY _ (unhide IY)).mono ?_
              rintro e w6 ⟨v6, rfl, hv6, hb6⟩
              obtain ⟨ya, yl, yc, uy, rfl, hs6, hu6⟩ := hv6.parts
              go_simp
              replace HS := hide ((unhide HS).call hb6 hs6)
              have HUY := hide hu6
              clear hb6 hs6 hu6 hv6
              refine unhide hK _ _ ⟨fun _ => ⟨cell_later (unhide HS).below a1, cell_later (unhide HS).below b1⟩, ?_⟩
              clear hK K
              try simp only [World.size_alloc, World.size_drew] at HS
              refine leafA HS ?_
              clear HS
              intro WZ HS
              have c1 := box2_facts ((unhide HS).box _ List.mem_cons_self).1.1
              have c2 := box2_facts ((unhide HS).box _ (List.mem_cons_of_mem _ List.mem_cons_self)).1.1
              have n1 := List.rel_of_pairwise_cons (unhide HS).apart List.mem_cons_self
              have n2 := Ne.symm n1
              obtain ⟨c10, c11, c12, c13⟩ := c1
              obtain ⟨c20, c21, c22, c23⟩ := c2
              refine anyG_one (i := 8) (by kernel_rfl) ?_
              refine wpOp_lit rfl (by rfl) fun K hK => ?_
              go_simp
              refine unhide hK _ _ ⟨fun hh => absurd hh (by decide), ?_⟩
              clear hK K
              refine anyG_one (i := 9) (by kernel_rfl) ?_
              refine wpOp_lit rfl (by rfl) fun K hK => ?_
              go_simp
              refine unhide hK _ _ ⟨fun hh => absurd hh (by decide), ?_⟩
              clear hK K
              refine anyG_done (by kernel_rfl) ?_ _
              refine NoPanic.normal ?_
              go_wp2
              go_meet
              refine ⟨_, _, xa, xl, xc, ya, yl, yc, ux, uy, rfl, rfl, ?_⟩
              exact (unhide HS).done (by simp) (by simp) (by first | exact n1 | exact n2) (by simp) (by simp) HUX HUY
          · refine wpOp_lit rfl (by rfl) fun K hK => ?_
            go_simp
            replace HS := hide (unhide HS).alloc
            refine unhide hK _ _ ⟨fun _ => ⟨cell_later (unhide HS).below a1, cell_later (unhide HS).below b1⟩, ?_⟩
            clear hK K
            refine anyG_many [2, 6] (by kernel_rfl) (by simp) ?_
            intro i hi
            simp only [List.mem_cons, List.not_mem_nil, or_false] at hi
            rcases hi with rfl | rfl
            · refine wpOp_lit rfl (by rfl) fun K hK => ?_
              go_simp
              refine (unhide HLX _ (unhide IX)).mono ?_
              rintro e w5 ⟨v5, rfl, hv5, hb5⟩
              obtain ⟨xa, xl, xc, ux, rfl, hs5, hu5⟩ := hv5.parts
              go_simp
              replace HS := hide ((unhide HS).call hb5 hs5)
              have HUX := hide hu5
              clear hb5 hs5 hu5 hv5
              refine unhide hK _ _ ⟨fun _ => ⟨cell_later (unhide HS).below a1, cell_later (unhide HS).below b1⟩, ?_⟩
              clear hK K
              refine anyG_many [5, 6] (by kernel_rfl) (by simp) ?_
              intro i hi
              simp only [List.mem_cons, List.not_mem_nil, or_false] at hi
              rcases hi with rfl | rfl
              · refine wpOp_lit rfl (by rfl) fun K hK => ?_
                go_simp
                refine (unhide HLY _ (unhide IY)).mono ?_
                rintro e w6 ⟨v6, rfl, hv6, hb6⟩
                obtain ⟨ya, yl, yc, uy, rfl, hs6, hu6⟩ := hv6.parts
                go_simp
                replace HS := hide ((unhide HS).call hb6 hs6)
                have HUY := hide hu6
                clear hb6 hs6 hu6 hv6
                refine unhide hK _ _ ⟨fun _ => ⟨cell_later (unhide HS).below a1, cell_later (unhide HS).below b1⟩, ?_⟩
                clear hK K
                refine anyG_many [6] (by kernel_rfl) (by simp) ?_
                intro i hi
                simp only [List.mem_cons, List.not_mem_nil, or_false] at hi
                subst hi
                refine wpOp_lit rfl (by rfl) fun K hK => ?_
                go_simp
                replace HS := hide (unhide HS).alloc
                refine unhide hK _ _ ⟨fun _ => ⟨cell_later (unhide HS).below a1, cell_later (unhide HS).below b1⟩, ?_⟩
                clear hK K
                try simp only [World.size_alloc, World.size_drew] at HS
                refine leafA HS ?_
                clear HS
                intro WZ HS
                have c1 := box2_facts ((unhide HS).box _ List.mem_cons_self).1.1
                have c2 := box2_facts ((unhide HS).box _ (List.mem_cons_of_mem _ List.mem_cons_self)).1.1
                have n1 := List.rel_of_pairwise_cons (unhide HS).apart List.mem_cons_self
                have n2 := Ne.symm n1
                obtain ⟨c10, c11, c12, c13⟩ := c1
                obtain ⟨c20, c21, c22, c23⟩ := c2
                refine anyG_one (i := 8) (by kernel_rfl) ?_
                refine wpOp_lit rfl (by rfl) fun K hK => ?_
                go_simp
                refine unhide hK _ _ ⟨fun hh => absurd hh (by decide), ?_⟩
                clear hK K
                refine anyG_one (i := 9) (by kernel_rfl) ?_
                refine wpOp_lit rfl (by rfl) fun K hK => ?_
                go_simp
                refine unhide hK _ _ ⟨fun hh => absurd hh (by decide), ?_⟩
                clear hK K
                refine anyG_done (by kernel_rfl) ?_ _
                refine NoPanic.normal ?_
                go_wp2
                go_meet
                refine ⟨_, _, xa, xl, xc, ya, yl, yc, ux, uy, rfl, rfl, ?_⟩
                exact (unhide HS).done (by simp) (by simp) (by first | exact n1 | exact n2) (by simp) (by simp) HUX HUY
              · refine wpOp_lit rfl (by rfl) fun K hK => ?_
                go_simp
                replace HS := hide (unhide HS).alloc
                refine unhide hK _ _ ⟨fun _ => ⟨cell_later (unhide HS).below a1, cell_later (unhide HS).below b1⟩, ?_⟩
                clear hK K
                refine anyG_many [5] (by kernel_rfl) (by simp) ?_
                intro i hi
                simp only [List.mem_cons, List.not_mem_nil, or_false] at hi
                subst hi
                refine wpOp_lit rfl (by rfl) fun K hK => ?_
                go_simp
                refine (unhide HLY _ (unhide IY)).mono ?_
                rintro e w6 ⟨v6, rfl, hv6, hb6⟩
                obtain ⟨ya, yl, yc, uy, rfl, hs6, hu6⟩ := hv6.parts
                go_simp
                replace HS := hide ((unhide HS).call hb6 hs6)
                have HUY := hide hu6
                clear hb6 hs6 hu6 hv6
                refine unhide hK _ _ ⟨fun _ => ⟨cell_later (unhide HS).below a1, cell_later (unhide HS).below b1⟩, ?_⟩
                clear hK K
                try simp only [World.size_alloc, World.size_drew] at HS
                refine leafA HS ?_
                clear HS
                intro WZ HS
                have c1 := box2_facts ((unhide HS).box _ List.mem_cons_self).1.1
                have c2 := box2_facts ((unhide HS).box _ (List.mem_cons_of_mem _ List.mem_cons_self)).1.1
                have n1 := List.rel_of_pairwise_cons (unhide HS).apart List.mem_cons_self
                have n2 := Ne.symm n1
                obtain ⟨c10, c11, c12, c13⟩ := c1
                obtain ⟨c20, c21, c22, c23⟩ := c2
                refine anyG_one (i := 8) (by kernel_rfl) ?_
                refine wpOp_lit rfl (by rfl) fun K hK => ?_
                go_simp
                refine unhide hK _ _ ⟨fun hh => absurd hh (by decide), ?_⟩
                clear hK K
                refine anyG_one (i := 9) (by kernel_rfl) ?_
                refine wpOp_lit rfl (by rfl) fun K hK => ?_
                go_simp
                refine unhide hK _ _ ⟨fun hh => absurd hh (by decide), ?_⟩
                clear hK K
                refine anyG_done (by kernel_rfl) ?_ _
                refine NoPanic.normal ?_
                go_wp2
                go_meet
                refine ⟨_, _, xa, xl, xc, ya, yl, yc, ux, uy, rfl, rfl, ?_⟩
                exact (unhide HS).done (by simp) (by simp) (by first | exact n1 | exact n2) (by simp) (by simp) HUX HUY
            · refine wpOp_lit rfl (by rfl) fun K hK => ?_
              go_simp
              replace HS := hide (unhide HS).alloc
              refine unhide hK _ _ ⟨fun _ => ⟨cell_later (unhide HS).below a1, cell_later (unhide HS).below b1⟩, ?_⟩
              clear hK K
              refine anyG_many [2] (by kernel_rfl) (by simp) ?_
              intro i hi
              simp only [List.mem_cons, List.not_mem_nil, or_false] at hi
              subst hi
              refine wpOp_lit rfl (by rfl) fun K hK => ?_
              go_simp
              refine (unhide HLX _ (unhide IX)).mono ?_
              rintro e w5 ⟨v5, rfl, hv5, hb5⟩
              obtain ⟨xa, xl, xc, ux, rfl, hs5, hu5⟩ := hv5.parts
              go_simp
              replace HS := hide ((unhide HS).call hb5 hs5)
              have HUX := hide hu5
              clear hb5 hs5 hu5 hv5
              refine unhide hK _ _ ⟨fun _ => ⟨cell_later (unhide HS).below a1, cell_later (unhide HS).below b1⟩, ?_⟩
              clear hK K
              refine anyG_many [5] (by kernel_rfl) (by simp) ?_
              intro i hi
              simp only [List.mem_cons, List.not_mem_nil, or_false] at hi
              subst hi
              refine wpOp_lit rfl (by rfl) fun K hK => ?_
              go_simp
              refine (unhide HLY _ (unhide IY)).mono ?_
              rintro e w6 ⟨v6, rfl, hv6, hb6⟩
              obtain ⟨ya, yl, yc, uy, rfl, hs6, hu6⟩ := hv6.parts
              go_simp
              replace HS := hide ((unhide HS).call hb6 hs6)
              have HUY := hide hu6
              clear hb6 hs6 hu6 hv6
              refine unhide hK _ _ ⟨fun _ => ⟨cell_later (unhide HS).below a1, cell_later (unhide HS).below b1⟩, ?_⟩
              clear hK K
              try simp only [World.size_alloc, World.size_drew] at HS
              refine leafA HS ?_
              clear HS
              intro WZ HS
              have c1 := box2_facts ((unhide HS).box _ List.mem_cons_self).1.1
              have c2 := box2_facts ((unhide HS).box _ (List.mem_cons_of_mem _ List.mem_cons_self)).1.1
              have n1 := List.rel_of_pairwise_cons (unhide HS).apart List.mem_cons_self
              have n2 := Ne.symm n1
              obtain ⟨c10, c11, c12, c13⟩ := c1
              obtain ⟨c20, c21, c22, c23⟩ := c2
              refine anyG_one (i := 8) (by kernel_rfl) ?_
              refine wpOp_lit rfl (by rfl) fun K hK => ?_
              go_simp
              refine unhide hK _ _ ⟨fun hh => absurd hh (by decide), ?_⟩
              clear hK K
              refine anyG_one (i := 9) (by kernel_rfl) ?_
              refine wpOp_lit rfl (by rfl) fun K hK => ?_
              go_simp
              refine unhide hK _ _ ⟨fun hh => absurd hh (by decide), ?_⟩
              clear hK K
              refine anyG_done (by kernel_rfl) ?_ _
              refine NoPanic.normal ?_
              go_wp2
              go_meet
              refine ⟨_, _, xa, xl, xc, ya, yl, yc, ux, uy, rfl, rfl, ?_⟩
              exact (unhide HS).done (by simp) (by simp) (by first | exact n1 | exact n2) (by simp) (by simp) HUX HUY
        case rest =>
          obtain ⟨b7, b8, xa, xl, xc, ya, yl, yc, ux, uy, rfl, rfl, h7, h8, lx, ly, hux, huy, hne, l7, l8, hbw⟩ := hcut
          rename World => wx
          have vx : Hid (LongV wx (.agg #[.bool (decide (x < 0)), .slice xa xl xc]) x) := lx.sign _ rfl (unhide hux)
          have vy : Hid (LongV wx (.agg #[.bool (decide (y < 0)), .slice ya yl yc]) y) := ly.sign _ rfl (unhide huy)
          have ZX := hide ((unhide HZ).later hbw)
          have BW := hide (below_step (unhide HBEL) hbw)
          obtain ⟨_, b1x, _⟩ := (unhide HBB).later hbw
          obtain ⟨x0, x1, x2, x3⟩ := box2_facts h7.1
          obtain ⟨y0, y1, y2, y3⟩ := box2_facts h8.1
          have hszx : w.heap.size ≤ wx.heap.size := (unhide BW).size
          have hl8 : w.heap.size + 1 + 1 < b8 := by have := box_lt (unhide HZ); omega
          have E2 : Hid (optV (reck op x y) = r) := by rw [unhide HX, unhide HY]; exact unhide E
          have fx : Fits x := fits_inL (unhide IX)
          have fy : Fits y := fits_inL (unhide IY)
          rw [← unhide HY] at b1x
          have H7 := hide h7
          have H8 := hide h8
          have LX := hide lx
          have LY := hide ly
          clear E HBA HBB HZ HBEL a1 b1 h7 h8 lx ly hbw
          by_cases o7 : op = 7
          · subst o7
            have HV : Hid (optV (if fitsB (x + y) then some (x + y) else none) = r) := unhide E2
            have FZ : Fits (x + y) := fits_add (unhide IX) (unhide IY)
            have HVAL : Hid (∀ W v, LongV W v (x + y) → Calls Tryz.prog 155 #[v] W fun e w' => e = .returned r.v ∧ Below W.heap.size W w') := fun W v hv => by
              have := value_v v (x + y) W FZ hv
              rw [unhide HV] at this
              exact this
            clear HV E2
            go_wp2_with (first
              | (go_at_call 154; refine (plus_any _ _ x y _ fx fy (unhide vx) (unhide vy)).mono ?_; rintro e w2 ⟨v2, rfl, hv2, hb2⟩)
              | (go_at_call 155; refine (unhide HVAL _ _ hv2).mono ?_; rintro e w3 ⟨rfl, hb3⟩; have hB3 := below_step hb2 hb3; obtain ⟨q0, q1, q2, q3, q4, q5⟩ := (unhide ZX).later hB3; rw [Val.open_]))
            refine bodyPost_ret (v := r.v) (by simp [results, Tryz.results104, go_sem, Val.v, *]) rfl ⟨rfl, ?_⟩
            exact ((((below_step (unhide BW) hB3).setCell (by simp <;> omega) _).setCell (by simp <;> omega) _).setCell (by simp <;> omega) _)

          · by_cases o8 : op = 8
            · subst o8
              have HV : Hid (optV (if fitsB (x + -y) then some (x + -y) else none) = r) := unhide E2
              have FZ : Fits (x + -y) := fits_sub (unhide IX) (unhide IY)
              have HVAL : Hid (∀ W v, LongV W v (x + -y) → Calls Tryz.prog 155 #[v] W fun e w' => e = .returned r.v ∧ Below W.heap.size W w') := fun W v hv => by
                have := value_v v (x + -y) W FZ hv
                rw [unhide HV] at this
                exact this
              clear HV E2
              go_upto_region 10 with fail
              have h8' := (unhide H8).put0 (!decide (y < 0))
              have h7' := (unhide H7).other0 (g' := b8) (j := 0) hne (.bool (!decide (y < 0)))
              have lx' := (unhide LX).set (j := 0) (u := .bool (!decide (y < 0))) (unhide H8).1 (box2_no (unhide H8).2)
              have ly' := (unhide LY).set (j := 0) (u := .bool (!decide (y < 0))) (unhide H8).1 (box2_no (unhide H8).2)
              have bw' := (unhide BW).setCell (p := ⟨b8, 0, none⟩) (by simp; omega) (.bool (!decide (y < 0)))
              have zx' := (unhide ZX).set (g := b8) (j := 0) (u := .bool (!decide (y < 0))) (by omega)
              obtain ⟨WY, hWY⟩ : ∃ WY, Hid (WY = wx.setCell ⟨b8, 0, none⟩ (.bool (!decide (y < 0)))) := ⟨_, rfl⟩
              rw [← unhide hWY] at h8' h7' lx' ly' bw' zx' ⊢
              have vx' : Hid (LongV WY (.agg #[.bool (decide (x < 0)), .slice xa xl xc]) x) := lx'.sign _ rfl (unhide hux)
              have vy' : Hid (LongV WY (.agg #[.bool (decide (y < 0)), .slice ya yl yc]) y) := ly'.sign _ rfl (unhide huy)
              have HT : Hid (∀ W', Below WY.heap.size WY W' → Calls Tryz.prog 156 #[.agg #[.bool (!decide (y < 0)), .slice ya yl yc]] W' fun e w'' => ∃ t, e = .returned t ∧ LongV w'' t (-y) ∧ Below W'.heap.size W' w'') := fun W' hW => turned_a ya yl yc y W' (unhide IY) ((unhide vy').later hW)
              have fy' : Hid (Fits (-y)) := by have h := unhide IY; unfold In64 at h; have : (18446744073709551616 : Int) < 65536 ^ 30 := (by decide); exact ⟨by omega, by omega⟩
              have H7' := hide h7'
              have H8' := hide h8'
              have BW' := hide bw'
              have ZX' := hide zx'
              have hS0 : (fun w' : World => (w'.cell? ⟨b7, 0, none⟩ = some (.bool (decide (x < 0))) ∧ w'.cell? ⟨b7, 1, none⟩ = some (.slice xa xl xc)) ∧ w'.cell? ⟨b8, 0, none⟩ = some (.bool (!decide (y < 0))) ∧ w'.cell? ⟨b8, 1, none⟩ = some (.slice ya yl yc)) WY.drew := ⟨bS h7', bS h8'⟩
              have hszy : w.heap.size ≤ WY.heap.size := bw'.size
              clear hWY h8' h7' lx' ly' bw' zx' x0 x1 x2 x3 y0 y1 y2 y3 vx vy H7 H8 BW ZX LX LY hux huy b1x
              refine wp_region_noPanic ?_
              refine wp_region_G (S := fun w' : World => (w'.cell? ⟨b7, 0, none⟩ = some (.bool (decide (x < 0))) ∧ w'.cell? ⟨b7, 1, none⟩ = some (.slice xa xl xc)) ∧ w'.cell? ⟨b8, 0, none⟩ = some (.bool (!decide (y < 0))) ∧ w'.cell? ⟨b8, 1, none⟩ = some (.slice ya yl yc)) (k := 5) (by kernel_rfl) ?_
              refine anyG_take (i := 0) (v := .agg #[.bool (decide (x < 0)), .slice xa xl xc]) [3, 4, 5] rfl (by kernel_rfl) (by kernel_rfl) (by kernel_rfl) (by kernel_rfl) (fun _ _ _ h => h) (Or.inl ⟨by rfl, fun w' hSw => ?_⟩) hS0 ?_
              · dsimp only at hSw; obtain ⟨⟨c1, c2⟩, c3, c4⟩ := hSw; go_simp
              try simp only [Act.put, List.setIfInBounds_toArray, List.set_cons_zero, List.set_cons_succ]
              refine anyG_take (i := 1) (v := .agg #[.bool (!decide (y < 0)), .slice ya yl yc]) [2, 3, 4, 5] rfl (by kernel_rfl) (by kernel_rfl) (by kernel_rfl) (by kernel_rfl) (fun _ _ _ h => h) (Or.inl ⟨by rfl, fun w' hSw => ?_⟩) hS0 ?_
              · dsimp only at hSw; obtain ⟨⟨c1, c2⟩, c3, c4⟩ := hSw; go_simp
              try simp only [Act.put, List.setIfInBounds_toArray, List.set_cons_zero, List.set_cons_succ]
              refine anyG_one (i := 2) (by kernel_rfl) ?_
              clear hS0
              refine wpOp_at rfl (by rfl) fun K hK => ?_
              go_simp
              refine (unhide HT _ (Below.refl _ _).drew).mono ?_
              rintro e w5 ⟨t5, rfl, ht5, hb5⟩
              go_simp
              have hB5 := below_step (Below.refl WY.heap.size WY).drew hb5
              refine unhide hK _ _ ⟨fun _ => ⟨bS ((unhide H7').later hB5), bS ((unhide H8').later hB5)⟩, ?_⟩
              clear hK K
              refine anyG_one (i := 3) (by kernel_rfl) ?_
              refine wpOp_at rfl (by rfl) fun K hK => ?_
              go_simp
              refine (plus_any _ _ x (-y) _ fx (unhide fy') ((unhide vx').later hB5) ht5).mono ?_
              rintro e w6 ⟨t6, rfl, ht6, hb6⟩
              go_simp
              have hB6 := below_step hB5 hb6
              refine unhide hK _ _ ⟨fun _ => ⟨bS ((unhide H7').later hB6), bS ((unhide H8').later hB6)⟩, ?_⟩
              clear hK K
              refine anyG_one (i := 4) (by kernel_rfl) ?_
              refine wpOp_at rfl (by rfl) fun K hK => ?_
              go_simp
              refine (unhide HVAL _ _ ht6).mono ?_
              rintro e w3 ⟨rfl, hb3⟩
              go_simp
              have hB3 := below_step hB6 hb3
              refine unhide hK _ _ ⟨fun _ => ⟨bS ((unhide H7').later hB3), bS ((unhide H8').later hB3)⟩, ?_⟩
              obtain ⟨q0, q1, q2, q3, q4, q5⟩ := (unhide ZX').later hB3
              rw [Val.open_]
              clear hK K
              refine anyG_one (i := 5) (by kernel_rfl) ?_
              refine wpOp_at rfl (by rfl) fun K hK => ?_
              go_simp
              refine unhide hK _ _ ⟨fun hh => absurd hh (by decide), ?_⟩
              clear hK K
              refine anyG_done (by kernel_rfl) ?_ _
              refine NoPanic.normal ?_
              go_wp2
              refine bodyPost_ret (v := r.v) (by simp [results, Tryz.results104, go_sem, Val.v, *]) rfl ⟨rfl, ?_⟩
              exact ((((below_step (unhide BW') hB3).setCell (by simp <;> omega) _).setCell (by simp <;> omega) _).setCell (by simp <;> omega) _)
            · by_cases o9 : op = 9
              · subst o9
                have HV : Hid (optV (if fitsB (x * y) then some (x * y) else none) = r) := unhide E2
                have FZ : Fits (x * y) := fits_mul (unhide IX) (unhide IY)
                have HVAL : Hid (∀ W v, LongV W v (x * y) → Calls Tryz.prog 155 #[v] W fun e w' => e = .returned r.v ∧ Below W.heap.size W w') := fun W v hv => by
                  have := value_v v (x * y) W FZ hv
                  rw [unhide HV] at this
                  exact this
                clear HV E2
                go_wp2_with (first
                  | (go_at_call 157; refine (times_v _ _ x y _ (unhide IX) (unhide IY) (unhide vx) (unhide vy)).mono ?_; rintro e w2 ⟨v2, rfl, hv2, hb2⟩)
                  | (go_at_call 155; refine (unhide HVAL _ _ hv2).mono ?_; rintro e w3 ⟨rfl, hb3⟩; have hB3 := below_step hb2 hb3; obtain ⟨q0, q1, q2, q3, q4, q5⟩ := (unhide ZX).later hB3; rw [Val.open_]))
                refine bodyPost_ret (v := r.v) (by simp [results, Tryz.results104, go_sem, Val.v, *]) rfl ⟨rfl, ?_⟩
                exact ((((below_step (unhide BW) hB3).setCell (by simp <;> omega) _).setCell (by simp <;> omega) _).setCell (by simp <;> omega) _)

              · by_cases o10 : op = 10
                · subst o10
                  by_cases y0' : y = 0
                  · have HV : Hid (Val.null = r) := by have := unhide E2; rw [reck, if_neg (by decide), if_neg (by decide), if_neg (by decide), if_pos rfl, if_pos y0'] at this; exact this
                    clear E2
                    go_wp2_with (first
                      | (go_at_call 72; refine (none_any _).mono ?_; rintro e w3 ⟨rfl, hB3⟩; obtain ⟨q0, q1, q2, q3, q4, q5⟩ := (unhide ZX).later hB3; rw [Val.open_]; simp only [Val.null]))
                    refine bodyPost_ret (v := Val.null.v) (by simp [results, Tryz.results104, go_sem, Val.v, Val.null, *]) rfl ⟨by rw [unhide HV], ?_⟩
                    exact ((((below_step (unhide BW) hB3).setCell (by simp <;> omega) _).setCell (by simp <;> omega) _).setCell (by simp <;> omega) _)

                  · have HV : Hid (optV (if fitsB (x.tdiv y) then some (x.tdiv y) else none) = r) := by have := unhide E2; rw [reck, if_neg (by decide), if_neg (by decide), if_neg (by decide), if_pos rfl, if_neg y0'] at this; exact this
                    have FZ : Fits (x.tdiv y) := fits_div (unhide IX)
                    have HVAL : Hid (∀ W v, LongV W v (x.tdiv y) → Calls Tryz.prog 155 #[v] W fun e w' => e = .returned r.v ∧ Below W.heap.size W w') := fun W v hv => by
                      have := value_v v (x.tdiv y) W FZ hv
                      rw [unhide HV] at this
                      exact this
                    clear HV E2
                    go_wp2_with (first
                      | (go_at_call 158; refine (divided_v _ _ x y _ (unhide IX) (unhide IY) y0' (unhide vx) (unhide vy)).mono ?_; rintro e w2 ⟨s2, t2, rfl, hs2, ht2, hb2⟩; have HS2 := hide hs2; obtain ⟨sa, sl, sc, us, rfl, _, _⟩ := hs2.parts; obtain ⟨ta, tl, tc, ut, rfl, _, _⟩ := ht2.parts)
                      | (go_at_call 155; refine (unhide HVAL _ _ ((unhide HS2).later (below_alloc (below_alloc (Below.refl _ w2) _) _))).mono ?_; rintro e w3 ⟨rfl, hb3⟩; have hB3 := below_step (below_step hb2 (below_alloc (below_alloc (Below.refl _ w2) _) _)) hb3; obtain ⟨q0, q1, q2, q3, q4, q5⟩ := (unhide ZX).later hB3; rw [Val.open_]))
                    refine bodyPost_ret (v := r.v) (by simp [results, Tryz.results104, go_sem, Val.v, *]) rfl ⟨rfl, ?_⟩
                    exact ((((below_step (unhide BW) hB3).setCell (by simp <;> omega) _).setCell (by simp <;> omega) _).setCell (by simp <;> omega) _)

                · by_cases o11 : op = 11
                  · subst o11
                    by_cases y0' : y = 0
                    · have HV : Hid (Val.null = r) := by have := unhide E2; rw [reck, if_neg (by decide), if_neg (by decide), if_neg (by decide), if_neg (by decide), if_pos rfl, if_pos y0'] at this; exact this
                      clear E2
                      go_wp2_with (first
                        | (go_at_call 72; refine (none_any _).mono ?_; rintro e w3 ⟨rfl, hB3⟩; obtain ⟨q0, q1, q2, q3, q4, q5⟩ := (unhide ZX).later hB3; rw [Val.open_]; simp only [Val.null]))
                      refine bodyPost_ret (v := Val.null.v) (by simp [results, Tryz.results104, go_sem, Val.v, Val.null, *]) rfl ⟨by rw [unhide HV], ?_⟩
                      exact ((((below_step (unhide BW) hB3).setCell (by simp <;> omega) _).setCell (by simp <;> omega) _).setCell (by simp <;> omega) _)

                    · have HV : Hid (optV (if fitsB (x.tmod y) then some (x.tmod y) else none) = r) := by have := unhide E2; rw [reck, if_neg (by decide), if_neg (by decide), if_neg (by decide), if_neg (by decide), if_pos rfl, if_neg y0'] at this; rw [if_pos (fits_mod (unhide IX)).1]; exact this
                      have FZ : Fits (x.tmod y) := (fits_mod (unhide IX)).2
                      have HVAL : Hid (∀ W v, LongV W v (x.tmod y) → Calls Tryz.prog 155 #[v] W fun e w' => e = .returned r.v ∧ Below W.heap.size W w') := fun W v hv => by
                        have := value_v v (x.tmod y) W FZ hv
                        rw [unhide HV] at this
                        exact this
                      clear HV E2
                      go_wp2_with (first
                        | (go_at_call 158; refine (divided_v _ _ x y _ (unhide IX) (unhide IY) y0' (unhide vx) (unhide vy)).mono ?_; rintro e w2 ⟨s2, t2, rfl, hs2, ht2, hb2⟩; have HS2 := hide ht2; obtain ⟨sa, sl, sc, us, rfl, _, _⟩ := hs2.parts; obtain ⟨ta, tl, tc, ut, rfl, _, _⟩ := ht2.parts)
                        | (go_at_call 155; refine (unhide HVAL _ _ ((unhide HS2).later (below_alloc (below_alloc (Below.refl _ w2) _) _))).mono ?_; rintro e w3 ⟨rfl, hb3⟩; have hB3 := below_step (below_step hb2 (below_alloc (below_alloc (Below.refl _ w2) _) _)) hb3; obtain ⟨q0, q1, q2, q3, q4, q5⟩ := (unhide ZX).later hB3; rw [Val.open_]))
                      refine bodyPost_ret (v := r.v) (by simp [results, Tryz.results104, go_sem, Val.v, *]) rfl ⟨rfl, ?_⟩
                      exact ((((below_step (unhide BW) hB3).setCell (by simp <;> omega) _).setCell (by simp <;> omega) _).setCell (by simp <;> omega) _)

                  · have HV : Hid (Val.null = r) := by have := unhide E2; rw [reck, if_neg o7, if_neg o8, if_neg o9, if_neg o10, if_neg o11] at this; exact this
                    clear E2
                    go_wp2_with (first
                      | (go_at_call 72; refine (none_any _).mono ?_; rintro e w3 ⟨rfl, hB3⟩; obtain ⟨q0, q1, q2, q3, q4, q5⟩ := (unhide ZX).later hB3; rw [Val.open_]; simp only [Val.null]))
                    refine bodyPost_ret (v := Val.null.v) (by simp [results, Tryz.results104, go_sem, Val.v, Val.null, *]) rfl ⟨by rw [unhide HV], ?_⟩
                    exact ((((below_step (unhide BW) hB3).setCell (by simp <;> omega) _).setCell (by simp <;> omega) _).setCell (by simp <;> omega) _)

      · have kb' : (cb.k == 1) = false := by simpa using kb
        have kb2 : (cb.k != 1) = true := by simpa using kb
        have E : Hid (Val.null = r) := by have := unhide HR; rw [kb', Bool.and_false] at this; exact this
        clear HR kb hBA hBB
        go_wp2_with (go_at_call 72; refine (none_any _).mono ?_; rintro e w2 ⟨rfl, hb2⟩; obtain ⟨y0, y1, y2, y3, y4, y5⟩ := hZ.later hb2; rw [Val.open_]; simp only [Val.null])
        refine bodyPost_ret (v := Val.null.v) (by simp [results, Tryz.results104, go_sem, Val.v, Val.null, *]) rfl ⟨by rw [unhide E], ?_⟩
        exact ((((below_step hbel hb2).setCell (by simp <;> omega) _).setCell (by simp <;> omega) _).setCell (by simp <;> omega) _)
    · have ka' : (ca.k == 1) = false := by simpa using ka
      have ka2 : (ca.k != 1) = true := by simpa using ka
      have E : Hid (Val.null = r) := by have := unhide HR; rw [ka', Bool.false_and] at this; exact this
      clear HR ka hBA hBB
      go_wp2_with (go_at_call 72; refine (none_any _).mono ?_; rintro e w2 ⟨rfl, hb2⟩; obtain ⟨y0, y1, y2, y3, y4, y5⟩ := hZ.later hb2; rw [Val.open_]; simp only [Val.null])
      refine bodyPost_ret (v := Val.null.v) (by simp [results, Tryz.results104, go_sem, Val.v, Val.null, *]) rfl ⟨by rw [unhide E], ?_⟩
      exact ((((below_step hbel hb2).setCell (by simp <;> omega) _).setCell (by simp <;> omega) _).setCell (by simp <;> omega) _)
end Go.Proofs.YtmjeiepljlepbacGreat

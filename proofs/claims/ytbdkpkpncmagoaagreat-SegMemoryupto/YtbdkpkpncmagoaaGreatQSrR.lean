import Derived.Test.YtbdkpkpncmagoaaGreatQSrO
import Derived.Test.YtbdkpkpncmagoaaGreatRdQ
set_option linter.unusedSimpArgs false
set_option linter.unusedVariables false
set_option maxRecDepth 100000
namespace Go.Proofs.YtbdkpkpncmagoaaGreat
open Go.RowKit Go.Sort

theorem own_some {w : World} {b : Nat} {v : Value} {xs : List Val} (h : OwnV w b v xs) (hx : xs ≠ []) : ∃ g cap, v = .slice (some ⟨g, 0, none⟩) xs.length cap := by
  rcases h.2 with ⟨_, h0⟩ | ⟨g, cap, cur, e, _⟩
  · exact absurd (List.eq_nil_of_length_eq_zero h0) hx
  · exact ⟨g, cap, e⟩
theorem HS.cells {w wr : World} {H g cap : Nat} {rows : Int} {lv hv nv : Value} {L G : List Val} {N : List Int} {x y z : Val} (h : HS w wr H rows lv hv nv (.slice (some ⟨g, 0, none⟩) 3 cap) L G N [x, y, z]) :
    (wr.cell? ⟨H, 1, none⟩ = some lv ∧ wr.cell? ⟨g, 0, none⟩ = some (.int .i64 x.k) ∧ wr.cell? ⟨g, 1, none⟩ = some (.int .i64 x.n) ∧ wr.cell? ⟨g, 2, none⟩ = some (.string x.s)) ∧
    (wr.cell? ⟨H, 2, none⟩ = some hv ∧ wr.cell? ⟨g, 3, none⟩ = some (.int .i64 y.k) ∧ wr.cell? ⟨g, 4, none⟩ = some (.int .i64 y.n) ∧ wr.cell? ⟨g, 5, none⟩ = some (.string y.s)) ∧
    (wr.cell? ⟨H, 3, none⟩ = some nv ∧ wr.cell? ⟨g, 7, none⟩ = some (.int .i64 z.n)) := by
  obtain ⟨⟨_, h1, h2, h3⟩, _⟩ := hd4_facts h.h
  obtain ⟨a0, a1, a2⟩ := says_at (xs := [x, y, z]) h.s (i := 0) rfl
  obtain ⟨b0, b1, b2⟩ := says_at (xs := [x, y, z]) h.s (i := 1) rfl
  obtain ⟨c0, c1, c2⟩ := says_at (xs := [x, y, z]) h.s (i := 2) rfl
  exact ⟨⟨h1, a0, a1, a2⟩, ⟨h2, b0, b1, b2⟩, h3, c1⟩
theorem own_four {w : World} {g t n : Nat} {F : Nat → Value} {base e size : Nat} {v : Value} {m : Nat} {xs : List Value} (ho : w.ownsRow base e size v m xs) (h : w.rowIs g t n F) (hte : t ≠ e) (u0 u1 u2 u3 : Value) :
    ((((w.setCell ⟨g, 0, none⟩ u0).setCell ⟨g, 1, none⟩ u1).setCell ⟨g, 2, none⟩ u2).setCell ⟨g, 3, none⟩ u3).ownsRow base e size v m xs :=
  own_set (own_set (own_set (own_set ho h hte) (h.set 0 u0) hte) ((h.set 0 u0).set 1 u1) hte) (((h.set 0 u0).set 1 u1).set 2 u2) hte
set_option maxHeartbeats 4000000 in
set_option maxRecDepth 100000 in
theorem head_yes {l : List UInt8} (hl : l.length ≤ 140737488300000) {Xs : List Vc} {ps : List (ByteArray × ByteArray)} (h : Seg l Xs ps) (w : World) : Calls Tryz.prog 11 #[.string (bs l)] w fun e w' => HeadQ w w' Xs (layR l) e := by
  obtain ⟨i4, hi4, z40, z41, z42⟩ := info_parts Tryz.info42
  obtain ⟨i3, hi3, z30, z31, z32⟩ := info_parts Tryz.info3'
  have HO := hide (fun W => sop_yes hl h W)
  have hn := h.lay.len
  have h32 := h.lay.n2
  rw [← hn] at h32
  rw [← hn, h.zones] at HO
  have HR : Hid (∀ (j : Nat) (X : Vc), Xs[j]? = some X → ∀ W, Calls Tryz.prog 32 #[.string (zP X)] W fun e w' => ∃ v, e = .returned (.tuple #[v, .int .i64 0]) ∧ OwnV w' W.heap.size v [lowX X, highX X, .num (nulX X : Nat)] ∧ Below W.heap.size W w') := fun j X hX W => by
    obtain ⟨u1, u2⟩ := h.lay.at_ j X hX
    have hz := (un_fit u1 u2).zone
    refine (crow_any (zP X) W (by omega)).mono ?_
    rintro e w' ⟨hg, hb⟩
    rw [(un_zone u1).1] at hg
    obtain ⟨v, he, ho⟩ := hg
    exact ⟨v, he, ho, hb⟩
  obtain ⟨rows, hrows⟩ : ∃ rows, layR l = rows := ⟨_, rfl⟩
  rw [hrows] at HO ⊢
  obtain ⟨n, hnn⟩ : ∃ n, Xs.length = n := ⟨_, rfl⟩
  rw [hnn] at HO h32
  have HNN := hide hnn
  have HA := hide (hd4_alloc w 0 noSl noSl noSl)
  clear h hn hnn hrows
  have i32 : (n : Int) ≤ 32 := by omega
  go_enter Tryz.func11, Tryz.ntmps11
  go_wp2_with (go_at_call 30; refine (unhide HO _).mono ?_; rintro _ w2 ⟨Cs, az, ac, cz, cc, rfl, -, hz, -, -, hb⟩; have HZ := hide hz; have HA1 := hide (rowIs_later (unhide HA) hb); have HB := hide (below_step (below_alloc (Below.refl _ w) _) hb); clear hz hb)
  have hH := hd4_alloc (w2.alloc (.cells #[.int .i64 (rows : Int), .slice az n cz, .slice ac n cc] 67)) (rows : Int) noSl noSl noSl
  have hbb := below_alloc (below_alloc (Below.refl _ w2) (.cells #[.int .i64 (rows : Int), .slice az n cz, .slice ac n cc] 67)) (.cells #[.int .i64 (rows : Int), .slice none 0 0, .slice none 0 0, .slice none 0 0] 36)
  rw [show (w2.alloc (.cells #[.int .i64 (rows : Int), .slice az n cz, .slice ac n cc] 67)).heap.size = w2.heap.size + 1 by simp] at hH
  obtain ⟨w3, hw3⟩ : ∃ w3, (w2.alloc (.cells #[.int .i64 (rows : Int), .slice az n cz, .slice ac n cc] 67)).alloc (.cells #[.int .i64 (rows : Int), .slice none 0 0, .slice none 0 0, .slice none 0 0] 36) = w3 := ⟨_, rfl⟩
  rw [hw3] at hH hbb ⊢
  clear hw3
  obtain ⟨H, hHH⟩ : ∃ H, w2.heap.size + 1 = H := ⟨_, rfl⟩
  rw [hHH] at hH ⊢
  have HST : Hid (HS w2 w3 H rows noSl noSl noSl noSl [] [] [] []) := ⟨hH, World.ownsRow_nil _ _ _ _, World.ownsRow_nil _ _ _ _, World.ownsRow_nil _ _ _ _, World.ownsRow_nil _ _ _ _, .inl rfl, .inl rfl, .inl rfl, .inl rfl, hbb, by omega⟩
  clear hH hbb hHH HO HA
  go_loopw [26] (fun s wr => ∃ (j : Nat) (lv hv nv sv : Value) (Z : List Val), j ≤ n ∧ s = .int .i64 (j : Int) ∧ Hid (HS w2 wr H rows lv hv nv sv ((Xs.take j).map lowX) ((Xs.take j).map highX) ((Xs.take j).map fun X => ((nulX X : Nat) : Int)) Z)) (fun s _ => n - (intOf s).toNat)
  case atStart => exact ⟨0, _, _, _, _, _, Nat.zero_le _, rfl, HST⟩
  case round =>
    obtain ⟨j, lv, hv, nv, sv, Z, hj, rfl, HJ⟩ := hrel
    clear HST
    by_cases hjn : j < n
    · have ij : (j : Int) < (n : Int) := by omega
      have hXl : j < Xs.length := by rw [unhide HNN]; exact hjn
      obtain ⟨X, hX⟩ : ∃ X, Xs[j]? = some X := ⟨_, List.getElem?_eq_getElem hXl⟩
      have hTK : Xs.take (j + 1) = Xs.take j ++ [X] := by
        obtain ⟨h1, rfl⟩ := List.getElem?_eq_some_iff.1 hX
        exact List.take_succ_eq_append_getElem h1
      have HTK := hide hTK
      obtain ⟨bz, oz, rfl, qz⟩ := lis_get ((unhide HZ).later (unhide HJ).bel) (show ((Xs.map zP).map Value.string)[j]? = some (.string (zP X)) by simp [hX])
      have HRR := hide (unhide HR j X hX)
      have hlen : (Xs.take j).length = j := by rw [List.length_take]; omega
      obtain ⟨Ls, hLs⟩ : ∃ Ls, (Xs.take j).map lowX = Ls := ⟨_, rfl⟩
      obtain ⟨Gs, hGs⟩ : ∃ Gs, (Xs.take j).map highX = Gs := ⟨_, rfl⟩
      obtain ⟨Ns, hNs⟩ : ∃ Ns, (Xs.take j).map (fun X => ((nulX X : Nat) : Int)) = Ns := ⟨_, rfl⟩
      have HaL : Hid (Ls.length ≤ 32) := by show _ ≤ _; rw [← hLs, List.length_map]; omega
      have HbL : Hid (Gs.length ≤ 32) := by show _ ≤ _; rw [← hGs, List.length_map]; omega
      have HcL : Hid (Ns.length ≤ 32) := by show _ ≤ _; rw [← hNs, List.length_map]; omega
      have HEQ := hide (And.intro hLs (And.intro hGs hNs))
      rw [hLs, hGs, hNs] at HJ
      obtain ⟨L, hL⟩ : ∃ L, lowX X = L := ⟨_, rfl⟩
      obtain ⟨Gg, hG⟩ : ∃ Gg, highX X = Gg := ⟨_, rfl⟩
      obtain ⟨N, hN⟩ : ∃ N, nulX X = N := ⟨_, rfl⟩
      have HLGN := hide (And.intro hL (And.intro hG hN))
      rw [hL, hG, hN] at HRR
      clear hTK hX hXl hlen hLs hGs hNs hL hG hN
      go_upto_region 9 with (go_at_call 32; refine (unhide HRR _).mono ?_; rintro _ w4 ⟨v4, rfl, ho4, hb4⟩; obtain ⟨g4, cap4, rfl⟩ := own_some ho4 (by simp); have HJ4 := hide ((unhide HJ).says hb4 ho4); clear ho4 hb4)
      go_upto_region 9 with fail
      have Sa : (fun w' : World => w'.cell? ⟨H, 1, none⟩ = some lv ∧ w'.cell? ⟨g4, 0, none⟩ = some (.int .i64 L.k) ∧ w'.cell? ⟨g4, 1, none⟩ = some (.int .i64 L.n) ∧ w'.cell? ⟨g4, 2, none⟩ = some (.string L.s)) w4.drew := ((unhide HJ4).later (Below.refl _ _).drew).cells.1
      refine wp_region_noPanic ?_
      refine wp_region_G (S := fun w' : World => w'.cell? ⟨H, 1, none⟩ = some lv ∧ w'.cell? ⟨g4, 0, none⟩ = some (.int .i64 L.k) ∧ w'.cell? ⟨g4, 1, none⟩ = some (.int .i64 L.n) ∧ w'.cell? ⟨g4, 2, none⟩ = some (.string L.s)) (k := 6) (by kernel_rfl) ?_
      refine anyG_takel (i := 0) (v := (.pointer (some ⟨H, 1, none⟩))) [1, 6] rfl (by kernel_rfl) (by kernel_rfl) (by kernel_rfl) (by kernel_rfl) (fun _ _ _ h => h) (Or.inl ⟨by rfl, fun w' hSw => ?_⟩) Sa ?_
      · dsimp only at hSw; go_simp
      try simp only [Act.put, List.setIfInBounds_toArray, List.set_cons_zero, List.set_cons_succ]
      refine anyG_takel (i := 1) (v := lv) [6] rfl (by kernel_rfl) (by kernel_rfl) (by kernel_rfl) (by kernel_rfl) (fun _ _ _ h => h) (Or.inl ⟨by rfl, fun w' hSw => ?_⟩) Sa ?_
      · dsimp only at hSw; go_simp
      try simp only [Act.put, List.setIfInBounds_toArray, List.set_cons_zero, List.set_cons_succ]
      refine anyG_takel (i := 2) (v := (.slice (some ⟨g4, 0, none⟩) 3 cap4)) [3, 4, 5, 6] rfl (by kernel_rfl) (by kernel_rfl) (by kernel_rfl) (by kernel_rfl) (fun _ _ _ h => h) (Or.inl ⟨by rfl, fun w' hSw => ?_⟩) Sa ?_
      · dsimp only at hSw; go_simp
      try simp only [Act.put, List.setIfInBounds_toArray, List.set_cons_zero, List.set_cons_succ]
      refine anyG_takel (i := 3) (v := (.pointer (some ⟨g4, 0, none⟩))) [4, 5, 6] rfl (by kernel_rfl) (by kernel_rfl) (by kernel_rfl) (by kernel_rfl) (fun _ _ _ h => h) (Or.inl ⟨by rfl, fun w' hSw => ?_⟩) Sa ?_
      · dsimp only at hSw; go_simp
      try simp only [Act.put, List.setIfInBounds_toArray, List.set_cons_zero, List.set_cons_succ]
      refine anyG_takel (i := 4) (v := (.agg #[.int .i64 L.k, .int .i64 L.n, .string L.s])) [5, 6] rfl (by kernel_rfl) (by kernel_rfl) (by kernel_rfl) (by kernel_rfl) (fun _ _ _ h => h) (Or.inl ⟨by rfl, fun w' hSw => ?_⟩) Sa ?_
      · dsimp only at hSw; go_simp
      try simp only [Act.put, List.setIfInBounds_toArray, List.set_cons_zero, List.set_cons_succ]
      clear Sa
      refine anyG_one (i := 5) (by kernel_rfl) ?_
      refine wpOp_lit rfl (by rfl) fun K hK => ?_
      go_simp
      refine unhide hK _ _ ⟨fun _ => ((unhide HJ4).later ((Below.refl _ _).drew.alloc (Nat.le_refl _) _)).cells.1, ?_⟩
      clear hK K
      refine anyG_one (i := 6) (by kernel_rfl) ?_
      refine wpOp_lit rfl (by rfl) fun K hK => ?_
      refine wp_append_lies _ (.tmp 36) (.tmp 40) 34 (by rfl) w2.heap.size 42 i4 (.agg #[.int .i64 0, .int .i64 0, .string ⟨#[]⟩]) 3 32 Tryz.underlying34 hi4 z40 z41 z42 (by rfl) (by decide) lv Ls.length (Ls.flatMap c3) (by rfl) (World.ownsRow.alloc (World.ownsRow.drew (unhide HJ4).l) _) ⟨w4.heap.size, 0, none⟩ 1 1 (c3 L) (by rfl) (by rfl) (cells3_new w4.drew L) (c3_one _) (by decide) (by have := unhide HaL; unfold maxLen; omega) (by have := unhide HaL; omega) (by have := (unhide HJ4).bel.size; simp; omega) (w4.heap.size + 1) (by simp) ?_
      intro ga capa wa hown hgrow hat hlt
      have hrow := rowIs_grown ((unhide HJ4).h.drew.alloc _) hgrow (own_ne (unhide HJ4).h.drew (World.ownsRow.drew (unhide HJ4).l) (by decide))
      have qf : wa.frozen? ⟨H, 1, none⟩ = false := World.rowIs.frozen hrow 1
      have qc := World.rowIs.cell hrow (i := 1) (by decide)
      have HNa := hide (((unhide HJ4).later (Below.refl _ _).drew).low (x := L) hown hgrow (by rcases hat with e | e; exact .inl e.symm; exact .inr (by rw [e]; simp [Value.ownBlock])))
      clear hown hgrow hat hlt hrow
      refine unhide hK _ _ ⟨fun hh => absurd hh (by decide), ?_⟩
      clear hK K
      refine anyG_one (i := 7) (by kernel_rfl) ?_
      refine wpOp_lit rfl (by rfl) fun K hK => ?_
      go_simp
      refine unhide hK _ _ ⟨fun hh => absurd hh (by decide), ?_⟩
      clear hK K
      refine anyG_one (i := 8) (by kernel_rfl) ?_
      refine wpOp_lit rfl (by rfl) fun K hK => ?_
      go_simp
      refine unhide hK _ _ ⟨fun hh => absurd hh (by decide), ?_⟩
      clear hK K
      refine anyG_done (by kernel_rfl) ?_ _
      refine NoPanic.normal ?_
      clear qc qf HJ4
      obtain ⟨w5, hww⟩ : ∃ W, wa.setCell ⟨H, 1, none⟩ (.slice (some ⟨ga, 0, none⟩) (Ls.length + 1) capa) = W := ⟨_, rfl⟩
      rw [hww] at HNa ⊢
      clear hww
      go_upto_region 10 with fail
      have Sb : (fun w' : World => w'.cell? ⟨H, 2, none⟩ = some hv ∧ w'.cell? ⟨g4, 3, none⟩ = some (.int .i64 Gg.k) ∧ w'.cell? ⟨g4, 4, none⟩ = some (.int .i64 Gg.n) ∧ w'.cell? ⟨g4, 5, none⟩ = some (.string Gg.s)) w5.drew := ((unhide HNa).later (Below.refl _ _).drew).cells.2.1
      refine wp_region_noPanic ?_
      refine wp_region_G (S := fun w' : World => w'.cell? ⟨H, 2, none⟩ = some hv ∧ w'.cell? ⟨g4, 3, none⟩ = some (.int .i64 Gg.k) ∧ w'.cell? ⟨g4, 4, none⟩ = some (.int .i64 Gg.n) ∧ w'.cell? ⟨g4, 5, none⟩ = some (.string Gg.s)) (k := 6) (by kernel_rfl) ?_
      refine anyG_takel (i := 0) (v := (.pointer (some ⟨H, 2, none⟩))) [1, 6] rfl (by kernel_rfl) (by kernel_rfl) (by kernel_rfl) (by kernel_rfl) (fun _ _ _ h => h) (Or.inl ⟨by rfl, fun w' hSw => ?_⟩) Sb ?_
      · dsimp only at hSw; go_simp
      try simp only [Act.put, List.setIfInBounds_toArray, List.set_cons_zero, List.set_cons_succ]
      refine anyG_takel (i := 1) (v := hv) [6] rfl (by kernel_rfl) (by kernel_rfl) (by kernel_rfl) (by kernel_rfl) (fun _ _ _ h => h) (Or.inl ⟨by rfl, fun w' hSw => ?_⟩) Sb ?_
      · dsimp only at hSw; go_simp
      try simp only [Act.put, List.setIfInBounds_toArray, List.set_cons_zero, List.set_cons_succ]
      refine anyG_takel (i := 2) (v := (.slice (some ⟨g4, 0, none⟩) 3 cap4)) [3, 4, 5, 6] rfl (by kernel_rfl) (by kernel_rfl) (by kernel_rfl) (by kernel_rfl) (fun _ _ _ h => h) (Or.inl ⟨by rfl, fun w' hSw => ?_⟩) Sb ?_
      · dsimp only at hSw; go_simp
      try simp only [Act.put, List.setIfInBounds_toArray, List.set_cons_zero, List.set_cons_succ]
      refine anyG_takel (i := 3) (v := (.pointer (some ⟨g4, 3, none⟩))) [4, 5, 6] rfl (by kernel_rfl) (by kernel_rfl) (by kernel_rfl) (by kernel_rfl) (fun _ _ _ h => h) (Or.inl ⟨by rfl, fun w' hSw => ?_⟩) Sb ?_
      · dsimp only at hSw; go_simp
      try simp only [Act.put, List.setIfInBounds_toArray, List.set_cons_zero, List.set_cons_succ]
      refine anyG_takel (i := 4) (v := (.agg #[.int .i64 Gg.k, .int .i64 Gg.n, .string Gg.s])) [5, 6] rfl (by kernel_rfl) (by kernel_rfl) (by kernel_rfl) (by kernel_rfl) (fun _ _ _ h => h) (Or.inl ⟨by rfl, fun w' hSw => ?_⟩) Sb ?_
      · dsimp only at hSw; go_simp
      try simp only [Act.put, List.setIfInBounds_toArray, List.set_cons_zero, List.set_cons_succ]
      clear Sb
      refine anyG_one (i := 5) (by kernel_rfl) ?_
      refine wpOp_lit rfl (by rfl) fun K hK => ?_
      go_simp
      refine unhide hK _ _ ⟨fun _ => ((unhide HNa).later ((Below.refl _ _).drew.alloc (Nat.le_refl _) _)).cells.2.1, ?_⟩
      clear hK K
      refine anyG_one (i := 6) (by kernel_rfl) ?_
      refine wpOp_lit rfl (by rfl) fun K hK => ?_
      refine wp_append_lies _ (.tmp 44) (.tmp 48) 34 (by rfl) w2.heap.size 42 i4 (.agg #[.int .i64 0, .int .i64 0, .string ⟨#[]⟩]) 3 32 Tryz.underlying34 hi4 z40 z41 z42 (by rfl) (by decide) hv Gs.length (Gs.flatMap c3) (by rfl) (World.ownsRow.alloc (World.ownsRow.drew (unhide HNa).g) _) ⟨w5.heap.size, 0, none⟩ 1 1 (c3 Gg) (by rfl) (by rfl) (cells3_new w5.drew Gg) (c3_one _) (by decide) (by have := unhide HbL; unfold maxLen; omega) (by have := unhide HbL; omega) (by have := (unhide HNa).bel.size; simp; omega) (w5.heap.size + 1) (by simp) ?_
      intro gb capb wb hown hgrow hat hlt
      have hrow := rowIs_grown ((unhide HNa).h.drew.alloc _) hgrow (own_ne (unhide HNa).h.drew (World.ownsRow.drew (unhide HNa).g) (by decide))
      have qf : wb.frozen? ⟨H, 2, none⟩ = false := World.rowIs.frozen hrow 2
      have qc := World.rowIs.cell hrow (i := 2) (by decide)
      have HNb := hide (((unhide HNa).later (Below.refl _ _).drew).high (x := Gg) hown hgrow (by rcases hat with e | e; exact .inl e.symm; exact .inr (by rw [e]; simp [Value.ownBlock])))
      clear hown hgrow hat hlt hrow
      refine unhide hK _ _ ⟨fun hh => absurd hh (by decide), ?_⟩
      clear hK K
      refine anyG_one (i := 7) (by kernel_rfl) ?_
      refine wpOp_lit rfl (by rfl) fun K hK => ?_
      go_simp
      refine unhide hK _ _ ⟨fun hh => absurd hh (by decide), ?_⟩
      clear hK K
      refine anyG_one (i := 8) (by kernel_rfl) ?_
      refine wpOp_lit rfl (by rfl) fun K hK => ?_
      go_simp
      refine unhide hK _ _ ⟨fun hh => absurd hh (by decide), ?_⟩
      clear hK K
      refine anyG_done (by kernel_rfl) ?_ _
      refine NoPanic.normal ?_
      clear qc qf HNa
      obtain ⟨w6, hww⟩ : ∃ W, wb.setCell ⟨H, 2, none⟩ (.slice (some ⟨gb, 0, none⟩) (Gs.length + 1) capb) = W := ⟨_, rfl⟩
      rw [hww] at HNb ⊢
      clear hww
      go_upto_region 11 with fail
      have Sc : (fun w' : World => w'.cell? ⟨H, 3, none⟩ = some nv ∧ w'.cell? ⟨g4, 7, none⟩ = some (.int .i64 ((N : Nat) : Int))) w6.drew := ((unhide HNb).later (Below.refl _ _).drew).cells.2.2
      refine wp_region_noPanic ?_
      refine wp_region_G (S := fun w' : World => w'.cell? ⟨H, 3, none⟩ = some nv ∧ w'.cell? ⟨g4, 7, none⟩ = some (.int .i64 ((N : Nat) : Int))) (k := 7) (by kernel_rfl) ?_
      refine anyG_takel (i := 0) (v := (.pointer (some ⟨H, 3, none⟩))) [1, 7] rfl (by kernel_rfl) (by kernel_rfl) (by kernel_rfl) (by kernel_rfl) (fun _ _ _ h => h) (Or.inl ⟨by rfl, fun w' hSw => ?_⟩) Sc ?_
      · dsimp only at hSw; go_simp
      try simp only [Act.put, List.setIfInBounds_toArray, List.set_cons_zero, List.set_cons_succ]
      refine anyG_takel (i := 1) (v := nv) [7] rfl (by kernel_rfl) (by kernel_rfl) (by kernel_rfl) (by kernel_rfl) (fun _ _ _ h => h) (Or.inl ⟨by rfl, fun w' hSw => ?_⟩) Sc ?_
      · dsimp only at hSw; go_simp
      try simp only [Act.put, List.setIfInBounds_toArray, List.set_cons_zero, List.set_cons_succ]
      refine anyG_takel (i := 2) (v := (.slice (some ⟨g4, 0, none⟩) 3 cap4)) [3, 4, 5, 6, 7] rfl (by kernel_rfl) (by kernel_rfl) (by kernel_rfl) (by kernel_rfl) (fun _ _ _ h => h) (Or.inl ⟨by rfl, fun w' hSw => ?_⟩) Sc ?_
      · dsimp only at hSw; go_simp
      try simp only [Act.put, List.setIfInBounds_toArray, List.set_cons_zero, List.set_cons_succ]
      refine anyG_takel (i := 3) (v := (.pointer (some ⟨g4, 6, none⟩))) [4, 5, 6, 7] rfl (by kernel_rfl) (by kernel_rfl) (by kernel_rfl) (by kernel_rfl) (fun _ _ _ h => h) (Or.inl ⟨by rfl, fun w' hSw => ?_⟩) Sc ?_
      · dsimp only at hSw; go_simp
      try simp only [Act.put, List.setIfInBounds_toArray, List.set_cons_zero, List.set_cons_succ]
      refine anyG_takel (i := 4) (v := (.pointer (some ⟨g4, 7, none⟩))) [5, 6, 7] rfl (by kernel_rfl) (by kernel_rfl) (by kernel_rfl) (by kernel_rfl) (fun _ _ _ h => h) (Or.inl ⟨by rfl, fun w' hSw => ?_⟩) Sc ?_
      · dsimp only at hSw; go_simp
      try simp only [Act.put, List.setIfInBounds_toArray, List.set_cons_zero, List.set_cons_succ]
      refine anyG_takel (i := 5) (v := (.int .i64 ((N : Nat) : Int))) [6, 7] rfl (by kernel_rfl) (by kernel_rfl) (by kernel_rfl) (by kernel_rfl) (fun _ _ _ h => h) (Or.inl ⟨by rfl, fun w' hSw => ?_⟩) Sc ?_
      · dsimp only at hSw; go_simp
      try simp only [Act.put, List.setIfInBounds_toArray, List.set_cons_zero, List.set_cons_succ]
      clear Sc
      refine anyG_one (i := 6) (by kernel_rfl) ?_
      refine wpOp_lit rfl (by rfl) fun K hK => ?_
      go_simp
      refine unhide hK _ _ ⟨fun _ => ((unhide HNb).later ((Below.refl _ _).drew.alloc (Nat.le_refl _) _)).cells.2.2, ?_⟩
      clear hK K
      refine anyG_one (i := 7) (by kernel_rfl) ?_
      refine wpOp_lit rfl (by rfl) fun K hK => ?_
      refine wp_append_lies _ (.tmp 52) (.tmp 57) 22 (by rfl) w2.heap.size 3 i3 (.int .i64 0) 1 8 Tryz.underlying22 hi3 z30 z31 z32 (by rfl) (by decide) nv Ns.length (Ns.map (Value.int .i64)) (by rfl) (World.ownsRow.alloc (World.ownsRow.drew (unhide HNb).n) _) ⟨w6.heap.size, 0, none⟩ 1 1 [.int .i64 ((N : Nat) : Int)] (by rfl) (by rfl) (cell_one_new _ _ _) (by intro u hu; simp at hu; subst hu; rfl) (by decide) (by have := unhide HcL; unfold maxLen; omega) (by have := unhide HcL; omega) (by have := (unhide HNb).bel.size; simp; omega) (w6.heap.size + 1) (by simp) ?_
      intro gc capc wc hown hgrow hat hlt
      have hrow := rowIs_grown ((unhide HNb).h.drew.alloc _) hgrow (own_ne (unhide HNb).h.drew (World.ownsRow.drew (unhide HNb).n) (by decide))
      have qf : wc.frozen? ⟨H, 3, none⟩ = false := World.rowIs.frozen hrow 3
      have qc := World.rowIs.cell hrow (i := 3) (by decide)
      have HNc := hide (((unhide HNb).later (Below.refl _ _).drew).nul (x := ((N : Nat) : Int)) hown hgrow)
      clear hown hgrow hat hlt hrow
      refine unhide hK _ _ ⟨fun hh => absurd hh (by decide), ?_⟩
      clear hK K
      refine anyG_one (i := 8) (by kernel_rfl) ?_
      refine wpOp_lit rfl (by rfl) fun K hK => ?_
      go_simp
      refine unhide hK _ _ ⟨fun hh => absurd hh (by decide), ?_⟩
      clear hK K
      refine anyG_one (i := 9) (by kernel_rfl) ?_
      refine wpOp_lit rfl (by rfl) fun K hK => ?_
      go_simp
      refine unhide hK _ _ ⟨fun hh => absurd hh (by decide), ?_⟩
      clear hK K
      refine anyG_done (by kernel_rfl) ?_ _
      refine NoPanic.normal ?_
      clear qc qf HNb
      obtain ⟨w7, hww⟩ : ∃ W, wc.setCell ⟨H, 3, none⟩ (.slice (some ⟨gc, 0, none⟩) (Ns.length + 1) capc) = W := ⟨_, rfl⟩
      rw [hww] at HNc ⊢
      clear hww
      clear HRR HJ
      go_wp2
      go_roundw
      case rel =>
        refine ⟨j + 1, .slice (some ⟨ga, 0, none⟩) (Ls.length + 1) capa, .slice (some ⟨gb, 0, none⟩) (Gs.length + 1) capb, .slice (some ⟨gc, 0, none⟩) (Ns.length + 1) capc, .slice (some ⟨g4, 0, none⟩) 3 cap4, [L, Gg, .num ((N : Nat) : Int)], by omega, by go_num, ?_⟩
        rw [unhide HTK]
        simp only [List.map_append, List.map_cons, List.map_nil]
        rw [(unhide HEQ).1, (unhide HEQ).2.1, (unhide HEQ).2.2, (unhide HLGN).1, (unhide HLGN).2.1, (unhide HLGN).2.2]
        exact HNc
      case measure => first | (simp [intOf]; omega) | (simp only [intOf]; omega)
    · have hjn2 : j = n := by omega
      subst hjn2
      have ij : ¬ (j : Int) < (j : Int) := by omega
      have htk : Xs.take j = Xs := by rw [← unhide HNN]; exact List.take_length
      rw [htk] at HJ
      have hA := rowIs_later (unhide HA1) (unhide HJ).bel
      obtain ⟨al, cl, rfl, _⟩ := ownV_row (unhide HJ).l
      obtain ⟨ah, ch, rfl, _⟩ := ownV_row (unhide HJ).g
      obtain ⟨an, cn, rfl⟩ := own_shape (unhide HJ).n
      obtain ⟨⟨g0, g1, g2, g3⟩, _⟩ := hd4_facts (unhide HJ).h
      obtain ⟨⟨a0, a1, a2, a3⟩, q0, q1, q2, q3⟩ := hd4_facts hA
      have hlt := hA.lt
      have HFIN := hide (And.intro (own_four (unhide HJ).l hA (by decide)) (And.intro (own_four (unhide HJ).g hA (by decide)) (own_four (unhide HJ).n hA (by decide))))
      have HBL := hide (below_step (unhide HB) (unhide HJ).bel)
      clear htk hA
      go_wp2
      refine bodyPost_ret (v := .tuple #[.agg #[.int .i64 (rows : Int), .slice al (Xs.map lowX).length cl, .slice ah (Xs.map highX).length ch, .slice an (Xs.map fun X => ((nulX X : Nat) : Int)).length cn], .int .i64 0]) (by simp [results, Tryz.results11, go_sem, *]) rfl ⟨_, _, _, w2.heap.size, rfl, unhide HFIN |>.1 _ _ _ _, unhide HFIN |>.2.1 _ _ _ _, ?_, ⟨(unhide HB).size, (unhide HJ).lh⟩, put4 (unhide HBL) _ _ _ _⟩
      have := (unhide HFIN).2.2 (.int .i64 (rows : Int)) (.slice al (Xs.map lowX).length cl) (.slice ah (Xs.map highX).length ch) (.slice an (Xs.map fun X => ((nulX X : Nat) : Int)).length cn)
      simp only [List.length_map, List.map_map] at this ⊢
      exact this
end Go.Proofs.YtbdkpkpncmagoaaGreat
set_option linter.unusedSimpArgs false
set_option linter.unusedVariables false
set_option maxRecDepth 100000
namespace Go.Proofs.YtbdkpkpncmagoaaGreat
open Go.RowKit Go.Sort

end Go.Proofs.YtbdkpkpncmagoaaGreat
set_option linter.unusedSimpArgs false
set_option linter.unusedVariables false
set_option maxRecDepth 100000
namespace Go.Proofs.YtbdkpkpncmagoaaGreat
open Go.RowKit Go.Sort

/-- The columns that are picked so far, in a block of the call's own; they lay there ahead of it. -/
structure DInv (w0 w : World) (g n : Nat) (Cs : List (Vc × Sl)) : Prop where
  bel : Below w0.heap.size w0 w
  ge : w0.heap.size ≤ g
  row : ∃ F, w.rowIs g 49 (n * 4) F ∧ ∀ (i : Nat) (c : Vc × Sl), Cs[i]? = some c → F (i * 4) = .int .i64 c.1.k ∧ F (i * 4 + 1) = .slice c.2.a1 c.1.nl.length c.2.c1 ∧ F (i * 4 + 2) = .slice c.2.a2 c.1.ns.length c.2.c2 ∧ F (i * 4 + 3) = .slice c.2.a3 c.1.ss.length c.2.c3
  vec : ∀ c ∈ Cs, VecAt w0 c.1 c.2
theorem DInv.start {w0 w : World} (h : Below w0.heap.size w0 w) (n : Nat) (z : Array Value) : DInv w0 (w.alloc (.cells (madeCells z (n * 4)) 49)) w.heap.size n [] := by
  obtain ⟨F, hF⟩ := rowIs_any w (madeCells z (n * 4)) 49
  rw [size_madeCells] at hF
  exact ⟨below_alloc h _, h.size, ⟨F, hF, fun i c hc => by simp at hc⟩, fun c hc => by simp at hc⟩
theorem DInv.step {w0 w : World} {g n : Nat} {Cs : List (Vc × Sl)} {X : Vc} {p : Sl} (h : DInv w0 w g n Cs) (hv : VecAt w0 X p) {k : Nat} (hk : Cs.length = k) :
    DInv w0 ((((w.setCell ⟨g, k * 4, none⟩ (.int .i64 X.k)).setCell ⟨g, k * 4 + 1, none⟩ (.slice p.a1 X.nl.length p.c1)).setCell ⟨g, k * 4 + 2, none⟩ (.slice p.a2 X.ns.length p.c2)).setCell ⟨g, k * 4 + 3, none⟩ (.slice p.a3 X.ss.length p.c3)) g n (Cs ++ [(X, p)]) := by
  obtain ⟨F, hF, hF'⟩ := h.row
  refine ⟨(((h.bel.setCell h.ge _).setCell h.ge _).setCell h.ge _).setCell h.ge _, h.ge, ⟨_, (((hF.set _ _).set _ _).set _ _).set _ _, fun i c hc => ?_⟩, fun c hc => ?_⟩
  · by_cases e : i < k
    · rw [List.getElem?_append_left (by omega)] at hc
      obtain ⟨a0, a1, a2, a3⟩ := hF' i c hc
      refine ⟨?_, ?_, ?_, ?_⟩
      · rw [if_neg (by omega), if_neg (by omega), if_neg (by omega), if_neg (by omega), a0]
      · rw [if_neg (by omega), if_neg (by omega), if_neg (by omega), if_neg (by omega), a1]
      · rw [if_neg (by omega), if_neg (by omega), if_neg (by omega), if_neg (by omega), a2]
      · rw [if_neg (by omega), if_neg (by omega), if_neg (by omega), if_neg (by omega), a3]
    · have e2 : i = k := by
        have := (List.getElem?_eq_some_iff.1 hc).1
        simp at this
        omega
      subst e2
      rw [List.getElem?_append_right (by omega), hk] at hc
      simp at hc
      subst hc
      refine ⟨?_, ?_, ?_, ?_⟩ <;> simp
  · rcases List.mem_append.1 hc with m | m
    · exact h.vec c m
    · simp at m; subst m; exact hv
theorem DInv.cols {w0 w : World} {g n : Nat} {Cs : List (Vc × Sl)} (h : DInv w0 w g n Cs) (hn : Cs.length = n) : ColsAt w (some ⟨g, 0, none⟩) Cs := by
  obtain ⟨F, hF, hF'⟩ := h.row
  refine ⟨.inr ⟨g, 0, rfl, fun i c hc => ?_⟩, fun c hc => (h.vec c hc).later h.bel⟩
  have hi := (List.getElem?_eq_some_iff.1 hc).1
  obtain ⟨a0, a1, a2, a3⟩ := hF' i c hc
  refine ⟨?_, ?_, ?_, ?_⟩
  · rw [Nat.zero_add, hF.cell (by omega), a0]
  · rw [Nat.zero_add, hF.cell (by omega), a1]
  · rw [Nat.zero_add, hF.cell (by omega), a2]
  · rw [Nat.zero_add, hF.cell (by omega), a3]
theorem DInv.cells {w0 w : World} {g n k : Nat} {Cs : List (Vc × Sl)} (h : DInv w0 w g n Cs) (hk : k < n) : ∃ v0 v1 v2 v3, w.cell? ⟨g, k * 4, none⟩ = some v0 ∧ w.cell? ⟨g, k * 4 + 1, none⟩ = some v1 ∧ w.cell? ⟨g, k * 4 + 2, none⟩ = some v2 ∧ w.cell? ⟨g, k * 4 + 3, none⟩ = some v3 ∧ w.frozen? ⟨g, k * 4, none⟩ = false ∧ w.frozen? ⟨g, k * 4 + 1, none⟩ = false ∧ w.frozen? ⟨g, k * 4 + 2, none⟩ = false ∧ w.frozen? ⟨g, k * 4 + 3, none⟩ = false := by
  obtain ⟨F, hF, hF'⟩ := h.row
  exact ⟨_, _, _, _, hF.cell (by omega), hF.cell (by omega), hF.cell (by omega), hF.cell (by omega), hF.frozen _, hF.frozen _, hF.frozen _, hF.frozen _⟩
/-- Read: is a number no column's? -/
def outC (n : Nat) (c : Int) : Bool := decide (c < 0) || decide ((n : Int) ≤ c)
/-- What Read answers of a segment. -/
def ReadQ (w w' : World) (Xs : List Vc) (rows : Nat) (cs : List Int) (e : Ending) : Prop :=
  (cs.any (outC Xs.length) = true ∧ e = .returned (.tuple #[.slice none 0 0, .int .i64 1]) ∧ Below w.heap.size w w') ∨
  (cs.any (outC Xs.length) = false ∧ cs = [] ∧ ∃ a c, e = .returned (.tuple #[.slice a rows c, .int .i64 0]) ∧ LisAt w' a (List.replicate rows (.slice none 0 0)) ∧ w'.ownsRow w.heap.size 34 1 (.slice a rows c) rows (List.replicate rows (.slice none 0 0)) ∧ Below w.heap.size w w') ∨
  (cs.any (outC Xs.length) = false ∧ cs ≠ [] ∧ ∃ (Ps : List (Vc × Sl)) (v : Value), Ps.length = cs.length ∧ (∀ (i : Nat) (c : Int) (q : Vc × Sl), cs[i]? = some c → Ps[i]? = some q → Xs[c.toNat]? = some q.1) ∧ e = .returned (.tuple #[v, .int .i64 (tabV Ps).2]) ∧ (∃ b, w.heap.size ≤ b ∧ RowsV w' v (tabV Ps).1 ∧ RowsO w' b v (tabV Ps).1.length) ∧ Below w.heap.size w w')
end Go.Proofs.YtbdkpkpncmagoaaGreat
set_option linter.unusedSimpArgs false
set_option linter.unusedVariables false
set_option maxRecDepth 100000
namespace Go.Proofs.YtbdkpkpncmagoaaGreat
open Go.RowKit Go.Sort

set_option maxHeartbeats 4000000 in
set_option maxRecDepth 100000 in
theorem sread_yes {l : List UInt8} (hl : l.length ≤ 140737488300000) {Xs : List Vc} {ps : List (ByteArray × ByteArray)} (h : Seg l Xs ps) (cs : List Int) (a : Option Addr) (cp : Nat) (w : World) (hcl : cs.length ≤ 1048576) (ha : LisAt w a (cs.map (Value.int .i64))) : Calls Tryz.prog 10 #[.string (bs l), .slice a cs.length cp] w fun e w' => ReadQ w w' Xs (layR l) cs e := by
  obtain ⟨j4, hj4, y40, y41, y42⟩ := info_parts Tryz.info49'
  obtain ⟨k7, hk7, x70, x71, x72⟩ := info_parts Tryz.info34
  have HO := hide (fun W => sop_yes hl h W)
  have hn := h.lay.len
  have hrow := h.lay.rows
  have HSM : Hid (∀ X ∈ Xs, small X ∧ X.nl.length ≤ 1048576) := fun X hX => ⟨(h.lay.fit hX).small, by
    obtain ⟨i, hi, e⟩ := List.mem_iff_getElem.1 hX
    have := (h.lay.at_ i X (by rw [List.getElem?_eq_getElem hi, e])).2
    have := h.lay.rows
    omega⟩
  rw [← hn] at HO
  obtain ⟨rows, hrows⟩ : ∃ rows, layR l = rows := ⟨_, rfl⟩
  rw [hrows] at HO hrow ⊢
  obtain ⟨n, hnn⟩ : ∃ n, Xs.length = n := ⟨_, rfl⟩
  rw [hnn] at HO
  have HNN := hide hnn
  have HA := hide ha
  obtain ⟨m, hm⟩ : ∃ m, cs.length = m := ⟨_, rfl⟩
  rw [hm] at hcl ⊢
  have HM := hide hm
  have HROW := hide hrow
  clear h hn hnn hrows ha hm hrow
  have im : (m : Int) ≤ 1048576 := by omega
  go_enter Tryz.func10, Tryz.ntmps10
  go_wp2_with (first
    | (go_at_call 30; refine (unhide HO _).mono ?_; rintro _ w2 ⟨Cs, az, ac, cz, cc, rfl, hx, -, hc, -, hb⟩; have HX := hide hx; have HC := hide hc; have HB := hide hb; clear hx hc hb)
    | (at_make; refine wpList_make_rows _ rfl (.tmp 20) (.tmp 20) 61 rfl 49 j4 _ Tryz.underlying61 hj4 y40 4 y41 .i64 .i64 m rfl rfl (by rw [y42]; omega) (by omega) ?_))
  have hg := seg3_facts (seg3_alloc w2 (rows : Int) (.slice az n cz) (.slice ac n cc))
  have S0 := DInv.start (Below.refl _ (w2.alloc (.cells #[.int .i64 (rows : Int), .slice az n cz, .slice ac n cc] 67))) m #[.int .i64 0, .slice none 0 0, .slice none 0 0, .slice none 0 0]
  have HC3 := hide ((unhide HC).later (below_alloc (Below.refl _ w2) (.cells #[.int .i64 (rows : Int), .slice az n cz, .slice ac n cc] 67)))
  have HB3 := hide (below_alloc (unhide HB) (.cells #[.int .i64 (rows : Int), .slice az n cz, .slice ac n cc] 67))
  rw [show (w2.alloc (.cells #[.int .i64 (rows : Int), .slice az n cz, .slice ac n cc] 67)).heap.size = w2.heap.size + 1 by simp] at S0
  obtain ⟨w3, hw3⟩ : ∃ w3, w2.alloc (.cells #[.int .i64 (rows : Int), .slice az n cz, .slice ac n cc] 67) = w3 := ⟨_, rfl⟩
  rw [hw3] at hg S0 HC3 HB3 ⊢
  obtain ⟨S, hS⟩ : ∃ S, w2.heap.size + 1 = S := ⟨_, rfl⟩
  rw [hS] at S0 ⊢
  have HG := hide hg.1
  have HST := hide S0
  obtain ⟨w4, hw4⟩ : ∃ w4, w3.alloc (.cells (madeCells #[.int .i64 0, .slice none 0 0, .slice none 0 0, .slice none 0 0] (m * 4)) 49) = w4 := ⟨_, rfl⟩
  rw [hw4] at HST ⊢
  clear hw3 hS hg S0 hw4 HO HC HB
  go_loopw [24] (fun s wr => ∃ (j : Nat) (Ps : List (Vc × Sl)), j ≤ m ∧ s = .int .i64 (j : Int) ∧ Hid (Ps.length = j) ∧ Hid (DInv w3 wr S m Ps) ∧ Hid (∀ (i : Nat) (c : Int), i < j → cs[i]? = some c → outC n c = false) ∧ Hid (∀ (i : Nat) (c : Int) (q : Vc × Sl), cs[i]? = some c → Ps[i]? = some q → Xs[c.toNat]? = some q.1)) (fun s _ => m - (intOf s).toNat)
  case atStart => exact ⟨0, [], Nat.zero_le _, rfl, rfl, HST, fun i c hi => absurd hi (by omega), fun i c q _ hq => by simp at hq⟩
  case round =>
    obtain ⟨j, Ps, hj, rfl, HPL, HD, HN, HQ⟩ := hrel
    clear HST
    by_cases hjm : j < m
    · have ij : (j : Int) < (m : Int) := by omega
      obtain ⟨c, hc⟩ : ∃ c, cs[j]? = some c := ⟨_, List.getElem?_eq_getElem (by rw [unhide HM]; exact hjm)⟩
      obtain ⟨ab, ao, rfl, qa⟩ := lis_get ((unhide HA).later (below_step (unhide HB3) (unhide HD).bel)) (show (cs.map (Value.int .i64))[j]? = some (.int .i64 c) by simp [hc])
      have hg2 := cell_later (unhide HD).bel (unhide HG).2.2
      by_cases hout : outC n c = true
      · have HR : Hid (cs.any (outC Xs.length) = true) := by
          show _ = _
          rw [unhide HNN]
          exact List.any_eq_true.2 ⟨c, List.mem_of_getElem? hc, hout⟩
        have HBW := hide (below_step (unhide HB3) (unhide HD).bel)
        clear HC3 HD HN HQ hc
        by_cases h0 : c < 0
        · go_wp2
          go_ret2
          exact .inl ⟨unhide HR, rfl, unhide HBW⟩
        · have h1 : (n : Int) ≤ c := by
            unfold outC at hout
            simp only [h0, decide_false, Bool.false_or, decide_eq_true_eq] at hout
            exact hout
          clear hout
          go_wp2
          go_ret2
          exact .inl ⟨unhide HR, rfl, unhide HBW⟩
      · have hof : outC n c = false := by simpa using hout
        have h01 : 0 ≤ c ∧ c < (n : Int) := by
          unfold outC at hof
          simp only [Bool.or_eq_false_iff, decide_eq_false_iff_not] at hof
          omega
        obtain ⟨q, rfl⟩ : ∃ q : Nat, c = (q : Int) := ⟨c.toNat, by omega⟩
        have hqn : q < n := by omega
        have hCl : Cs.length = n := by rw [← unhide HNN, ← unhide HX, List.length_map]
        obtain ⟨d, hd⟩ : ∃ d, Cs[q]? = some d := ⟨_, List.getElem?_eq_getElem (by omega)⟩
        obtain ⟨cb, co, rfl, c0, c1, c2, c3⟩ := cols_at ((unhide HC3).later (unhide HD).bel) hd
        obtain ⟨v0, v1, v2, v3, e0, e1, e2, e3, f0, f1, f2, f3⟩ := (unhide HD).cells (k := j) hjm
        obtain ⟨t, ht⟩ : ∃ t, co + q * 4 = t := ⟨_, rfl⟩
        have HD2 := hide ((unhide HD).step ((unhide HC3).2 d (List.mem_of_getElem? hd)) (k := j) (unhide HPL))
        have HX2 : Hid (Xs[q]? = some d.1) := by show _ = _; rw [← unhide HX, List.getElem?_map, hd]; rfl
        have i0 : ¬ (q : Int) < 0 := by omega
        have i1 : ¬ (n : Int) ≤ (q : Int) := by omega
        have i2 : (q : Int) < (n : Int) := by omega
        have HOF := hide hof
        have HCJ := hide hc
        clear hout hof h01 hd hc HC3 HD hCl ht
        go_wp2
        go_roundw
        case rel =>
          refine ⟨j + 1, Ps ++ [d], by omega, by go_num, by show _ = _; rw [List.length_append, unhide HPL]; rfl, HD2, ?_, ?_⟩
          · intro i c hi hci
            by_cases e : i = j
            · subst e
              rw [unhide HCJ] at hci
              injection hci with hci
              rw [← hci]
              exact unhide HOF
            · exact unhide HN i c (by omega) hci
          · intro i c x hci hx
            by_cases e : i < j
            · rw [List.getElem?_append_left (by rw [unhide HPL]; exact e)] at hx
              exact unhide HQ i c x hci hx
            · have e2 : i = j := by
                have := (List.getElem?_eq_some_iff.1 hx).1
                simp [unhide HPL] at this
                omega
              subst e2
              rw [List.getElem?_append_right (by rw [unhide HPL]; omega), unhide HPL] at hx
              simp at hx
              subst hx
              rw [unhide HCJ] at hci
              injection hci with hci
              rw [← hci]
              exact unhide HX2
        case measure => first | (simp [intOf]; omega) | (simp only [intOf]; omega)
    · have hjm2 : j = m := by omega
      subst hjm2
      have ij : ¬ (j : Int) < (j : Int) := by omega
      have HAN : Hid (cs.any (outC Xs.length) = false) := by
        show _ = _
        rw [unhide HNN]
        refine List.any_eq_false.2 fun c hc => ?_
        obtain ⟨i, hi, e⟩ := List.mem_iff_getElem.1 hc
        rw [unhide HN i c (by rw [← unhide HM]; exact hi) (by rw [List.getElem?_eq_getElem hi, e])]
        simp
      have hg0 := cell_later (unhide HD).bel (unhide HG).1
      have HBW := hide (below_step (unhide HB3) (unhide HD).bel)
      by_cases hz : j = 0
      · subst hz
        have HE : Hid (cs = []) := List.eq_nil_of_length_eq_zero (unhide HM)
        have ir : (rows : Int) ≤ 4096 := by have := unhide HROW; omega
        clear HD HN HQ
        go_wp2_with (at_make; refine wpList_make_row _ rfl (.tmp 51) (.tmp 51) 23 rfl 34 k7 (.slice none 0 0) Tryz.underlying23 hk7 x70 x71 rfl .i64 .i64 rows rfl rfl (by rw [x72]; have := unhide HROW; omega) (by have := unhide HROW; omega) ?_)
        go_ret2
        refine .inr (.inl ⟨unhide HAN, unhide HE, some ⟨wr.heap.size, 0, none⟩, rows, rfl, .inr ⟨_, _, rfl, fun i x hx => ?_⟩, own1_of_row (World.rowIs_made wr (.slice none 0 0) rows 34) (List.length_replicate ..) (fun i x hi hx => by rw [List.getElem?_replicate, if_pos hi] at hx; injection hx) (unhide HBW).size (by have := unhide HROW; unfold maxLen; omega), below_alloc (unhide HBW) _⟩)
        have hr := World.rowIs_made wr (.slice none 0 0) rows 34
        rw [List.getElem?_replicate] at hx
        split at hx
        · rename_i hi
          rw [Nat.zero_add, World.rowIs.cell hr hi]
          exact hx
        · cases hx
      · have hz1 : ((j : Int) == 0) = false := by simp; exact hz
        have HPC := hide ((unhide HD).cols (unhide HPL))
        have HT := hide (table_any (some ⟨S, 0, none⟩) j Ps wr (by rw [unhide HPL]; exact hcl) (fun x hx => by
          obtain ⟨i, hi, e⟩ := List.mem_iff_getElem.1 hx
          have hci : i < cs.length := by rw [unhide HM, ← unhide HPL]; exact hi
          have := unhide HQ i _ x (List.getElem?_eq_getElem hci) (by rw [List.getElem?_eq_getElem hi, e])
          exact (unhide HSM _ (List.mem_of_getElem? this)).1) (fun x hx => by
          obtain ⟨i, hi, e⟩ := List.mem_iff_getElem.1 hx
          have hci : i < cs.length := by rw [unhide HM, ← unhide HPL]; exact hi
          have := unhide HQ i _ x (List.getElem?_eq_getElem hci) (by rw [List.getElem?_eq_getElem hi, e])
          exact (unhide HSM _ (List.mem_of_getElem? this)).2) (unhide HPC))
        rw [unhide HPL] at HT
        have HNE : Hid (cs ≠ []) := fun e => hz (by rw [← unhide HM, e]; rfl)
        clear HD HN hz
        go_wp2_with (go_at_call 31; refine (unhide HT).mono ?_; rintro _ w5 ⟨v5, rfl, hr5, hb5⟩)
        go_ret2
        exact .inr (.inr ⟨unhide HAN, unhide HNE, Ps, v5, by rw [unhide HPL, unhide HM], unhide HQ, rfl, ⟨_, (unhide HBW).size, hr5.1, hr5.2⟩, below_step (unhide HBW) hb5⟩)
end Go.Proofs.YtbdkpkpncmagoaaGreat
set_option linter.unusedSimpArgs false
set_option linter.unusedVariables false
set_option maxRecDepth 100000
namespace Go.Proofs.YtbdkpkpncmagoaaGreat
open Go.RowKit Go.Sort

theorem tabV_fst {Ps Qs : List (Vc × Sl)} (h : Ps.map Prod.fst = Qs.map Prod.fst) : tabV Ps = tabV Qs := by
  have hl : len0 Ps = len0 Qs := by
    cases Ps with
    | nil => cases Qs with
      | nil => rfl
      | cons q Qs => simp at h
    | cons p Ps => cases Qs with
      | nil => simp at h
      | cons q Qs => simp at h; simp [len0, h.1]
  have ha : ∀ n, Ps.any (badC n) = Qs.any (badC n) := fun n => by
    have e : ∀ L : List (Vc × Sl), L.any (badC n) = (L.map Prod.fst).any (fun X => !goodB X || ((X.nl.length : Int) != (n : Int))) := fun L => by rw [List.any_map]; rfl
    rw [e, e, h]
  have hr : ∀ i, rowOf Ps i = rowOf Qs i := fun i => by
    have e : ∀ L : List (Vc × Sl), rowOf L i = (L.map Prod.fst).map (fun X => atV X i) := fun L => by rw [List.map_map]; rfl
    rw [e, e, h]
  unfold tabV rowsOf
  rw [hl, ha, List.map_congr_left fun i _ => hr i]
/-- What Read tells of a segment. -/
def colsR (Xs : List Vc) (cs : List Int) : List (Vc × Sl) := cs.map fun c => (Xs.getD c.toNat .zero, ⟨none, 0, none, 0, none, 0⟩)
def readR (Xs : List Vc) (rows : Nat) (cs : List Int) : List (List Val) := if cs.any (outC Xs.length) then [] else if cs = [] then List.replicate rows [] else (tabV (colsR Xs cs)).1
theorem readR_len {Xs : List Vc} {rows : Nat} {cs : List Int} (hr : rows ≤ 4096) (hX : ∀ X ∈ Xs, X.nl.length = rows) (hc : cs.length ≤ 1048576) : (readR Xs rows cs).length ≤ 4096 ∧ ∀ r ∈ readR Xs rows cs, r.length ≤ 1048576 := by
  unfold readR
  split
  · exact ⟨by simp, fun r h => by simp at h⟩
  · rename_i ho
    split
    · exact ⟨by simpa using hr, fun r h => by rw [List.eq_of_mem_replicate h]; simp⟩
    · unfold tabV
      split
      · exact ⟨by simp, fun r h => by simp at h⟩
      · refine ⟨?_, fun r h => ?_⟩
        · show (rowsOf _).length ≤ _
          unfold rowsOf
          rw [List.length_map, List.length_range]
          cases cs with
          | nil => simp [colsR, len0]
          | cons c cs =>
            show (Xs.getD c.toNat .zero).nl.length ≤ _
            by_cases hi : c.toNat < Xs.length
            · have e : Xs.getD c.toNat .zero = Xs[c.toNat] := by simp [hi]
              rw [e, hX _ (List.getElem_mem hi)]
              exact hr
            · have e : Xs.getD c.toNat .zero = .zero := by simp [hi]
              rw [e]
              show ([] : List Bool).length ≤ _
              simp
        · obtain ⟨i, _, rfl⟩ := List.mem_map.1 h
          rw [rowOf_len]
          simpa [colsR] using hc
/-- What Read answers, in memory of its own. -/
def RdA (Xs : List Vc) (rows : Nat) (cs : List Int) (w : World) (e : Ending) (w' : World) : Prop := ∃ (a : Option Addr) (c : Nat) (er : Int) (b : Nat) (ls : List Value), e = .returned (.tuple #[.slice a (readR Xs rows cs).length c, .int .i64 er]) ∧ w.heap.size ≤ b ∧ RwO w' (fun q => b ≤ q ∧ q < w'.heap.size) a c (readR Xs rows cs) ls ∧ Below w.heap.size w w'
theorem ReadQ.own {w w' : World} {Xs : List Vc} {rows : Nat} {cs : List Int} {e : Ending} (h : ReadQ w w' Xs rows cs e) : RdA Xs rows cs w e w' := by
  rcases h with ⟨h1, rfl, hb⟩ | ⟨h1, rfl, a, c, rfl, hl, ho, hb⟩ | ⟨h1, h2, Ps, v, hPl, hP, rfl, ⟨b, hbb, hr, hro⟩, hb⟩
  · have e0 : readR Xs rows cs = [] := by unfold readR; rw [if_pos h1]
    refine ⟨none, 0, 1, w.heap.size, [], ?_, Nat.le_refl _, ?_, hb⟩
    · rw [e0]; rfl
    · rw [e0]
      exact ⟨own_none, fun j r u hr => by simp at hr, fun j u b hu => by simp at hu, fun j j' u u' b _ hu => by simp at hu, fun g hg => by cases hg⟩
  · have e0 : readR Xs rows [] = List.replicate rows [] := by unfold readR; rw [if_neg (by rw [h1]; simp), if_pos rfl]
    refine ⟨a, c, 0, w.heap.size, List.replicate rows (.slice none 0 0), ?_, Nat.le_refl _, ?_, hb⟩
    · rw [e0, List.length_replicate]
    · rw [e0]; exact nil_rwo ho
  · have hm : Ps.map Prod.fst = (colsR Xs cs).map Prod.fst := by
      refine List.ext_getElem (by simp [colsR, hPl]) fun i k1 k2 => ?_
      have g1 : i < Ps.length := by simpa using k1
      have g2 : i < cs.length := by omega
      have := hP i _ _ (List.getElem?_eq_getElem g2) (List.getElem?_eq_getElem g1)
      simp only [List.getElem_map, colsR, List.getD, this, Option.getD_some]
    have e0 : readR Xs rows cs = (tabV Ps).1 := by unfold readR; rw [if_neg (by rw [h1]; simp), if_neg h2, tabV_fst hm]
    obtain ⟨a, c, ls, rfl, hw⟩ := rowsO_rwo hr hro
    refine ⟨a, c, (tabV Ps).2, b, ls, ?_, hbb, ?_, hb⟩
    · rw [e0]
    · rw [e0]; exact hw
end Go.Proofs.YtbdkpkpncmagoaaGreat

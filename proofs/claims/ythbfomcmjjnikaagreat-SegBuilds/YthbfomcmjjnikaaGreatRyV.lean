import Derived.Test.YthbfomcmjjnikaaGreatRyT
import Derived.Test.YthbfomcmjjnikaaGreatRxD
set_option linter.unusedSimpArgs false
set_option linter.unusedVariables false
namespace Go.Proofs.YthbfomcmjjnikaaGreat
open Go.RowKit Go.Sort

/-- What Unpack answers, wherever. -/
def UnIs (s : ByteArray) (X : Vc) (f : Int) : Prop := ∀ W, Calls Tryz.prog 41 #[.string s] W fun e w' => ∃ p, e = .returned (.tuple #[vecV X p, .int .i64 f]) ∧ VecAt w' X p ∧ Fresh W.heap.size p ∧ Below W.heap.size W w'
end Go.Proofs.YthbfomcmjjnikaaGreat
set_option linter.unusedSimpArgs false
set_option linter.unusedVariables false
namespace Go.Proofs.YthbfomcmjjnikaaGreat
open Go.RowKit Go.Sort

theorem order_q (x y : Val) (w : World) : Calls Tryz.prog 103 #[.agg #[.int .i64 x.k, .int .i64 x.n, .string x.s], .agg #[.int .i64 y.k, .int .i64 y.n, .string y.s]] w fun e w' => e = .returned (.int .i64 (ordV x y)) ∧ Below w.heap.size w w' := order_any x y w
theorem pnull_q (x : Val) (w : World) : Calls Tryz.prog 102 #[.agg #[.int .i64 x.k, .int .i64 x.n, .string x.s]] w fun e w' => e = .returned (.bool (x.k == 0)) ∧ Below w.heap.size w w' := pnull_any x w
set_option maxHeartbeats 1000000 in
set_option maxRecDepth 100000 in
theorem span_no {s : ByteArray} (h : Shut s) (w : World) : Calls Tryz.prog 78 #[.string s] w fun e w' => e = .returned (.tuple #[Val.null.v, Val.null.v, .int .i64 0, .int .i64 2]) ∧ Below w.heap.size w w' := by
  have H := hide h
  clear h
  go_enter Tryz.func78, Tryz.ntmps78
  go_wp2_with (go_at_call 101; refine (unhide H _).mono ?_; rintro e w1 ⟨rfl, hb1⟩; obtain ⟨⟨b0, b1, b2⟩, q0, q1, q2⟩ := zero37_facts (B := w.heap.size + 1) (w := w.alloc zero37) (by simp) rfl (below_alloc hb1 (.cells #[.int .i64 0, .int .i64 0, .slice none 0 0] 146)); obtain ⟨⟨d0, d1, d2⟩, r0, r1, r2⟩ := zero37_facts (B := w.heap.size) (w := w) rfl rfl (below_alloc (below_one hb1) (.cells #[.int .i64 0, .int .i64 0, .slice none 0 0] 146)))
  refine bodyPost_ret (v := .tuple #[Val.null.v, Val.null.v, .int .i64 0, .int .i64 2]) (by simp [results, Tryz.results78, go_sem, Val.v, Val.null, *]) rfl ⟨rfl, ?_⟩
  exact put3 (put3 (below_alloc (below_one (below_one hb1)) _) (Nat.le_refl _) _ _ _) (by omega) _ _ _
theorem box3_put {w : World} {g : Nat} {x : Val} (h : w.rowIs g 59 3 (box3 x)) (y : Val) : (((w.setCell ⟨g, 0, none⟩ (.int .i64 y.k)).setCell ⟨g, 1, none⟩ (.int .i64 y.n)).setCell ⟨g, 2, none⟩ (.string y.s)).rowIs g 59 3 (box3 y) :=
  World.rowIs.congr (World.rowIs.set (World.rowIs.set (World.rowIs.set h 0 (.int .i64 y.k)) 1 (.int .i64 y.n)) 2 (.string y.s)) (fun i hi => by
    match i, hi with
    | 0, _ => rfl
    | 1, _ => rfl
    | 2, _ => rfl)
theorem box3_other {w : World} {g B : Nat} {x : Val} (h : w.rowIs g 59 3 (box3 x)) (hne : g ≠ B) (u v z : Value) : (((w.setCell ⟨B, 0, none⟩ u).setCell ⟨B, 1, none⟩ v).setCell ⟨B, 2, none⟩ z).rowIs g 59 3 (box3 x) :=
  World.rowIs.setOther (World.rowIs.setOther (World.rowIs.setOther h hne _) hne _) hne _
def Tri (W : World) (a b c : Nat) (L G x : Val) : Prop := W.rowIs a 59 3 (box3 L) ∧ W.rowIs b 59 3 (box3 G) ∧ W.rowIs c 59 3 (box3 x)
theorem Tri.later {W W' : World} {a b c : Nat} {L G x : Val} (h : Tri W a b c L G x) (hb : Below W.heap.size W W') : Tri W' a b c L G x := ⟨rowIs_later h.1 hb, rowIs_later h.2.1 hb, rowIs_later h.2.2 hb⟩
set_option maxHeartbeats 2000000 in
set_option maxRecDepth 100000 in
theorem span_any {s : ByteArray} {sch : Nat} {kind : Int} {xs : List Val} (h : Opens s sch kind xs) (hl : xs.length ≤ 4096) (w : World) :
    Calls Tryz.prog 78 #[.string s] w fun e w' => e = .returned (.tuple #[(spanT xs xs.length).1.v, (spanT xs xs.length).2.1.v, .int .i64 ((spanT xs xs.length).2.2 : Nat), .int .i64 0]) ∧ Below w.heap.size w w' := by
  have H := hide h
  clear h
  obtain ⟨R, hR⟩ : ∃ R, R = spanT xs xs.length := ⟨_, rfl⟩
  rw [← hR]
  have HR := hide hR
  clear hR
  go_enter Tryz.func78, Tryz.ntmps78
  go_wp2_with (go_at_call 101; refine (unhide H _).mono ?_; rintro e w1 ⟨a, c, rfl, hr1, hb1⟩)
  have hB1 := below_alloc (below_one (below_one hb1)) (.cells #[.int .i64 (sch : Int), .int .i64 kind, .slice a xs.length c] 146)
  have hB2 := below_alloc (below_one hb1) (.cells #[.int .i64 (sch : Int), .int .i64 kind, .slice a xs.length c] 146)
  have hB3 := below_alloc hb1 (.cells #[.int .i64 (sch : Int), .int .i64 kind, .slice a xs.length c] 146)
  have hr2 := hr1.later (below_alloc (Below.refl _ _) (.cells #[.int .i64 (sch : Int), .int .i64 kind, .slice a xs.length c] 146))
  obtain ⟨W, hW⟩ : ∃ W, W = w1.alloc (.cells #[.int .i64 (sch : Int), .int .i64 kind, .slice a xs.length c] 146) := ⟨_, rfl⟩
  have hcell : W.cell? ⟨w1.heap.size, 2, none⟩ = some (.slice a xs.length c) := by rw [hW]; simp [go_sem]
  have hWs : W.heap.size = w1.heap.size + 1 := by rw [hW]; simp
  have hz1 : w.heap.size + 1 + 1 ≤ w1.heap.size := by have := hb1.size; simp at this; omega
  rw [← hW] at hB1 hB2 hB3 hr2 ⊢
  have HB1 := hide hB1
  have HB2 := hide hB2
  have HB3 := hide hB3
  have HRW := hide hr2
  have HA8 : Hid (((W.alloc zero37).alloc zero37).rowIs (w1.heap.size + 1) 59 3 (box3 Val.null)) := by rw [← hWs]; exact World.rowIs.alloc (box3_alloc W Val.null) _
  have HA9 : Hid (((W.alloc zero37).alloc zero37).rowIs (w1.heap.size + 1 + 1) 59 3 (box3 Val.null)) := by
    have := box3_alloc (W.alloc zero37) Val.null
    rw [alloc_sz, hWs] at this
    exact this
  have hzW : w.heap.size + 1 + 1 ≤ W.heap.size := by omega
  have HWS := hide hWs
  clear hB1 hB2 hB3 hr1 hr2 hW hb1 hWs hzW
  go_loopw [10, 26] (fun v i wr => ∃ (k : Nat) (L G : Val) (N : Nat), k ≤ xs.length ∧ i = .int .i64 (k : Int) ∧ v = .int .i64 (N : Int) ∧ N ≤ k ∧ Hid (spanT xs k = (L, G, N)) ∧ wr.rowIs (w1.heap.size + 1) 59 3 (box3 L) ∧ wr.rowIs (w1.heap.size + 1 + 1) 59 3 (box3 G) ∧ Below W.heap.size W wr) (fun _ i _ => xs.length - (intOf i).toNat)
  case atStart => exact ⟨0, .null, .null, 0, Nat.zero_le _, rfl, rfl, Nat.le_refl _, rfl, unhide HA8, unhide HA9, below_alloc (below_alloc (Below.refl _ _) _) _⟩
  case round =>
    obtain ⟨k, L, G, N, hk, rfl, rfl, hNk, HS, h8, h9', hb⟩ := hrel
    have hwz : w1.heap.size + 1 + 1 < wr.heap.size := World.rowIs.lt h9'
    by_cases hlt : k < xs.length
    · have h9 : (k : Int) < (xs.length : Int) := by omega
      obtain ⟨x, hx⟩ : ∃ x, xs[k]? = some x := ⟨_, List.getElem?_eq_getElem hlt⟩
      obtain ⟨vb, vo, rfl, c0, c1, c2⟩ := ((unhide HRW).later hb).lo hx
      have HNN : (x.k == 0) = true → Hid (spanT xs (k + 1) = (L, G, N + 1)) := fun h0 => by show _ = _; rw [span_null hx h0, unhide HS]
      have HNV : (x.k == 0) = false → Hid (spanT xs (k + 1) = (lowS L x, highS G x, N)) := fun h0 => by show _ = _; rw [span_val hx h0, unhide HS]
      have HT : Hid (Tri (wr.alloc (.cells #[.int .i64 x.k, .int .i64 x.n, .string x.s] 59)) (w1.heap.size + 1) (w1.heap.size + 1 + 1) wr.heap.size L G x) := ⟨World.rowIs.alloc h8 _, World.rowIs.alloc h9' _, box3_alloc wr x⟩
      have HB := hide (below_alloc hb (.cells #[.int .i64 x.k, .int .i64 x.n, .string x.s] 59))
      clear h8 h9' hb hx
      cases hx0 : (x.k == 0)
      · have HN := HNV hx0
        have HQ := hide (pnull_q x)
        rw [hx0] at HQ
        clear HNN HNV hx0
        have HQL := hide (pnull_q L)
        have HOL := hide (order_q x L)
        have HOG := hide (order_q x G)
        have hne1 : wr.heap.size ≠ w1.heap.size + 1 := by omega
        have hne2 : wr.heap.size ≠ w1.heap.size + 1 + 1 := by omega
        have hcase : ((L.k == 0) = true) ∨ ((L.k == 0) = false ∧ ordV x L < 0) ∨ ((L.k == 0) = false ∧ ¬ ordV x L < 0) := by
          cases (L.k == 0)
          · by_cases h : ordV x L < 0
            · exact .inr (.inl ⟨rfl, h⟩)
            · exact .inr (.inr ⟨rfl, h⟩)
          · exact .inl rfl
        have hcG : (0 < ordV x G) ∨ ¬ (0 < ordV x G) := by omega
        have hlow : lowS L x = if (L.k == 0) || decide (ordV x L < 0) then x else L := rfl
        have hhigh : highS G x = if decide (0 < ordV x G) then x else G := rfl
        rw [hlow, hhigh] at HN
        clear hlow hhigh
        generalize ordV x L = oL at *
        generalize ordV x G = oG at *
        generalize (L.k == 0) = bL at *
        rcases hcase with rfl | ⟨rfl, hoL⟩ | ⟨rfl, hoL⟩ <;> rcases hcG with hoG | hoG
        · have HNF : Hid (spanT xs (k + 1) = (x, x, N)) := by
            have h := unhide HN
            show _ = _
            simpa [hoG] using h
          clear HN
          go_wp2_with (first
            | (go_at_call_of 102 (Value.agg #[Value.int IntKind.i64 x.k, Value.int IntKind.i64 x.n, Value.string x.s]); refine (unhide HQ _).mono ?_; rintro e wa ⟨rfl, hba⟩; have Ta := (unhide HT).later hba; obtain ⟨l0, l1, l2, _, _, _⟩ := box3_facts Ta.1)
            | (go_at_call_of 102 (Value.agg #[Value.int IntKind.i64 L.k, Value.int IntKind.i64 L.n, Value.string L.s]); refine (unhide HQL _).mono ?_; rintro e wb ⟨rfl, hbb⟩; have Tb := Ta.later hbb; obtain ⟨l0, l1, l2, f0, f1, f2⟩ := box3_facts Tb.1; obtain ⟨x0, x1, x2, _, _, _⟩ := box3_facts Tb.2.2; obtain ⟨g0, g1, g2, _, _, _⟩ := box3_facts Tb.2.1)
            | (go_at_call_of 103 (Value.agg #[Value.int IntKind.i64 G.k, Value.int IntKind.i64 G.n, Value.string G.s]); refine (unhide HOG _).mono ?_; rintro e wd ⟨rfl, hbd⟩; have Td := Tri.later (⟨box3_put Tb.1 x, box3_other Tb.2.1 (by omega) _ _ _, box3_other Tb.2.2 (by omega) _ _ _⟩ : Tri _ (w1.heap.size + 1) (w1.heap.size + 1 + 1) wr.heap.size x G x) hbd; obtain ⟨x0, x1, x2, _, _, _⟩ := box3_facts Td.2.2; obtain ⟨g0, g1, g2, f3, f4, f5⟩ := box3_facts Td.2.1))
          go_roundw
          case rel => exact ⟨k + 1, x, x, N, by omega, by go_num, rfl, by omega, HNF, box3_other Td.1 (by omega) _ _ _, box3_put Td.2.1 x, put3 (below_step (put3 (below_step (below_step (unhide HB) hba) hbb) (by rw [unhide HWS]; omega) _ _ _) hbd) (by rw [unhide HWS]; omega) _ _ _⟩
          case measure => simp [intOf]; omega
        · have HNF : Hid (spanT xs (k + 1) = (x, G, N)) := by
            have h := unhide HN
            show _ = _
            simpa [hoG] using h
          clear HN
          go_wp2_with (first
            | (go_at_call_of 102 (Value.agg #[Value.int IntKind.i64 x.k, Value.int IntKind.i64 x.n, Value.string x.s]); refine (unhide HQ _).mono ?_; rintro e wa ⟨rfl, hba⟩; have Ta := (unhide HT).later hba; obtain ⟨l0, l1, l2, _, _, _⟩ := box3_facts Ta.1)
            | (go_at_call_of 102 (Value.agg #[Value.int IntKind.i64 L.k, Value.int IntKind.i64 L.n, Value.string L.s]); refine (unhide HQL _).mono ?_; rintro e wb ⟨rfl, hbb⟩; have Tb := Ta.later hbb; obtain ⟨l0, l1, l2, f0, f1, f2⟩ := box3_facts Tb.1; obtain ⟨x0, x1, x2, _, _, _⟩ := box3_facts Tb.2.2; obtain ⟨g0, g1, g2, _, _, _⟩ := box3_facts Tb.2.1)
            | (go_at_call_of 103 (Value.agg #[Value.int IntKind.i64 G.k, Value.int IntKind.i64 G.n, Value.string G.s]); refine (unhide HOG _).mono ?_; rintro e wd ⟨rfl, hbd⟩; have Td := Tri.later (⟨box3_put Tb.1 x, box3_other Tb.2.1 (by omega) _ _ _, box3_other Tb.2.2 (by omega) _ _ _⟩ : Tri _ (w1.heap.size + 1) (w1.heap.size + 1 + 1) wr.heap.size x G x) hbd; obtain ⟨x0, x1, x2, _, _, _⟩ := box3_facts Td.2.2; obtain ⟨g0, g1, g2, f3, f4, f5⟩ := box3_facts Td.2.1))
          go_roundw
          case rel => exact ⟨k + 1, x, G, N, by omega, by go_num, rfl, by omega, HNF, Td.1, Td.2.1, below_step (put3 (below_step (below_step (unhide HB) hba) hbb) (by rw [unhide HWS]; omega) _ _ _) hbd⟩
          case measure => simp [intOf]; omega
        · have HNF : Hid (spanT xs (k + 1) = (x, x, N)) := by
            have h := unhide HN
            show _ = _
            simpa [hoG, hoL] using h
          clear HN
          go_wp2_with (first
            | (go_at_call_of 102 (Value.agg #[Value.int IntKind.i64 x.k, Value.int IntKind.i64 x.n, Value.string x.s]); refine (unhide HQ _).mono ?_; rintro e wa ⟨rfl, hba⟩; have Ta := (unhide HT).later hba; obtain ⟨l0, l1, l2, _, _, _⟩ := box3_facts Ta.1)
            | (go_at_call_of 102 (Value.agg #[Value.int IntKind.i64 L.k, Value.int IntKind.i64 L.n, Value.string L.s]); refine (unhide HQL _).mono ?_; rintro e wb ⟨rfl, hbb⟩; have Tb := Ta.later hbb; obtain ⟨l0, l1, l2, f0, f1, f2⟩ := box3_facts Tb.1; obtain ⟨x0, x1, x2, _, _, _⟩ := box3_facts Tb.2.2; obtain ⟨g0, g1, g2, _, _, _⟩ := box3_facts Tb.2.1)
            | (go_at_call_of 103 (Value.agg #[Value.int IntKind.i64 L.k, Value.int IntKind.i64 L.n, Value.string L.s]); refine (unhide HOL _).mono ?_; rintro e wc ⟨rfl, hbc⟩; have Tc := Tb.later hbc; obtain ⟨l0, l1, l2, f0, f1, f2⟩ := box3_facts Tc.1; obtain ⟨x0, x1, x2, _, _, _⟩ := box3_facts Tc.2.2; obtain ⟨g0, g1, g2, _, _, _⟩ := box3_facts Tc.2.1)
            | (go_at_call_of 103 (Value.agg #[Value.int IntKind.i64 G.k, Value.int IntKind.i64 G.n, Value.string G.s]); refine (unhide HOG _).mono ?_; rintro e wd ⟨rfl, hbd⟩; have Td := Tri.later (⟨box3_put Tc.1 x, box3_other Tc.2.1 (by omega) _ _ _, box3_other Tc.2.2 (by omega) _ _ _⟩ : Tri _ (w1.heap.size + 1) (w1.heap.size + 1 + 1) wr.heap.size x G x) hbd; obtain ⟨x0, x1, x2, _, _, _⟩ := box3_facts Td.2.2; obtain ⟨g0, g1, g2, f3, f4, f5⟩ := box3_facts Td.2.1))
          go_roundw
          case rel => exact ⟨k + 1, x, x, N, by omega, by go_num, rfl, by omega, HNF, box3_other Td.1 (by omega) _ _ _, box3_put Td.2.1 x, put3 (below_step (put3 (below_step (below_step (below_step (unhide HB) hba) hbb) hbc) (by rw [unhide HWS]; omega) _ _ _) hbd) (by rw [unhide HWS]; omega) _ _ _⟩
          case measure => simp [intOf]; omega
        · have HNF : Hid (spanT xs (k + 1) = (x, G, N)) := by
            have h := unhide HN
            show _ = _
            simpa [hoG, hoL] using h
          clear HN
          go_wp2_with (first
            | (go_at_call_of 102 (Value.agg #[Value.int IntKind.i64 x.k, Value.int IntKind.i64 x.n, Value.string x.s]); refine (unhide HQ _).mono ?_; rintro e wa ⟨rfl, hba⟩; have Ta := (unhide HT).later hba; obtain ⟨l0, l1, l2, _, _, _⟩ := box3_facts Ta.1)
            | (go_at_call_of 102 (Value.agg #[Value.int IntKind.i64 L.k, Value.int IntKind.i64 L.n, Value.string L.s]); refine (unhide HQL _).mono ?_; rintro e wb ⟨rfl, hbb⟩; have Tb := Ta.later hbb; obtain ⟨l0, l1, l2, f0, f1, f2⟩ := box3_facts Tb.1; obtain ⟨x0, x1, x2, _, _, _⟩ := box3_facts Tb.2.2; obtain ⟨g0, g1, g2, _, _, _⟩ := box3_facts Tb.2.1)
            | (go_at_call_of 103 (Value.agg #[Value.int IntKind.i64 L.k, Value.int IntKind.i64 L.n, Value.string L.s]); refine (unhide HOL _).mono ?_; rintro e wc ⟨rfl, hbc⟩; have Tc := Tb.later hbc; obtain ⟨l0, l1, l2, f0, f1, f2⟩ := box3_facts Tc.1; obtain ⟨x0, x1, x2, _, _, _⟩ := box3_facts Tc.2.2; obtain ⟨g0, g1, g2, _, _, _⟩ := box3_facts Tc.2.1)
            | (go_at_call_of 103 (Value.agg #[Value.int IntKind.i64 G.k, Value.int IntKind.i64 G.n, Value.string G.s]); refine (unhide HOG _).mono ?_; rintro e wd ⟨rfl, hbd⟩; have Td := Tri.later (⟨box3_put Tc.1 x, box3_other Tc.2.1 (by omega) _ _ _, box3_other Tc.2.2 (by omega) _ _ _⟩ : Tri _ (w1.heap.size + 1) (w1.heap.size + 1 + 1) wr.heap.size x G x) hbd; obtain ⟨x0, x1, x2, _, _, _⟩ := box3_facts Td.2.2; obtain ⟨g0, g1, g2, f3, f4, f5⟩ := box3_facts Td.2.1))
          go_roundw
          case rel => exact ⟨k + 1, x, G, N, by omega, by go_num, rfl, by omega, HNF, Td.1, Td.2.1, below_step (put3 (below_step (below_step (below_step (unhide HB) hba) hbb) hbc) (by rw [unhide HWS]; omega) _ _ _) hbd⟩
          case measure => simp [intOf]; omega
        · have HNF : Hid (spanT xs (k + 1) = (L, x, N)) := by
            have h := unhide HN
            show _ = _
            simpa [hoG, hoL] using h
          clear HN
          go_wp2_with (first
            | (go_at_call_of 102 (Value.agg #[Value.int IntKind.i64 x.k, Value.int IntKind.i64 x.n, Value.string x.s]); refine (unhide HQ _).mono ?_; rintro e wa ⟨rfl, hba⟩; have Ta := (unhide HT).later hba; obtain ⟨l0, l1, l2, _, _, _⟩ := box3_facts Ta.1)
            | (go_at_call_of 102 (Value.agg #[Value.int IntKind.i64 L.k, Value.int IntKind.i64 L.n, Value.string L.s]); refine (unhide HQL _).mono ?_; rintro e wb ⟨rfl, hbb⟩; have Tb := Ta.later hbb; obtain ⟨l0, l1, l2, f0, f1, f2⟩ := box3_facts Tb.1; obtain ⟨x0, x1, x2, _, _, _⟩ := box3_facts Tb.2.2; obtain ⟨g0, g1, g2, _, _, _⟩ := box3_facts Tb.2.1)
            | (go_at_call_of 103 (Value.agg #[Value.int IntKind.i64 L.k, Value.int IntKind.i64 L.n, Value.string L.s]); refine (unhide HOL _).mono ?_; rintro e wc ⟨rfl, hbc⟩; have Tc := Tb.later hbc; obtain ⟨l0, l1, l2, f0, f1, f2⟩ := box3_facts Tc.1; obtain ⟨x0, x1, x2, _, _, _⟩ := box3_facts Tc.2.2; obtain ⟨g0, g1, g2, _, _, _⟩ := box3_facts Tc.2.1)
            | (go_at_call_of 103 (Value.agg #[Value.int IntKind.i64 G.k, Value.int IntKind.i64 G.n, Value.string G.s]); refine (unhide HOG _).mono ?_; rintro e wd ⟨rfl, hbd⟩; have Td := Tri.later Tc hbd; obtain ⟨x0, x1, x2, _, _, _⟩ := box3_facts Td.2.2; obtain ⟨g0, g1, g2, f3, f4, f5⟩ := box3_facts Td.2.1))
          go_roundw
          case rel => exact ⟨k + 1, L, x, N, by omega, by go_num, rfl, by omega, HNF, box3_other Td.1 (by omega) _ _ _, box3_put Td.2.1 x, put3 (below_step (below_step (below_step (below_step (unhide HB) hba) hbb) hbc) hbd) (by rw [unhide HWS]; omega) _ _ _⟩
          case measure => simp [intOf]; omega
        · have HNF : Hid (spanT xs (k + 1) = (L, G, N)) := by
            have h := unhide HN
            show _ = _
            simpa [hoG, hoL] using h
          clear HN
          go_wp2_with (first
            | (go_at_call_of 102 (Value.agg #[Value.int IntKind.i64 x.k, Value.int IntKind.i64 x.n, Value.string x.s]); refine (unhide HQ _).mono ?_; rintro e wa ⟨rfl, hba⟩; have Ta := (unhide HT).later hba; obtain ⟨l0, l1, l2, _, _, _⟩ := box3_facts Ta.1)
            | (go_at_call_of 102 (Value.agg #[Value.int IntKind.i64 L.k, Value.int IntKind.i64 L.n, Value.string L.s]); refine (unhide HQL _).mono ?_; rintro e wb ⟨rfl, hbb⟩; have Tb := Ta.later hbb; obtain ⟨l0, l1, l2, f0, f1, f2⟩ := box3_facts Tb.1; obtain ⟨x0, x1, x2, _, _, _⟩ := box3_facts Tb.2.2; obtain ⟨g0, g1, g2, _, _, _⟩ := box3_facts Tb.2.1)
            | (go_at_call_of 103 (Value.agg #[Value.int IntKind.i64 L.k, Value.int IntKind.i64 L.n, Value.string L.s]); refine (unhide HOL _).mono ?_; rintro e wc ⟨rfl, hbc⟩; have Tc := Tb.later hbc; obtain ⟨l0, l1, l2, f0, f1, f2⟩ := box3_facts Tc.1; obtain ⟨x0, x1, x2, _, _, _⟩ := box3_facts Tc.2.2; obtain ⟨g0, g1, g2, _, _, _⟩ := box3_facts Tc.2.1)
            | (go_at_call_of 103 (Value.agg #[Value.int IntKind.i64 G.k, Value.int IntKind.i64 G.n, Value.string G.s]); refine (unhide HOG _).mono ?_; rintro e wd ⟨rfl, hbd⟩; have Td := Tri.later Tc hbd; obtain ⟨x0, x1, x2, _, _, _⟩ := box3_facts Td.2.2; obtain ⟨g0, g1, g2, f3, f4, f5⟩ := box3_facts Td.2.1))
          go_roundw
          case rel => exact ⟨k + 1, L, G, N, by omega, by go_num, rfl, by omega, HNF, Td.1, Td.2.1, below_step (below_step (below_step (below_step (unhide HB) hba) hbb) hbc) hbd⟩
          case measure => simp [intOf]; omega
      · have HN := HNN hx0
        have HQ := hide (pnull_q x)
        rw [hx0] at HQ
        clear HNN HNV hx0
        go_wp2_with (go_at_call 102; refine (unhide HQ _).mono ?_; rintro e wa ⟨rfl, hba⟩; have Ta := (unhide HT).later hba)
        go_roundw
        case rel => exact ⟨k + 1, L, G, N + 1, by omega, by go_num, by go_num, by omega, HN, Ta.1, Ta.2.1, below_step (unhide HB) hba⟩
        case measure => simp [intOf]; omega
    · have h9 : ¬ (k : Int) < (xs.length : Int) := by omega
      have ek : k = xs.length := by omega
      rw [ek, ← unhide HR] at HS
      have hRe := unhide HS
      clear HR HS
      subst hRe
      obtain ⟨l0, l1, l2, l3, l4, l5⟩ := box3_facts h8
      obtain ⟨g0, g1, g2, g3, g4, g5⟩ := box3_facts h9'
      obtain ⟨⟨b0, b1, b2⟩, q0, q1, q2⟩ := zero37_facts (B := w.heap.size + 1) (w := w.alloc zero37) (by simp) rfl (below_step (unhide HB3) hb)
      obtain ⟨⟨d0, d1, d2⟩, r0, r1, r2⟩ := zero37_facts (B := w.heap.size) (w := w) rfl rfl (below_step (unhide HB2) hb)
      have HE := hide (below_step (unhide HB1) hb)
      have hn1 : w.heap.size ≠ w1.heap.size + 1 := by omega
      have hn2 : w.heap.size ≠ w1.heap.size + 1 + 1 := by omega
      have hn3 : w.heap.size + 1 ≠ w1.heap.size + 1 := by omega
      have hn4 : w.heap.size + 1 ≠ w1.heap.size + 1 + 1 := by omega
      clear ek h8 h9' hb
      go_wp2_with fail
      go_region
      go_wp2
      refine bodyPost_ret (v := .tuple #[L.v, G.v, .int .i64 (N : Int), .int .i64 0]) (by simp [results, Tryz.results78, go_sem, Val.v, *]) rfl ⟨rfl, ?_⟩
      have hz : w.heap.size ≤ w.heap.size + 1 := by omega
      exact Below.drew (put3 (put3 (unhide HE) (Nat.le_refl _) _ _ _) hz _ _ _)
end Go.Proofs.YthbfomcmjjnikaaGreat

import Derived.Test.YtfnacpkodfhfoacRmO
set_option linter.unusedSimpArgs false
set_option linter.unusedVariables false
namespace Go.Proofs.Ytfnacpkodfhfoac
open Go.RowKit Go.Sort

/-- While the columns are made. -/
def MLoop (tt : List Int) (e : Ex) (a : Option Addr) (c : Nat) (w : World) (s i : Value) (wr : World) : Prop := ∃ (k : Nat) (L : List Nd), k ≤ tt.length ∧ i = .int .i64 (k : Int) ∧ Hid (NInv (w.heap.size + 2) s L wr) ∧ Hid (L.map (·.1) = (tt.take k).map colE) ∧ Hid (∀ (j : Nat) (n : Int), j < k → tt[j]? = some n → 0 ≤ n) ∧ Hid (Below w.heap.size w wr) ∧ w.heap.size + 2 ≤ wr.heap.size ∧ Hid (Six wr w.heap.size e a c) ∧ Hid (Box6 wr (w.heap.size + 1) zeroE none 0)
theorem six_low {b lo : Nat} {e : Ex} {a : Option Addr} {c : Nat} {w w' : World} (h : Six w b e a c) (hb : Below lo w w') (hl : b < lo) : Six w' b e a c := by
  have hc : ∀ o, w'.cell? ⟨b, o, none⟩ = w.cell? ⟨b, o, none⟩ := fun o => hb.cell (p := ⟨b, o, none⟩) hl
  obtain ⟨s0, s1, s2, s3, s4, s5⟩ := h
  exact ⟨by rw [hc]; exact s0, by rw [hc]; exact s1, by rw [hc]; exact s2, by rw [hc]; exact s3, by rw [hc]; exact s4, by rw [hc]; exact s5⟩
theorem box6_low {b lo : Nat} {e : Ex} {a : Option Addr} {c : Nat} {w w' : World} (h : Box6 w b e a c) (hb : Below lo w w') (hl : b < lo) : Box6 w' b e a c := by
  have hz : ∀ o, w'.frozen? ⟨b, o, none⟩ = w.frozen? ⟨b, o, none⟩ := fun o => hb.frozen (p := ⟨b, o, none⟩) hl
  obtain ⟨h6, f0, f1, f2, f3, f4, f5⟩ := h
  exact ⟨six_low h6 hb hl, by rw [hz]; exact f0, by rw [hz]; exact f1, by rw [hz]; exact f2, by rw [hz]; exact f3, by rw [hz]; exact f4, by rw [hz]; exact f5⟩
/-- What Put answers where columns are put in. -/
theorem rput_cols (tt : List Int) (hti : ∀ n ∈ tt, In64 n) (h0 : ∀ n ∈ tt, 0 ≤ n) (htl : tt.length ≤ 140737488355328) (e : Ex) (hf : e.fin) (a : Option Addr) (c : Nat) (aB : Option Addr) (cB : Nat) (W : World) (ha : Ex.all W a e.args) (hA : Ex.all W aB (tt.map colE)) :
    Calls Try.prog 11 #[e.val a c, .slice aB tt.length cB] W fun r w' => (okM tt e = true → ∃ a2 c2, r = .returned (.tuple #[(madeE (movG tt) e).val a2 c2, .int .i64 0]) ∧ ExK W.heap.size w' a2 (madeE (movG tt) e).args) ∧ (okM tt e = false → r = .returned (.tuple #[zeroE.val none 0, .int .i64 1])) ∧ Below W.heap.size W w' := by
  have hl : tt.length = (tt.map colE).length := by rw [List.length_map]
  have hany : tt.any (fun n => decide (n < 0)) = false := by
    rw [List.any_eq_false]
    intro n hn
    have := h0 n hn
    simp
    omega
  have hok : okM tt e = (builtE e && usesB e tt.length) := by unfold okM; rw [hany]; simp
  rw [hl]
  refine (rput_any (tt.map colE) (cols_fin hti) (by omega) aB cB e hf a c W ha hA).mono fun r w' h => ?_
  rcases h with ⟨h1, h2, h3, h4, a2, c2, rfl, h6, h7⟩ | ⟨h1, rfl, h3⟩
  · rw [← hl] at h3
    have hk : okM tt e = true := by rw [hok, h1, h3]; rfl
    refine ⟨fun _ => ⟨a2, c2, ?_, ?_⟩, fun h => absurd (hk.symm.trans h) (by decide), h7⟩
    · rw [put_mov tt h0 e (built_good h1) h3]
    · rw [← put_mov tt h0 e (built_good h1) h3]; exact h6
  · have hk : okM tt e = false := by
      cases hb : builtE e with
      | false => rw [hok, hb]; rfl
      | true =>
        cases hu : usesB e tt.length with
        | false => rw [hok, hu]; simp
        | true =>
          exfalso
          have hmb := mov_built tt h0 e hb hu
          rw [← put_mov tt h0 e (built_good hb) hu] at hmb
          unfold okP at h1
          rw [hb, ← hl, hu, hmb] at h1
          have : ((tt.map colE).any fun e => !builtE e) = false := by
            rw [List.any_eq_false]
            intro x hx
            rw [cols_built h0 x hx]
            simp
          rw [this] at h1
          cases h1
    refine ⟨fun h => absurd (hk.symm.trans h) (by decide), fun _ => ?_, h3⟩
    have : errP (tt.map colE) e = 1 := by
      unfold errP
      rw [← hl]
      cases hb : builtE e with
      | false => simp
      | true =>
        rw [hok, hb, Bool.true_and] at hk
        rw [hk]
        simp
    rw [this]
set_option maxHeartbeats 2000000 in
set_option maxRecDepth 100000 in
/-- tallyref.Moved (7). -/
theorem rmoved_any (tt : List Int) (hti : ∀ n ∈ tt, In64 n) (htl : tt.length ≤ 2000000) (aB : Option Addr) (cB : Nat) (e : Ex) (hf : e.fin) (a : Option Addr) (c : Nat) (w : World) (ha : Ex.all w a e.args) (hA : IntsAt w aB tt) :
    Calls Try.prog 7 #[e.val a c, .slice aB tt.length cB] w (MovPost tt e w) := by
  have HP := hide (fun (h0 : ∀ n ∈ tt, 0 ≤ n) (aC : Option Addr) (cC : Nat) (W : World) (hW : Below w.heap.size w W) (hC : Ex.all W aC (tt.map colE)) => rput_cols tt hti h0 (by omega) e hf a c aC cC W (Ex.all_later _ ha hW) hC)
  have HC := hide rcolumn_any
  have HA := hide (fun (W : World) (hW : Below w.heap.size w W) => hA.later hW)
  obtain ⟨wa, hwa⟩ : ∃ wa, wa = ((w.alloc (.cells #[.int .i64 e.op, .int .i64 e.n, .int .i64 e.v.k, .int .i64 e.v.n, .string e.v.s, .slice a e.args.length c] 26)).alloc (.cells #[.int .i64 0, .int .i64 0, .int .i64 0, .int .i64 0, .string ⟨#[]⟩, .slice none 0 0] 26)) := ⟨_, rfl⟩
  have HBA : Hid (Below w.heap.size w wa) := by rw [hwa]; exact below_alloc (below_alloc (Below.refl _ w) _) _
  have H6 : Hid (Six wa w.heap.size e a c) := by rw [hwa]; exact (Six.new w e a c).later (below_alloc (Below.refl _ _) _)
  have HZ : Hid (Box6 wa (w.heap.size + 1) zeroE none 0) := by
    have h := Box6.new (w.alloc (.cells #[.int .i64 e.op, .int .i64 e.n, .int .i64 e.v.k, .int .i64 e.v.n, .string e.v.s, .slice a e.args.length c] 26)) zeroE none 0
    rw [show (w.alloc (.cells #[.int .i64 e.op, .int .i64 e.n, .int .i64 e.v.k, .int .i64 e.v.n, .string e.v.s, .slice a e.args.length c] 26)).heap.size = w.heap.size + 1 by simp [go_sem]] at h
    rw [hwa]
    exact h
  have hsa : wa.heap.size = w.heap.size + 2 := by rw [hwa]; simp [go_sem]
  rw [Ex.val_open] at HP ⊢
  clear ha hA
  go_enter Try.func7, Try.ntmps7
  go_upto_region 3 with fail
  rw [← hwa]
  clear hwa
  go_loopw [6, 11] (fun s i wr => MLoop tt e a c w s i wr) (fun _ i _ => tt.length - (intOf i).toNat)
  case atStart => exact ⟨0, [], Nat.zero_le _, rfl, NInv.nil _ _, rfl, fun j n hj => absurd hj (by omega), unhide HBA, by omega, unhide H6, unhide HZ⟩
  case round =>
    obtain ⟨k, L, hk, rfl, HN, HM, HNN, HB, hsr, H6r, HZr⟩ := hrel
    by_cases hlt : k < tt.length
    · have h9 : (k : Int) < (tt.length : Int) := by omega
      obtain ⟨n, hn⟩ : ∃ n, tt[k]? = some n := ⟨_, List.getElem?_eq_getElem hlt⟩
      obtain ⟨vb, vo, rfl, d0⟩ := (unhide HA wr (unhide HB)).get hn
      have HX := hide hn
      clear hn
      by_cases hneg : n < 0
      · have HOK : Hid (okM tt e = false) := by
          have : tt.any (fun n => decide (n < 0)) = true := any_at (unhide HX) (by simpa using hneg)
          show _ = _
          unfold okM
          rw [this]
          simp
        obtain ⟨⟨z0, z1, z2, z3, z4, z5⟩, f0, f1, f2, f3, f4, f5⟩ := unhide HZr
        go_wp2
        refine bodyPost_ret (v := .tuple #[zeroE.val none 0, .int .i64 1]) (by simp [results, Try.results7, go_sem, Ex.val, Ex.op, Ex.n, Ex.v, Ex.args, Val.null, *]) rfl (.inr ⟨unhide HOK, rfl, ?_⟩)
        exact put6 (unhide HB) (by omega) _ _ _ _ _ _
      · obtain ⟨av, cv, rfl⟩ := (unhide HN).1.slice
        have hLk : L.length = k := by have h := congrArg List.length (unhide HM); rw [List.length_map, List.length_map, List.length_take] at h; omega
        have HLK := hide hLk
        have HCC := hide (unhide HC n wr)
        rw [Ex.val_open] at HCC
        simp only [Ex.op, Ex.n, Ex.v, Ex.args, List.length_nil, Val.null] at HCC
        clear hLk
        go_wp2_with (first
          | (go_at_call 24; refine (unhide HCC).mono ?_; rintro r w3 ⟨rfl, hb3⟩; have HB3 := hide hb3; have hs3 := hb3.size; clear hb3)
          | (at_builtin; refine wpList_append_nodes _ rfl (.tmp 18) (.tmp 21) rfl (w.heap.size + 2) w3.heap.size (.slice av L.length cv) L [(colE n, none, 0)] rfl ((unhide HN).1.later (below_alloc (unhide HB3) _)) w3.heap.size 1 rfl (own_one w3 w3.heap.size (Nat.le_refl _) (colE n, none, 0)) (by rw [unhide HLK]; show k + 1 ≤ _; omega) (by simp; omega) ?_; intro v4 w4 hO4 hg4 hv4))
        have hN4 := (unhide HN).step0 (Below.refl _ _) (unhide HB3) (q := (colE n, none, 0)) (fun W' => by show Ex.all _ _ []; rw [Ex.all]; trivial) _ hO4 hg4 hv4
        have hB4 : Below (w.heap.size + 2) wr w4 := ((below_alloc (unhide HB3) _).mono hsr).trans (grown_below hg4 (by simp; omega) (fun g hg => (own_in (unhide HN).1 g hg).1))
        refine ⟨⟨k + 1, L ++ [(colE n, none, 0)], by omega, by go_num, hN4, ?_, ?_, (unhide HB).trans (hB4.mono (by omega)), Nat.le_trans hsr hB4.size, six_low (unhide H6r) hB4 (by omega), box6_low (unhide HZr) hB4 (by omega)⟩, by simp [intOf]; omega⟩
        · show _ = _
          rw [List.map_append, unhide HM, List.take_add_one, unhide HX, List.map_append]
          rfl
        · intro j m hj hm
          by_cases ej : j = k
          · subst ej; rw [unhide HX] at hm; injection hm with hm; omega
          · exact unhide HNN j m (by omega) hm
    · have h9 : ¬ (k : Int) < (tt.length : Int) := by omega
      obtain rfl : k = tt.length := by omega
      have hm := unhide HM
      rw [List.take_length] at hm
      have h0 : ∀ n ∈ tt, 0 ≤ n := fun n hn => by
        obtain ⟨j, hj⟩ := List.mem_iff_getElem?.1 hn
        exact unhide HNN j n (List.getElem?_eq_some_iff.1 hj).1 hj
      obtain ⟨aC, cC, rfl, hKC⟩ := (unhide HN).all (lo' := w.heap.size + 2) (Nat.le_refl _)
      have hlL : L.length = tt.length := by have h := congrArg List.length hm; rw [List.length_map, List.length_map] at h; exact h
      rw [hm] at hKC
      have HX := hide (unhide HP h0 aC cC wr (unhide HB) hKC.now)
      rw [hlL]
      clear hm h0 hKC hlL HM HNN HN HP
      obtain ⟨b0, b1, b2, b3, b4, b5⟩ := unhide H6r
      cases hok : okM tt e with
      | true =>
        rw [hok] at HX
        have HOK := hide hok
        obtain ⟨f, hfe⟩ : ∃ f, f = madeE (movG tt) e := ⟨_, rfl⟩
        rw [← hfe] at HX
        have HFE := hide hfe
        clear hok hfe
        go_wp2_with (go_at_call 11; refine (unhide HX).mono ?_; rintro r w4 ⟨hy, _, hb4⟩; obtain ⟨a2, c2, rfl, hK4⟩ := hy rfl; have HK4 := hide hK4; clear hK4 hy; obtain ⟨⟨z0, z1, z2, z3, z4, z5⟩, f0, f1, f2, f3, f4, f5⟩ := (unhide HZr).later hb4; rw [Ex.val_open])
        have hE := put6 (below_step (unhide HB) hb4) (B := w.heap.size + 1) (by omega) (.int .i64 f.op) (.int .i64 f.n) (.int .i64 f.v.k) (.int .i64 f.v.n) (.string f.v.s) (.slice a2 f.args.length c2)
        refine bodyPost_ret (v := .tuple #[f.val a2 c2, .int .i64 0]) (by simp [results, Try.results7, go_sem, Ex.val, *]) rfl (.inl ⟨unhide HOK, a2, c2, by rw [← unhide HFE], ?_, hE⟩)
        rw [← unhide HFE]
        refine ((unhide HK4).on ((((((Kept.of_low _ _ _ _ ?_).trans (Kept.of_low _ _ _ _ ?_)).trans (Kept.of_low _ _ _ _ ?_)).trans (Kept.of_low _ _ _ _ ?_)).trans (Kept.of_low _ _ _ _ ?_)).trans (Kept.of_low _ _ _ _ ?_))).now <;> omega
      | false =>
        rw [hok] at HX
        have HOK := hide hok
        clear hok
        go_wp2_with (go_at_call 11; refine (unhide HX).mono ?_; rintro r w4 ⟨_, hy, hb4⟩; obtain rfl := hy rfl; clear hy; obtain ⟨⟨z0, z1, z2, z3, z4, z5⟩, f0, f1, f2, f3, f4, f5⟩ := (unhide HZr).later hb4; rw [Ex.val_open])
        refine bodyPost_ret (v := .tuple #[zeroE.val none 0, .int .i64 1]) (by simp [results, Try.results7, go_sem, Ex.val, Ex.op, Ex.n, Ex.v, Ex.args, Val.null, *]) rfl (.inr ⟨unhide HOK, rfl, ?_⟩)
        exact put6 (below_step (unhide HB) hb4) (by omega) _ _ _ _ _ _
end Go.Proofs.Ytfnacpkodfhfoac

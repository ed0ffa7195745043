import Derived.Test.YtjnggnhgambmkaaGreatPackR
set_option linter.unusedSimpArgs false
set_option linter.unusedVariables false
namespace Go.Proofs.YtjnggnhgambmkaaGreat
open Go.RowKit Go.Sort

set_option maxHeartbeats 8000000 in
set_option maxRecDepth 100000 in
theorem apwords_any (base b0 : Nat) (zs : List Int) (xs : List Val) (vv v : Value) (w : World) (hown : OwnB w base v zs) (hlen : zs.length ≤ 1000000) (hl : xs.length ≤ 4096) (hs : ∀ x ∈ xs, x.s.size ≤ 1000) (hbase : base ≤ w.heap.size) (ha : OwnV w b0 vv xs) :
    Calls Tryz.prog 50 #[v, vv] w fun e w' => ∃ W v', WordsOf xs W ∧ e = .returned v' ∧ OwnB w' base v' (zs ++ wordsB W xs) ∧ Grew w w' v v' := by
  obtain ⟨i6, hi6, z60, z61, z62⟩ := info_parts Tryz.info87
  have hsep := ownB_ownV_ne hown ha
  obtain ⟨aa, ca, rfl, hspot, hnone, hrow⟩ := ownV_slice ha
  have hgv : ∀ g, v.ownBlock = some g → g < w.heap.size := fun g hg => (ownB_lt hown hg).2
  have H1 := hide (vclone_any aa ca xs w (by omega) hspot hrow hnone)
  have H2 : Hid (∀ w1 v5, OwnV w1 w.heap.size v5 xs → Below w.heap.size w w1 → Calls Tryz.prog 63 #[v5, .func (.func 64) #[] #[]] w1 fun e w' => e = .returned (.tuple #[]) ∧ ∃ S, (OwnV w' w.heap.size v5 S ∧ Below w.heap.size w w') ∧ S.Perm xs ∧ Rises S) := fun w1 v5 h1 h2 =>
    (vsort_any w.heap.size xs v5 w1 (by omega) h1).mono fun e w' ⟨he, S, q1, q2, q3, q4⟩ => ⟨he, S, ⟨q1, h2.trans (q2.below h2.size fun g hg => (World.ownsRow.lt h1 g hg).1)⟩, q3, q4⟩
  have H3 : Hid (∀ w2 v5 S, (OwnV w2 w.heap.size v5 S ∧ Below w.heap.size w w2) → (S.Perm xs ∧ Rises S) → Calls Tryz.prog 65 #[v5] w2 fun e w' => ∃ W a6 c6, e = .returned (.slice a6 W.length c6) ∧ Hid (WordsOf xs W) ∧ Hid (OwnV w' w.heap.size (.slice a6 W.length c6) W ∧ Below w.heap.size w w')) := fun w2 v5 S ⟨h1, h2⟩ ⟨h3, h4⟩ =>
    (vcompact_any w.heap.size S v5 w2 (by rw [h3.length_eq]; omega) h1).mono fun e w' ⟨v', he, q1, q2⟩ => by
      obtain ⟨a6, c6, rfl, _⟩ := ownV_slice q1
      exact ⟨compL S, a6, c6, he, ⟨S, h3, h4, rfl⟩, q1, h2.trans (q2.below h2.size fun g hg => (World.ownsRow.lt h1 g hg).1)⟩
  have H4 : Hid (∀ w3 W a6 c6, Hid (WordsOf xs W) → Hid (OwnV w3 w.heap.size (.slice a6 W.length c6) W ∧ Below w.heap.size w w3) → Calls Tryz.prog 44 #[v, .int .u64 (W.length : Int), .int .i64 2] w3 fun e w' => ∃ v', e = .returned v' ∧ Hid (OwnB w' base v' (zs ++ beL (W.length : Int) 2 2) ∧ OwnV w' w.heap.size (.slice a6 W.length c6) W ∧ Grew w w' v v')) := fun w3 W a6 c6 hW ⟨h1, h2⟩ => by
    have hO : OwnB w3 base v zs := own_later hown h2
    exact (appnum_any base zs (W.length : Int) 2 v w3 (by omega) hO (by omega) (by have := h2.size; omega)).mono fun e w' ⟨v', he, q1, q2⟩ => ⟨v', he, q1, h1.grew q2 (ownB_ownV_ne hO h1), (Grew.of_below h2 v).trans q2⟩
  have H5 : Hid (∀ w4 W a6 c6 v7, Hid (WordsOf xs W) → Hid (OwnB w4 base v7 (zs ++ beL (W.length : Int) 2 2) ∧ OwnV w4 w.heap.size (.slice a6 W.length c6) W ∧ Grew w w4 v v7) → Calls Tryz.prog 52 #[v7, .slice a6 W.length c6] w4 fun e w' => ∃ v', e = .returned v' ∧ Hid (OwnB w' base v' (zs ++ (beL (W.length : Int) 2 2 ++ plains W)) ∧ OwnV w' w.heap.size (.slice a6 W.length c6) W ∧ Grew w w' v v')) := fun w4 W a6 c6 v7 hW ⟨h1, h2, h3⟩ => by
    have hWl := (unhide hW).len
    obtain ⟨a6', c6', e6, _, _, hr6⟩ := ownV_slice h2
    injection e6 with e6 _ _
    subst e6
    have hsp := ownB_ownV_ne h1 h2
    refine (applains_any base _ a6 c6 W v7 w4 h1 (by rw [List.length_append, beL_len]; omega) (fun x hx => hs x ((unhide hW).sub hx)) (by have := h3.1.size; omega) hr6 (fun ad e => hsp ad.block (by rw [e]; rfl))).mono fun e w' ⟨v', he, q1, q2⟩ => ⟨v', he, by rw [← List.append_assoc]; exact q1, h2.grew q2 hsp, h3.trans q2⟩
  have HGV := hide hgv
  have HS := hide hs
  have HROW := hide hrow
  have HSEP : Hid (∀ ad, aa = some ad → v.ownBlock ≠ some ad.block) := fun ad e => hsep ad.block (by rw [e]; rfl)
  clear hown hs ha hsep hspot hnone hrow hgv
  go_enter Tryz.func50, Tryz.ntmps50
  go_wp2_with (first
    | (go_at_call 47; refine (unhide H1).mono ?_; rintro e w1 ⟨v5, rfl, q1, q2⟩; replace q1 := hide q1; replace q2 := hide q2)
    | (go_at_call 63; refine (unhide H2 _ _ (unhide q1) (unhide q2)).mono ?_; rintro e w2 ⟨rfl, S, q3, q4⟩; replace q3 := hide q3; replace q4 := hide q4)
    | (go_at_call 65; refine (unhide H3 _ _ _ (unhide q3) (unhide q4)).mono ?_; rintro e w3 ⟨W, a6, c6, rfl, HW, q5⟩; have hWl : (W.length : Int) ≤ 4096 := (by have := (unhide HW).len; omega))
    | (go_at_call 44; refine (unhide H4 _ _ _ _ HW q5).mono ?_; rintro e w4 ⟨v7, rfl, q6⟩)
    | (go_at_call 52; refine (unhide H5 _ _ _ _ _ HW q6).mono ?_; rintro e w5 ⟨v8, rfl, q7⟩)
    | (at_make; refine wpList_make_row _ rfl (.tmp 26) (.tmp 26) 98 rfl 87 i6 (.int .u64 0) Tryz.underlying98 hi6 z60 z61 rfl .i64 .i64 xs.length rfl rfl (by rw [z62]; omega) (by omega) ?_)
    | fail)
  obtain ⟨ns, hns⟩ : ∃ ns, Hid (ns = xs.map (posN W)) := ⟨_, rfl⟩
  have HNL : Hid (ns.length = xs.length) := by show _ = _; rw [unhide hns]; simp
  have hsz5 := (unhide q7).2.2.1.size
  have hr5 := ((unhide HROW).grew (unhide q7).2.2 (unhide HSEP))
  have HR5 := hide hr5
  obtain ⟨a6', c6', e6, _, _, hr6⟩ := ownV_slice (unhide q7).2.1
  injection e6 with e6 _ e7
  subst e6 e7
  have HR6 := hide hr6
  have HRI := hide (unhide HW).rises
  have HW8 : Hid (W.length ≤ 4096) := by show _ ≤ _; omega
  clear hr5 hr6
  go_loopw [30] (fun s wr => ∃ k : Nat, k ≤ xs.length ∧ s = .int .i64 (k : Int) ∧ wr.rowIs w5.heap.size 87 xs.length (numF ns k) ∧ Below w5.heap.size w5 wr) (fun s _ => xs.length - (intOf s).toNat)
  case atStart => exact ⟨0, Nat.zero_le _, rfl, (World.rowIs_made w5 (.int .u64 0) xs.length 87).congr fun j hj => by simp [numF], below_alloc (Below.refl _ _) _⟩
  case round =>
    obtain ⟨k, hk, rfl, hr, hb⟩ := hrel
    by_cases h8 : k < xs.length
    · have h9 : (k : Int) < (xs.length : Int) := by omega
      obtain ⟨x, hx⟩ : ∃ x, xs[k]? = some x := ⟨_, List.getElem?_eq_getElem h8⟩
      rcases (unhide HR5).later hb with e | ⟨rb, ro, rfl, hc⟩
      · rw [e] at hx; cases hx
      obtain ⟨c0, c1, c2⟩ := hc k x hx
      have bl := below_alloc (Below.refl _ wr) (.cells #[.int .i64 x.k, .int .i64 x.n, .string x.s] 38)
      have HP := hide (vpos_any a6 c6 W x (wr.alloc (.cells #[.int .i64 x.k, .int .i64 x.n, .string x.s] 38)) (by have := unhide HW8; omega) ((unhide HR6).later (below_step hb bl)) (unhide HRI))
      rw [Val.open_] at HP
      have hpl : posN W x ≤ 4096 := Nat.le_trans (Nat.le_of_lt (posN_lt ((unhide HW).mem (List.mem_of_getElem? hx)))) (unhide HW8)
      have hnk : ns[k]? = some (posN W x) := by rw [unhide hns]; simp [hx]
      have HM := hide (numF_next hnk)
      generalize posN W x = pp at *
      have HR2 := hide (hr.alloc (.cells #[.int .i64 x.k, .int .i64 x.n, .string x.s] 38))
      have HB2 := hide (below_step hb bl)
      have hszr := hb.size
      have hltr := hr.lt
      have FACT : Hid (∀ w9, Below (wr.alloc (.cells #[.int .i64 x.k, .int .i64 x.n, .string x.s] 38)).heap.size (wr.alloc (.cells #[.int .i64 x.k, .int .i64 x.n, .string x.s] 38)) w9 → Hid (w9.rowIs w5.heap.size 87 xs.length (numF ns k)) ∧ Hid (Below w5.heap.size w5 w9) ∧ w9.cell? ⟨w5.heap.size, k, none⟩ = some (.int .u64 0) ∧ w9.frozen? ⟨w5.heap.size, k, none⟩ = false) := fun w9 h => by
        have h3 := rowIs_later (unhide HR2) h
        exact ⟨h3, below_step (unhide HB2) h, by rw [h3.cell h8]; simp [numF], h3.frozen k⟩
      clear hc hx hr hb bl hnk
      go_wp2_with (go_at_call 66; refine (unhide HP).mono ?_; rintro e w9 ⟨⟨f, rfl⟩, hb9⟩; obtain ⟨HR9, HB9, cm, fm⟩ := unhide FACT _ hb9; clear hb9)
      go_roundw
      case rel =>
        refine ⟨k + 1, by omega, by go_num, ((unhide HR9).set k (.int .u64 (pp : Int))).congr fun j hj => ?_, (unhide HB9).setCell (p := ⟨w5.heap.size, k, none⟩) (Nat.le_refl _) _⟩
        rw [unhide HM j]
      case measure => first | (simp [intOf]; omega) | (simp only [intOf]; omega)
    · have h9 : ¬ (k : Int) < (xs.length : Int) := by omega
      have hk8 : k = xs.length := by omega
      rw [hk8, ← unhide HNL] at hr
      have hlis := numF_lis hr
      have H7 : Hid (Calls Tryz.prog 59 #[v8, .slice (some ⟨w5.heap.size, 0, none⟩) xs.length xs.length, .int .i64 (bl (W.length - 1) : Nat)] wr fun e w' => ∃ v3, e = .returned v3 ∧ OwnB w' base v3 (zs ++ wordsB W xs) ∧ Grew w w' v v3) := by
        obtain ⟨o1, o2, o3⟩ := unhide q7
        have hpl := plains_len4 W (fun x hx => unhide HS x ((unhide HW).sub hx)) (unhide HW8)
        have hd : bl (W.length - 1) ≤ 64 := bl_le (Nat.lt_of_le_of_lt (show W.length - 1 ≤ 4096 by have := unhide HW8; omega) (by decide))
        have := apbits_any base _ (some ⟨w5.heap.size, 0, none⟩) xs.length ns (bl (W.length - 1)) v8 wr (own_later o1 hb) (by rw [List.length_append, List.length_append, beL_len]; omega) (by rw [unhide HNL]; omega) hd (fun n hn => by
          rw [unhide hns] at hn
          obtain ⟨x, hx, rfl⟩ := List.mem_map.1 hn
          have h1 := posN_lt ((unhide HW).mem hx)
          exact Nat.lt_of_le_of_lt (by omega) (bl_lt (W.length - 1))) (by have := o3.1.size; have := hb.size; omega) hlis (fun ad e => by
          injection e with e
          subst e
          intro h3
          have := (ownB_lt o1 h3).2
          simp at this)
        rw [unhide HNL] at this
        refine this.mono fun e w' ⟨v3, he, h5, h6⟩ => ⟨v3, he, ?_, (o3.trans (Grew.of_below hb v8)).trans h6⟩
        rw [unhide hns] at h5
        rw [wordsB, ← List.append_assoc]
        exact h5
      have HWD := hide (fun W' => widthof_any W.length W' (by have := unhide HW8; omega))
      generalize bl (W.length - 1) = D at *
      clear hr hb hlis hk8
      go_wp2_with (first
        | (go_at_call 67; refine (unhide HWD _).mono ?_; rintro e w2 ⟨rfl, rfl⟩)
        | (go_at_call 59; refine (unhide H7).mono ?_; rintro e w3 ⟨v3, rfl, h5, h6⟩))
      go_ret
      exact ⟨_, _, unhide HW, rfl, h5, h6⟩
end Go.Proofs.YtjnggnhgambmkaaGreat

import Derived.Test.YtjnggnhgambmkaaGreatPackR
set_option linter.unusedSimpArgs false
set_option linter.unusedVariables false
namespace Go.Proofs.YtjnggnhgambmkaaGreat
open Go.RowKit Go.Sort

/-- How far a number is above another, as it wraps round. -/
def offN (least : Int) (x : Val) : Nat := ((x.n - least) % 18446744073709551616).toNat
theorem offN_lt (least : Int) (x : Val) : offN least x < 18446744073709551616 := by unfold offN; omega
theorem offN_wrap (least : Int) (x : Val) : IntKind.u64.wrap (IntKind.u64.wrap x.n - IntKind.u64.wrap least) = (offN least x : Int) := by
  simp only [IntKind.wrap_u64, offN]
  omega
def leastI : List Val → Int
  | [] => 0
  | x :: xs => (minFrom x xs).n
def widL (least : Int) (xs : List Val) : Nat := xs.foldl (fun m x => max m (bl (offN least x))) 0
theorem widL_next {least : Int} {xs : List Val} {k : Nat} {x : Val} (h : xs[k]? = some x) : widL least (xs.take (k + 1)) = max (widL least (xs.take k)) (bl (offN least x)) := by
  obtain ⟨h1, rfl⟩ := List.getElem?_eq_some_iff.1 h
  unfold widL
  rw [List.take_succ_eq_append_getElem h1, List.foldl_append]
  rfl
theorem wid_acc (least : Int) : ∀ (xs : List Val) (m : Nat), m ≤ 64 → xs.foldl (fun m x => max m (bl (offN least x))) m ≤ 64
  | [], m, h => h
  | x :: xs, m, h => by
    rw [List.foldl_cons]
    refine wid_acc least xs _ ?_
    have : bl (offN least x) ≤ 64 := bl_le (by have := offN_lt least x; simpa using this)
    omega
theorem widL_le (least : Int) (xs : List Val) : widL least xs ≤ 64 := wid_acc least xs 0 (by omega)
theorem wid_ge (least : Int) : ∀ (xs : List Val) (m : Nat), m ≤ xs.foldl (fun m x => max m (bl (offN least x))) m ∧ ∀ x ∈ xs, bl (offN least x) ≤ xs.foldl (fun m x => max m (bl (offN least x))) m
  | [], m => ⟨Nat.le_refl _, fun x h => by cases h⟩
  | x :: xs, m => by
    rw [List.foldl_cons]
    obtain ⟨h1, h2⟩ := wid_ge least xs (max m (bl (offN least x)))
    refine ⟨by omega, fun y hy => ?_⟩
    rcases List.mem_cons.1 hy with rfl | hy
    · omega
    · exact h2 y hy
theorem widL_ge {least : Int} {xs : List Val} {x : Val} (h : x ∈ xs) : offN least x < 2 ^ widL least xs := by
  have h1 := (wid_ge least xs 0).2 x h
  exact Nat.lt_of_lt_of_le (bl_lt _) (Nat.pow_le_pow_right (by decide) h1)
def offsB (least : Int) (xs : List Val) : List Int := (beL (IntKind.u64.wrap least) 8 8 ++ beL (widL least xs : Int) 1 1) ++ leB (total (widL least xs) (xs.map (offN least))) (bytesN xs.length (widL least xs))

set_option maxHeartbeats 8000000 in
set_option maxRecDepth 100000 in
theorem apoffs_any (base b0 : Nat) (zs : List Int) (xs : List Val) (vv v : Value) (w : World) (hown : OwnB w base v zs) (hlen : zs.length ≤ 1000000) (hl : xs.length ≤ 4096) (hbase : base ≤ w.heap.size) (ha : OwnV w b0 vv xs) :
    Calls Tryz.prog 51 #[v, vv] w fun e w' => ∃ v', e = .returned v' ∧ OwnB w' base v' (zs ++ offsB (leastI xs) xs) ∧ Grew w w' v v' := by
  obtain ⟨i6, hi6, z60, z61, z62⟩ := info_parts Tryz.info87
  obtain ⟨aa, ca, rfl, hspot, hnone, hrow⟩ := ownV_slice ha
  have hgv : ∀ g, v.ownBlock = some g → g < w.heap.size := fun g hg => (ownB_lt hown hg).2
  obtain ⟨ls, hls⟩ : ∃ ls, Hid (ls = leastI xs) := ⟨_, rfl⟩
  rw [← unhide hls]
  obtain ⟨ns, hns⟩ : ∃ ns, Hid (ns = xs.map (offN ls)) := ⟨_, rfl⟩
  have HNL : Hid (ns.length = xs.length) := by show _ = _; rw [unhide hns]; simp
  have HOWN := hide hown
  have HROW := hide hrow
  have HGV := hide hgv
  have HSEP : Hid (∀ ad, aa = some ad → v.ownBlock ≠ some ad.block) := fun ad e => ownB_ownV_ne hown ha ad.block (by rw [e]; rfl)
  have H5 : Hid (∀ W, Below w.heap.size w W → Calls Tryz.prog 44 #[v, .int .u64 (IntKind.u64.wrap ls), .int .i64 8] W fun e w' => ∃ v', e = .returned v' ∧ OwnB w' base v' (zs ++ beL (IntKind.u64.wrap ls) 8 8) ∧ Grew W w' v v') := fun W hW =>
    appnum_any base zs _ 8 v W (by omega) (own_later hown hW) (by omega) (by have := hW.size; omega)
  have H6 : Hid (∀ W v' (D : Nat), base ≤ W.heap.size → OwnB W base v' (zs ++ beL (IntKind.u64.wrap ls) 8 8) → Calls Tryz.prog 44 #[v', .int .u64 (D : Int), .int .i64 1] W fun e w' => ∃ v3, e = .returned v3 ∧ OwnB w' base v3 (zs ++ (beL (IntKind.u64.wrap ls) 8 8 ++ beL (D : Int) 1 1)) ∧ Grew W w' v' v3) := fun W v' D hW hO =>
    (appnum_any base _ (D : Int) 1 v' W (by omega) hO (by rw [List.length_append, beL_len]; omega) hW).mono fun e w' ⟨v3, he, h1, h2⟩ => ⟨v3, he, by rw [← List.append_assoc]; exact h1, h2⟩
  cases hxs : xs with
  | nil =>
    subst hxs
    have e0 : ls = 0 := unhide hls
    have HW0 : Hid (IntKind.u64.wrap ls = 0) := by show _ = _; rw [e0]; rfl
    have H7 : Hid (∀ W v8, OwnB W base v8 (zs ++ (beL (IntKind.u64.wrap ls) 8 8 ++ beL ((0 : Nat) : Int) 1 1)) → Grew w W v v8 → LisAt W (some ⟨w.heap.size, 0, none⟩) (([] : List Nat).map fun n : Nat => Value.int .u64 (n : Int)) → v8.ownBlock ≠ some w.heap.size → Calls Tryz.prog 59 #[v8, .slice (some ⟨w.heap.size, 0, none⟩) 0 0, .int .i64 0] W fun e w' => ∃ v3, e = .returned v3 ∧ OwnB w' base v3 (zs ++ offsB ls []) ∧ Grew w w' v v3) := fun W v8 o1 o2 l1 l2 => by
      have := apbits_any base _ (some ⟨w.heap.size, 0, none⟩) 0 [] 0 v8 W o1 (by rw [List.length_append, List.length_append, beL_len, beL_len]; omega) (by simp) (by omega) (fun n hn => by cases hn) (by have := o2.1.size; omega) l1 (fun ad e => by injection e with e; subst e; exact l2)
      refine this.mono fun e w' ⟨v3, he, h5, h6⟩ => ⟨v3, he, ?_, o2.trans h6⟩
      rw [offsB, ← List.append_assoc]
      exact h5
    rw [unhide HW0] at H5 H6 H7
    clear hown hrow hgv ha hnone hspot
    go_enter Tryz.func51, Tryz.ntmps51
    go_wp2_with (first
      | (at_make; refine wpList_make_row _ rfl (.tmp 17) (.tmp 17) 98 rfl 87 i6 (.int .u64 0) Tryz.underlying98 hi6 z60 z61 rfl .i64 .i64 0 rfl rfl (by rw [z62]; omega) (by omega) ?_)
      | fail)
    refine wp_loop_rounds 1 ?_
    rw [rounds_succ]
    have bl := below_alloc (Below.refl _ w) (.cells (madeCells #[.int .u64 0] 0) 87)
    have H5w := hide (unhide H5 _ bl)
    have H6b := hide (fun W v' hW h1 => unhide H6 W v' 0 hW h1)
    have HGB := hide (Grew.of_below bl v)
    have HNB : Hid (∀ W v8, Grew (w.alloc (.cells (madeCells #[.int .u64 0] 0) 87)) W v v8 → v8.ownBlock ≠ some w.heap.size) := fun W v8 h2 e => by
      rcases h2.2 with h3 | ⟨g, h3, h4⟩
      · rw [e] at h3
        have := unhide HGV _ h3.symm
        omega
      · rw [e] at h3
        injection h3 with h3
        simp at h4
        omega
    clear bl H5 H6
    go_wp2_with (first
      | (go_at_call_of 44 v; refine (unhide H5w).mono ?_; rintro e w2 ⟨v2, rfl, g1, g2⟩; replace g1 := hide g1; replace g2 := hide g2; have hb2 : base ≤ w2.heap.size := (by have := (unhide g2).1.size; simp at this; omega))
      | (go_at_call 44; refine (unhide H6b _ _ hb2 (unhide g1)).mono ?_; rintro e w3 ⟨v3, rfl, g3, g4⟩; replace g3 := hide g3; replace g4 := hide g4)
      | (go_at_call 59; refine (unhide H7 _ _ (unhide g3) ((unhide HGB).trans ((unhide g2).trans (unhide g4))) (.inl rfl) (unhide HNB _ _ ((unhide g2).trans (unhide g4)))).mono ?_; rintro e w4 ⟨v4, rfl, h5, h6⟩))
    go_ret
    exact ⟨_, rfl, h5, h6⟩
  | cons x0 ys =>
    have HMIN := hide (vmin_any aa ca x0 ys w (by rw [← hxs]; omega) (by rw [← hxs]; exact hrow))
    rw [← hxs] at HMIN ⊢
    have HLS : Hid ((minFrom x0 ys).n = ls) := by show _ = _; rw [unhide hls, hxs]; rfl
    rw [Val.open_] at HMIN
    rw [unhide HLS] at HMIN
    have h0 : (0 : Int) < (xs.length : Int) := by rw [hxs, List.length_cons]; omega
    generalize (minFrom x0 ys).k = mk at *
    generalize (minFrom x0 ys).s = ms at *
    clear hxs HLS hown hrow hgv ha hnone hspot
    have hfd : ∀ W : World, (Instr.field 38 (.agg #[.int .i64 mk, .int .i64 ls, .string ms]) 1).run Tryz.prog W = .ok (.int .i64 ls) W := fun _ => by kernel_rfl
    go_enter Tryz.func51, Tryz.ntmps51
    go_wp2_with (first
      | (go_at_call 68; refine (unhide HMIN).mono ?_; rintro e w1 ⟨rfl, hb1⟩; replace hb1 := hide hb1)
      | (at_make; refine wpList_make_row _ rfl (.tmp 17) (.tmp 17) 98 rfl 87 i6 (.int .u64 0) Tryz.underlying98 hi6 z60 z61 rfl .i64 .i64 xs.length rfl rfl (by rw [z62]; omega) (by omega) ?_)
      | fail)
    have HR1 := hide ((unhide HROW).later (unhide hb1))
    have hsz1 := (unhide hb1).size
    go_loopw [7, 21] (fun s7 s wr => ∃ k : Nat, k ≤ xs.length ∧ s = .int .i64 (k : Int) ∧ s7 = .int .i64 (widL ls (xs.take k) : Nat) ∧ wr.rowIs w1.heap.size 87 xs.length (numF ns k) ∧ Below w1.heap.size w1 wr) (fun _ s _ => xs.length - (intOf s).toNat)
    case atStart => exact ⟨0, Nat.zero_le _, rfl, rfl, (World.rowIs_made w1 (.int .u64 0) xs.length 87).congr fun j hj => by simp [numF], below_alloc (Below.refl _ _) _⟩
    case round =>
      obtain ⟨k, hk, rfl, rfl, hr, hb⟩ := hrel
      by_cases h8 : k < xs.length
      · have h9 : (k : Int) < (xs.length : Int) := by omega
        obtain ⟨x, hx⟩ : ∃ x, xs[k]? = some x := ⟨_, List.getElem?_eq_getElem h8⟩
        rcases (unhide HR1).later hb with e | ⟨rb, ro, rfl, hc⟩
        · rw [e] at hx; cases hx
        obtain ⟨c0, c1, c2⟩ := hc k x hx
        have hnk : ns[k]? = some (offN ls x) := by rw [unhide hns]; simp [hx]
        have HM := hide (numF_next hnk)
        have hw1 := offN_wrap ls x
        have HLT := offN_lt ls x
        have HWN := hide (widL_next (least := ls) hx)
        have hwl := widL_le ls (xs.take k)
        have hwl2 : bl (offN ls x) ≤ 64 := bl_le (by simpa using HLT)
        have HL := hide (fun W => len64_any (offN ls x) W HLT)
        generalize offN ls x = pp at *
        obtain ⟨WN, hWN⟩ : ∃ WN, Hid (WN = widL ls (xs.take (k + 1))) := ⟨_, rfl⟩
        rw [← unhide hWN] at HWN
        generalize widL ls (xs.take k) = wd at *
        generalize bl pp = bb at *
        have emax : (if wd < bb then (bb : Int) else (wd : Int)) = (WN : Int) := by rw [unhide HWN]; split <;> omega
        have HR1r := hide hr
        have HB1r := hide hb
        have hcw := hr.cell h8
        have hfw := hr.frozen k
        have HB2 := hide (below_alloc hb (.cells #[.int .i64 x.k, .int .i64 x.n, .string x.s] 38))
        have hszr := hb.size
        have hltr := hr.lt
        clear hc hx hr hb hnk
        go_wp2_with (go_at_call 69; refine (unhide HL _).mono ?_; rintro e w9 ⟨rfl, rfl⟩)
        go_roundw
        case rel =>
          refine ⟨k + 1, by omega, by go_num, ?_, (((unhide HR1r).set k (.int .u64 (pp : Int))).alloc _).congr fun j hj => ?_, below_alloc ((unhide HB1r).setCell (p := ⟨w1.heap.size, k, none⟩) (Nat.le_refl _) _) _⟩
          · rw [← unhide hWN, unhide HWN]
            congr 1
            omega
          · rw [unhide HM j]
        case measure => first | (simp [intOf]; omega) | (simp only [intOf]; omega)
      · have h9 : ¬ (k : Int) < (xs.length : Int) := by omega
        have hk8 : k = xs.length := by omega
        rw [hk8, ← unhide HNL] at hr
        rw [hk8, List.take_length]
        have hlis := numF_lis hr
        have hbw := below_step (unhide hb1) hb
        have hltr := hr.lt
        have HL1 : Hid (∀ w' v', Grew wr w' v v' → LisAt w' (some ⟨w1.heap.size, 0, none⟩) (ns.map fun n : Nat => Value.int .u64 (n : Int)) ∧ v'.ownBlock ≠ some w1.heap.size) := fun w' v' h2 => by
          refine ⟨hlis.grew h2 (fun ad e => ?_), fun e => ?_⟩
          · injection e with e
            subst e
            intro h3
            have := unhide HGV _ h3
            simp at this
            omega
          · rcases h2.2 with h3 | ⟨g, h3, h4⟩
            · rw [e] at h3
              have := unhide HGV _ h3.symm
              omega
            · rw [e] at h3
              injection h3 with h3
              omega
        have H5w := hide (unhide H5 wr hbw)
        have hwl := widL_le ls xs
        have HD7 : Hid (∀ n ∈ ns, n < 2 ^ widL ls xs) := fun n hn => by
          rw [unhide hns] at hn
          obtain ⟨x, hx, rfl⟩ := List.mem_map.1 hn
          exact widL_ge hx
        obtain ⟨RR, hRR⟩ : ∃ RR, Hid (RR = offsB ls xs) := ⟨_, rfl⟩
        have HOF : Hid (RR = (beL (IntKind.u64.wrap ls) 8 8 ++ beL (widL ls xs : Int) 1 1) ++ leB (total (widL ls xs) ns) (bytesN xs.length (widL ls xs))) := by show _ = _; rw [unhide hRR, offsB, unhide hns]
        generalize widL ls xs = D at *
        have H7 : Hid (∀ W v8, OwnB W base v8 (zs ++ (beL (IntKind.u64.wrap ls) 8 8 ++ beL (D : Int) 1 1)) → Grew wr W v v8 → Calls Tryz.prog 59 #[v8, .slice (some ⟨w1.heap.size, 0, none⟩) xs.length xs.length, .int .i64 (D : Int)] W fun e w' => ∃ v3, e = .returned v3 ∧ OwnB w' base v3 (zs ++ RR) ∧ Grew w w' v v3) := fun W v8 o1 o2 => by
          obtain ⟨l1, l2⟩ := unhide HL1 W v8 o2
          have := apbits_any base _ (some ⟨w1.heap.size, 0, none⟩) xs.length ns D v8 W o1 (by rw [List.length_append, List.length_append, beL_len, beL_len]; omega) (by rw [unhide HNL]; omega) hwl (unhide HD7) (by have := o2.1.size; have := hbw.size; omega) l1 (fun ad e => by injection e with e; subst e; exact l2)
          rw [unhide HNL] at this
          refine this.mono fun e w' ⟨v3, he, h5, h6⟩ => ⟨v3, he, ?_, ((Grew.of_below hbw v).trans o2).trans h6⟩
          rw [unhide HOF, ← List.append_assoc]
          exact h5
        have hD4 : (D : Int) ≤ 64 := by omega
        have hbs : base ≤ wr.heap.size := by have := hbw.size; omega
        have H6b := hide (fun W v' hW h1 => unhide H6 W v' D hW h1)
        clear hr hb hlis hk8 hwl H6 H5
        go_wp2_with (first
          | (go_at_call_of 44 v; refine (unhide H5w).mono ?_; rintro e w2 ⟨v2, rfl, g1, g2⟩; replace g1 := hide g1; replace g2 := hide g2; have hb2 : base ≤ w2.heap.size := (by have := (unhide g2).1.size; omega))
          | (go_at_call 44; refine (unhide H6b _ _ hb2 (unhide g1)).mono ?_; rintro e w3 ⟨v3, rfl, g3, g4⟩; replace g3 := hide g3; replace g4 := hide g4)
          | (go_at_call 59; refine (unhide H7 _ _ (unhide g3) ((unhide g2).trans (unhide g4))).mono ?_; rintro e w4 ⟨v4, rfl, h5, h6⟩))
        go_ret
        exact ⟨_, rfl, by rw [← unhide hRR]; exact h5, h6⟩
end Go.Proofs.YtjnggnhgambmkaaGreat
